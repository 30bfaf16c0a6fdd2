/- BrineText: the model's and the program's, and its law. -/
import Derived.Test.YtpblkkfafmcnpaaDoorIBrine
import Derived.Test.YtpblkkfafmcnpaaDoorNum
namespace Go.Proofs.YtpblkkfafmcnpaaDoor.Text
open Go.RowKit Go.Proofs.YtpblkkfafmcnpaaDoor.Mem Go.Proofs.YtpblkkfafmcnpaaDoor.Base Go.Proofs.YtpblkkfafmcnpaaDoor.Brine Go.Proofs.YtpblkkfafmcnpaaDoor.Regn Go.Proofs.YtpblkkfafmcnpaaDoor.Boxes Go.Proofs.YtpblkkfafmcnpaaDoor.IBrine Go.Proofs.YtpblkkfafmcnpaaDoor.Num
set_option linter.unusedVariables false
set_option maxRecDepth 100000
def numS (n : Int) : ByteArray := ⟨(Lib.itoa n).toArray⟩
theorem numS_list (n : Int) : (numS n).data.toList = Lib.itoa n := by simp [numS]
theorem numS_size (n : Int) (h0 : -1000000 ≤ n) (h1 : n ≤ 1000000) : (numS n).size ≤ 1000002 := by
  show (List.toArray _).size ≤ _; rw [List.size_toArray]; exact itoa_len n h0 h1
theorem num_below (n : Int) (h0 : -1000000 ≤ n) (h1 : n ≤ 1000000) (w : World) : Calls Tryd.prog 50 #[.int .i64 n] w (RPost (.string (numS n)) w) :=
  (num_any n h0 h1 w).mono fun _ _ ⟨he, k, hw⟩ => ⟨he, by rw [hw]; exact (Drawn.n w k).below _⟩
/-- a brine's text. -/
def txt (a b : Int) : ByteArray := ⟨#[119]⟩ ++ numS a ++ ⟨#[32, 115]⟩ ++ numS b
def txtV (a b : Int) : Value := if okB a b = true then .tuple #[.string (txt a b), .bool true] else .tuple #[.string ⟨#[]⟩, .bool false]
theorem txt_no {a b : Int} (h : okB a b = false) : txtV a b = .tuple #[.string ⟨#[]⟩, .bool false] := by unfold txtV; rw [h]; rfl
theorem txt_yes {a b : Int} (h : okB a b = true) : txtV a b = .tuple #[.string (txt a b), .bool true] := by unfold txtV; rw [if_pos h]
theorem text_spec (a b : Int) (ha : 0 ≤ a) (ha1 : a ≤ 1000000) (hb : 0 ≤ b) (hb1 : b ≤ 1000000) (w : World) : Calls Tryd.prog 28 #[.agg #[.int .i64 a, .int .i64 b]] w (RPost (.string (txt a b)) w) := by
  have sA := numS_size a (by omega) ha1
  have sB := numS_size b (by omega) hb1
  have HT := Lib.hid (show txt a b = ⟨#[119]⟩ ++ numS a ++ ⟨#[32, 115]⟩ ++ numS b from rfl)
  have H1 := Lib.hid (num_below a (by omega) ha1)
  have H2 := Lib.hid (num_below b (by omega) hb1)
  generalize numS a = A at sA HT H1
  generalize numS b = B' at sB HT H2
  have c1 : ¬ 9223372036854775807 < 1 + A.size := by omega
  have c2 : ¬ 9223372036854775807 < 1 + A.size + 2 := by omega
  have c3 : ¬ 9223372036854775807 < 1 + A.size + 2 + B'.size := by omega
  go_enter Tryd.func28, Tryd.ntmps28
  go_wp2
  have B := Box.new (Below.refl _ w) [.int .i64 a, .int .i64 b] 25 (g := w.heap.size) rfl
  generalize (w.alloc (.cells #[.int .i64 a, .int .i64 b] 25)) = W1 at B ⊢
  have B_0 := B.cells 0 _ rfl
  have B_1 := B.cells 1 _ rfl
  have B_f0 := B.free 0 (by simp)
  have B_f1 := B.free 1 (by simp)
  have B_t := B.there
  refine wp_region_text (fun w' => Box (w.heap.size) [.int .i64 a, .int .i64 b] w w') (by kernel_rfl) (by kernel_rfl) (B.drew) ?_
  clear B_0 B_1 B_f0 B_f1 B_t
  iterate 10 (
    apply SeqH.one
    · intro uw K hS hK
      have qB := hS
      have qB_0 := qB.cells 0 _ rfl
      have qB_1 := qB.cells 1 _ rfl
      first
        | (go_simp; exact hK.out _ qB)
        | (go_simp; go_at_call 50; (with_reducible refine (H1.out _).mono ?_); rintro e uw1 ⟨rfl, hv⟩; go_wp2_with fail; exact hK.out _ (qB.more hv))
        | (go_simp; go_at_call 50; (with_reducible refine (H2.out _).mono ?_); rintro e uw1 ⟨rfl, hv⟩; go_wp2_with fail; exact hK.out _ (qB.more hv))
    try simp only [Act.put, List.setIfInBounds_toArray, List.set_cons_zero, List.set_cons_succ])
  refine SeqH.end' rfl ?_
  intro v2 hS
  clear B
  have B := hS; clear hS
  have B_0 := B.cells 0 _ rfl
  have B_1 := B.cells 1 _ rfl
  have B_f0 := B.free 0 (by simp)
  have B_f1 := B.free 1 (by simp)
  have B_t := B.there
  go_wp2
  go_ret
  exact rpost (by rw [HT.out] <;> rfl) B.below
theorem btext_spec (a b : Int) (w : World) : Calls Tryd.prog 8 #[.agg #[.int .i64 a, .int .i64 b]] w (RPost (txtV a b) w) := by
  go_enter Tryd.func8, Tryd.ntmps8
  go_wp2_with fail
  have B := Box.new (Below.refl _ w) [.int .i64 a, .int .i64 b] 25 (g := w.heap.size) rfl
  generalize (w.alloc (.cells #[.int .i64 a, .int .i64 b] 25)) = W1 at B ⊢
  have B_0 := B.cells 0 _ rfl
  have B_1 := B.cells 1 _ rfl
  have B_f0 := B.free 0 (by simp)
  have B_f1 := B.free 1 (by simp)
  have B_t := B.there
  go_wp2_with fail
  refine (brine_spec a b _).mono ?_
  rintro e v2 ⟨rfl, hv2⟩
  clear B_0 B_1 B_f0 B_f1 B_t
  replace B := B.more hv2
  have zhv2 := hv2.size
  clear hv2
  have B_0 := B.cells 0 _ rfl
  have B_1 := B.cells 1 _ rfl
  have B_f0 := B.free 0 (by simp)
  have B_f1 := B.free 1 (by simp)
  have B_t := B.there
  cases hok : okB a b
  · go_wp2
    go_ret2
    exact rpost (txt_no hok).symm B.below
  obtain ⟨ha, ha1, hb, hb1⟩ := okB_true hok
  have H := Lib.hid (txt_yes hok)
  go_wp2_with fail
  refine (text_spec a b ha ha1 hb hb1 _).mono ?_
  rintro e v3 ⟨rfl, hv3⟩
  clear B_0 B_1 B_f0 B_f1 B_t
  replace B := B.more hv3
  have zhv3 := hv3.size
  clear hv3
  have B_0 := B.cells 0 _ rfl
  have B_1 := B.cells 1 _ rfl
  have B_f0 := B.free 0 (by simp)
  have B_f1 := B.free 1 (by simp)
  have B_t := B.there
  generalize txt a b = t at H ⊢
  go_wp2
  go_ret2
  exact rpost H.out.symm B.below
theorem itoa_num (n : Int) (h0 : -1000000 ≤ n) (h1 : n ≤ 1000000) (w : World) (ht : Tab w) :
    Calls Tryd.prog 23 #[.int .i64 n] w (RPost (.string (numS n)) w) := itoa_any n (by omega) (by omega) w ht
theorem btext_impl (a b : Int) (w : World) (ht : Tab w) : Calls Tryd.prog 6 #[.agg #[.int .i64 a, .int .i64 b]] w (RPost (txtV a b) w) := by
  have HTab := Lib.hid ht; clear ht
  go_enter Tryd.func6, Tryd.ntmps6
  go_wp2_with fail
  have B := Box.new (Below.refl _ w) [.int .i64 a, .int .i64 b] 25 (g := w.heap.size) rfl
  generalize (w.alloc (.cells #[.int .i64 a, .int .i64 b] 25)) = W1 at B ⊢
  have B_0 := B.cells 0 _ rfl
  have B_1 := B.cells 1 _ rfl
  have B_f0 := B.free 0 (by simp)
  have B_f1 := B.free 1 (by simp)
  have B_t := B.there
  go_wp2_with fail
  refine (brine_impl a b _).mono ?_
  rintro e v2 ⟨rfl, hv2⟩
  clear B_0 B_1 B_f0 B_f1 B_t
  replace B := B.more hv2
  have zhv2 := hv2.size
  clear hv2
  have B_0 := B.cells 0 _ rfl
  have B_1 := B.cells 1 _ rfl
  have B_f0 := B.free 0 (by simp)
  have B_f1 := B.free 1 (by simp)
  have B_t := B.there
  cases hok : okB a b
  · go_wp2
    go_ret2
    exact rpost (txt_no hok).symm B.below
  obtain ⟨ha, ha1, hb, hb1⟩ := okB_true hok
  have sA := numS_size a (by omega) ha1
  have sB := numS_size b (by omega) hb1
  have HT := Lib.hid (show txtV a b = .tuple #[.string (⟨#[119]⟩ ++ numS a ++ ⟨#[32, 115]⟩ ++ numS b), .bool true] from txt_yes hok)
  have H1 := Lib.hid (itoa_num a (by omega) ha1)
  have H2 := Lib.hid (itoa_num b (by omega) hb1)
  generalize numS a = A at sA HT H1
  generalize numS b = B' at sB HT H2
  have c1 : ¬ 9223372036854775807 < 1 + A.size := by omega
  have c2 : ¬ 9223372036854775807 < 1 + A.size + 2 := by omega
  have c3 : ¬ 9223372036854775807 < 1 + A.size + 2 + B'.size := by omega
  go_wp2
  refine wp_region_text (fun w' => Box (w.heap.size) [.int .i64 a, .int .i64 b] w w') (by kernel_rfl) (by kernel_rfl) (B.drew) ?_
  clear B_0 B_1 B_f0 B_f1 B_t
  iterate 11 (
    apply SeqH.one
    · intro uw K hS hK
      have qB := hS
      have qB_0 := qB.cells 0 _ rfl
      have qB_1 := qB.cells 1 _ rfl
      first
        | (go_simp; exact hK.out _ qB)
        | (go_simp; go_at_call 23; (with_reducible refine (H1.out _ (HTab.out.below qB.below)).mono ?_); rintro e uw1 ⟨rfl, hv⟩; go_wp2_with fail; exact hK.out _ (qB.more hv))
        | (go_simp; go_at_call 23; (with_reducible refine (H2.out _ (HTab.out.below qB.below)).mono ?_); rintro e uw1 ⟨rfl, hv⟩; go_wp2_with fail; exact hK.out _ (qB.more hv))
    try simp only [Act.put, List.setIfInBounds_toArray, List.set_cons_zero, List.set_cons_succ])
  refine SeqH.end' rfl ?_
  intro v3 hS
  clear B
  have B := hS; clear hS
  have B_0 := B.cells 0 _ rfl
  have B_1 := B.cells 1 _ rfl
  have B_f0 := B.free 0 (by simp)
  have B_f1 := B.free 1 (by simp)
  have B_t := B.there
  go_wp2
  go_ret2
  exact rpost (by rw [HT.out] <;> rfl) B.below
end Go.Proofs.YtpblkkfafmcnpaaDoor.Text
