/- Heaps: l1Own, slices.Clone of ints, l7Can, canPut, l7Top, topOf, liesOpen. -/
import Derived.Test.YtokgncbcknpfiaaDoorHeapG
import Derived.Test.YtokgncbcknpfiaaDoorHeap2
import Derived.Test.YtokgncbcknpfiaaDoorIClone
import Derived.Deep.AppendLies
namespace Go.Proofs.YtokgncbcknpfiaaDoor.HeapP
open Go.RowKit Go.Proofs.YtokgncbcknpfiaaDoor.Mem Go.Proofs.YtokgncbcknpfiaaDoor.Base Go.Proofs.YtokgncbcknpfiaaDoor.Within Go.Proofs.YtokgncbcknpfiaaDoor.SInt Go.Proofs.YtokgncbcknpfiaaDoor.Boxes Go.Proofs.YtokgncbcknpfiaaDoor.Keep Go.Proofs.YtokgncbcknpfiaaDoor.Regn Go.Proofs.YtokgncbcknpfiaaDoor.Nest Go.Proofs.YtokgncbcknpfiaaDoor.HeapS Go.Proofs.YtokgncbcknpfiaaDoor.HeapW Go.Proofs.YtokgncbcknpfiaaDoor.Heap Go.Proofs.YtokgncbcknpfiaaDoor.Heap2 Go.Proofs.YtokgncbcknpfiaaDoor.HeapG
set_option linter.unusedVariables false
set_option maxRecDepth 100000
/-- these numbers in a row of the call's own. -/
def RowPost (l : List Int) (w : World) (e : Ending) (w' : World) : Prop :=
  ∃ r : Row, r.ls = l ∧ e = .returned (.slice r.A l.length r.cap) ∧ RowOwn w' w.heap.size r ∧ Below w.heap.size w w'
theorem cell_one (u : World) (x : Value) (T : TypeId) : ∀ j v, [x][j]? = some v → (u.alloc (.cells #[x] T)).cell? (Addr.add ⟨u.heap.size, 0, none⟩ j) = some v := by
  intro j v hv
  have h1 := (Box.new (w := u) (Below.refl _ u) [x] T (g := u.heap.size) rfl).cells j v hv
  have e : (Addr.add ⟨u.heap.size, 0, none⟩ j) = ⟨u.heap.size, j, none⟩ := by unfold Addr.add; split
                                                                              · rename_i h; subst h; rfl
                                                                              · simp
  rw [e]; exact h1
theorem row_snoc {w : World} {base : Nat} {A1 : Option Addr} {c1 : Nat} {L : List Int} {x : Int} (h : w.ownsRow base 3 1 (.slice A1 (L.length + 1) c1) (L.length + 1) (iv L ++ [.int .i64 x])) :
    RowOwn w base ⟨A1, c1, L ++ [x]⟩ := by
  have e : iv (L ++ [x]) = iv L ++ [.int .i64 x] := by simp [iv]
  show w.ownsRow base 3 1 (.slice A1 (L ++ [x]).length c1) (L ++ [x]).length (iv (L ++ [x]))
  rw [e, List.length_append]; exact h
theorem clone_impl (P : Option Addr) (cap : Nat) (l : List Int) (w : World) (hr : Rd w w.heap.size P (iv l)) (hn : l.length ≤ 1048576) :
    Calls Tryd.prog 56 #[.slice P l.length cap] w (RowPost l w) :=
  (IClone.clone_any P cap l w hr hn).mono fun e w' h => by
    obtain ⟨A, c, h1, h2, h3⟩ := h
    exact ⟨⟨A, c, l⟩, rfl, h1, h2, h3⟩
set_option maxHeartbeats 400000 in
theorem own_spec (P : Option Addr) (cap : Nat) (l : List Int) (w : World) (hr : Rd w w.heap.size P (iv l)) (hn : l.length ≤ 1048576) :
    Calls Tryd.prog 58 #[.slice P l.length cap] w (RowPost l w) := by
  obtain ⟨i0, hi, hz0, hz1, hz2⟩ := info_parts info_int
  have HI := Lib.hid hz2; clear hz2
  have HI1 := Lib.hid hz1; clear hz1
  have HO := Lib.hid (IClone.empty_own (Below.refl _ w))
  cases P with
  | none =>
    have hl : l = [] := by
      rcases hr with h | ⟨b, o, hA, _⟩
      · exact IClone.iv_nil h
      · cases hA
    subst hl
    go_enter Tryd.func58, Tryd.ntmps58
    go_wp2_with fail
    go_ret
    exact ⟨⟨some ⟨w.heap.size, 0, none⟩, 0, []⟩, rfl, rfl, HO.out, al (Below.refl _ _)⟩
  | some ad =>
    have hnews : ∀ j u, (iv l)[j]? = some u → (w.alloc (.cells #[] 3)).cell? (ad.add j) = some u := by
      intro j u hu
      rcases hr with h | ⟨b, o, hA, hb, hc⟩
      · rw [h] at hu; cases hu
      · injection hA with hA; subst hA
        rw [IClone.cell_add, ((bcell (al (Below.refl w.heap.size w) (o := .cells #[] 3))).1 _ _ hb)]
        exact hc j u hu
    have HN := Lib.hid hnews; clear hnews
    go_enter Tryd.func58, Tryd.ntmps58
    go_wp2_with (at_builtin; go_must (refine wpList_append_own _ rfl _ _ 39 rfl w.heap.size 3 i0 _ 1 8 Tryd.underlying39 hi hz0 HI1.out HI.out rfl (by decide) _ 0 _ rfl HO.out ad l.length cap (iv l) rfl (IClone.iv_n l) HN.out (IClone.iv_one l) (by unfold maxLen; omega) (by omega) (by rw [size_alloc']; omega) ?_; intro v' w9 hown1 hgrow _))
    have hB9 := bl_grown (al (Below.refl w.heap.size w) (o := .cells #[] 3)) hgrow (fun k hk => own_ge HO.out k hk)
    obtain ⟨A1, c1, rfl⟩ := own_form hown1
    have HO1 : w9.ownsRow w.heap.size 3 1 (.slice A1 l.length c1) l.length (iv l) := by simpa [show iv [] = [] from rfl] using hown1
    clear hgrow hown1
    go_wp2
    go_ret
    exact ⟨⟨A1, c1, l⟩, rfl, by simp, HO1, hB9⟩
theorem top_impl (A : Option Addr) (c : Nat) (l : List Int) (w : World) (hr : Rd w w.heap.size A (iv l)) (hn : l.length ≤ 1048576) :
    Calls Tryd.prog 59 #[.slice A l.length c] w fun e w' => e = .returned (.int .i64 (topE 501 l)) ∧ w = w' := by
  rcases Nat.eq_zero_or_pos l.length with h0 | h0
  · have HT := Lib.hid (topE_nil 501 h0)
    have h0' : ((l.length : Int) == 0) = true := by rw [h0]; rfl
    clear h0
    go_enter Tryd.func59, Tryd.ntmps59
    go_wp2
    go_ret
    exact ⟨by rw [HT.out]; rfl, rfl⟩
  · obtain ⟨k, hk⟩ : ∃ k, l.length = k + 1 := ⟨l.length - 1, by omega⟩
    obtain ⟨b, o, rfl, hb, hc⟩ := hr.at (k := k) (by rw [iv_len]; omega)
    obtain ⟨x, hx⟩ : ∃ x, l[k]'(by omega) = x := ⟨_, rfl⟩
    have hcell : w.cell? ⟨b, o + k, none⟩ = some (.int .i64 x) := by rw [← hx]; exact hc k _ (iv_get l k (by omega))
    have HT := Lib.hid (topE_last 501 hk hx)
    have h0' : ((l.length : Int) == 0) = false := by rw [beq_eq_false_iff_ne]; omega
    have q2 : IntKind.i64.wrap (k : Int) = k := IntWalk.i64_in _ (by omega)
    rw [hk] at h0' ⊢
    clear hc hx h0 hn hk
    go_enter Tryd.func59, Tryd.ntmps59
    go_wp2
    go_ret
    exact ⟨by rw [HT.out]; rfl, rfl⟩
theorem top_spec (x : R) (w : World) (hr : Rd w w.heap.size x.f2.A (iv x.f2.ls)) (hn : x.f2.ls.length ≤ 1048576) :
    Calls Tryd.prog 44 #[.agg #[.int .i64 x.f0, .int .i64 x.f1, .slice x.f2.A x.f2.ls.length x.f2.cap, .bool x.f3]] w (RPost (.int .i64 (topE 1000 x.f2.ls)) w) := by
  obtain ⟨a, g, ⟨A, c, l⟩, q⟩ := x
  dsimp only at hr hn ⊢
  rcases Nat.eq_zero_or_pos l.length with h0 | h0
  · have HT := Lib.hid (topE_nil 1000 h0)
    have h0' : decide (0 < l.length) = false := decide_eq_false (by omega)
    have h1' : decide ((0 : Int) < l.length) = false := decide_eq_false (by omega)
    clear h0
    go_enter Tryd.func44, Tryd.ntmps44
    go_wp2
    go_ret
    exact rpost (by rw [HT.out]; rfl) (al (Below.refl _ _))
  · obtain ⟨k, hk⟩ : ∃ k, l.length = k + 1 := ⟨l.length - 1, by omega⟩
    obtain ⟨b, o, rfl, hb, hc⟩ := hr.at (k := k) (by rw [iv_len]; omega)
    obtain ⟨x, hx⟩ : ∃ x, l[k]'(by omega) = x := ⟨_, rfl⟩
    have hcell : (w.alloc (.cells #[.int .i64 a, .int .i64 g, .slice (some ⟨b, o, none⟩) (k + 1) c, .bool q] 41)).cell? ⟨b, o + k, none⟩ = some (.int .i64 x) := by
      rw [(bcell (al (Below.refl w.heap.size w))).1 _ _ hb, ← hx]; exact hc k _ (iv_get l k (by omega))
    have HT := Lib.hid (topE_last 1000 hk hx)
    have q1 : (0 : Int) < (k : Int) + 1 := by omega
    have q2 : IntKind.i64.wrap (k : Int) = k := IntWalk.i64_in _ (by omega)
    rw [hk]
    clear hc hx h0 hn hk hr
    go_enter Tryd.func44, Tryd.ntmps44
    go_wp2
    go_ret
    exact rpost (by rw [HT.out]; rfl) (al (Below.refl _ _))
theorem can_eq (x : R) (g t : Int) : can x.pure g t = ((x.f1 == g) && !x.f3 && okLs (x.f2.ls ++ [t])) := by
  unfold can R.pure
  congr 2
set_option maxHeartbeats 800000 in
theorem can_impl (x : R) (g t : Int) (w : World) (hr : Rd w w.heap.size x.f2.A (iv x.f2.ls)) (hn : x.f2.ls.length ≤ 1000) :
    Calls Tryd.prog 30 #[.agg #[.int .i64 x.f0, .int .i64 x.f1, .slice x.f2.A x.f2.ls.length x.f2.cap, .bool x.f3], .int .i64 g, .int .i64 t] w (RPost (.bool (can x.pure g t)) w) := by
  obtain ⟨i0, hi, hz0, hz1, hz2⟩ := info_parts info_int
  have HI := Lib.hid hz2; clear hz2
  have HI1 := Lib.hid hz1; clear hz1
  have HV := Lib.hid (can_eq x g t)
  obtain ⟨a, k, ⟨A, c, l⟩, q⟩ := x
  dsimp only at hr hn HV ⊢
  have HR := Lib.hid hr; clear hr
  generalize can (R.pure ⟨a, k, ⟨A, c, l⟩, q⟩) g t = res at HV ⊢
  cases h1 : (k == g)
  · go_enter Tryd.func30, Tryd.ntmps30
    go_wp2
    go_ret
    exact rpost (by rw [HV.out, h1] <;> rfl) (al (Below.refl _ _))
  obtain rfl : k = g := eq_of_beq h1
  clear h1
  cases q
  · go_enter Tryd.func30, Tryd.ntmps30
    go_upto_region 1 with fail
    have X := Box.new (Below.refl _ w) [.int .i64 a, .int .i64 k, .slice A l.length c, .bool false] 41 (g := w.heap.size) rfl
    generalize (w.alloc (.cells #[.int .i64 a, .int .i64 k, .slice A l.length c, .bool false] 41)) = W1 at X ⊢
    have X_0 := X.cells 0 _ rfl
    have X_1 := X.cells 1 _ rfl
    have X_2 := X.cells 2 _ rfl
    have X_3 := X.cells 3 _ rfl
    have X_f0 := X.free 0 (by simp)
    have X_f1 := X.free 1 (by simp)
    have X_f2 := X.free 2 (by simp)
    have X_f3 := X.free 3 (by simp)
    have X_t := X.there
    have X_0 := X.cells 0 _ rfl
    have X_1 := X.cells 1 _ rfl
    have X_2 := X.cells 2 _ rfl
    have X_3 := X.cells 3 _ rfl
    have X_f0 := X.free 0 (by simp)
    have X_f1 := X.free 1 (by simp)
    have X_f2 := X.free 2 (by simp)
    have X_f3 := X.free 3 (by simp)
    have X_t := X.there
    go_wp2_with fail
    refine (clone_impl A c l _ (rd_keep HR.out X.below) (by omega)).mono ?_
    rintro e w2 ⟨⟨A1, c1, l1⟩, hl, rfl, ho, hB2⟩
    dsimp only at hl ⊢
    subst hl
    have hs2 := hB2.size
    have HO := Lib.hid ho
    have HOA := Lib.hid (World.ownsRow.alloc ho (.cells #[.int .i64 t] 3))
    have HNC := Lib.hid (cell_one w2 (.int .i64 t) 3)
    have X2 := X.more hB2
    clear ho hB2
    go_wp2_with (at_builtin; go_must (refine BigFrame.wpList_want (by rfl) ?_; intro K hK; refine wp_append_own _ _ _ 39 rfl W1.heap.size 3 i0 _ 1 8 Tryd.underlying39 hi hz0 HI1.out HI.out rfl (by decide) _ l1.length (iv l1) rfl HOA.out ⟨w2.heap.size, 0, none⟩ 1 1 [.int .i64 t] rfl rfl HNC.out (one_cell rfl) (by unfold maxLen; omega) (by omega) (by rw [size_alloc']; omega) ?_; intro v' w9 hown1 hgrow _; refine hK _ _ ?_))
    obtain ⟨A3, c3, rfl⟩ := own_form hown1
    have hrow := row_snoc hown1
    have hb9 : Below w.heap.size w w9 := bl_grown (al X2.below (o := .cells #[.int .i64 t] 3)) hgrow (fun k hk => by have := own_ge HO.out k hk; have := X.below.size; omega)
    clear hown1 hgrow
    have hL := lays_impl A3 c3 (l1 ++ [t]) w9 hrow.rd (by rw [List.length_append]; simp; omega)
    rw [show (l1 ++ [t]).length = l1.length + 1 by simp] at hL
    refine hL.mono ?_
    rintro e w4 ⟨rfl, hB4⟩
    have HB := be hb9 hB4
    go_wp2
    go_ret
    exact rpost (by rw [HV.out] <;> simp) HB
  · go_enter Tryd.func30, Tryd.ntmps30
    go_wp2
    go_ret
    exact rpost (by rw [HV.out] <;> simp) (al (Below.refl _ _))
set_option maxHeartbeats 800000 in
theorem can_spec (x : R) (g t : Int) (w : World) (hr : Rd w w.heap.size x.f2.A (iv x.f2.ls)) (hok : okH x.pure = true) :
    Calls Tryd.prog 33 #[.agg #[.int .i64 x.f0, .int .i64 x.f1, .slice x.f2.A x.f2.ls.length x.f2.cap, .bool x.f3], .int .i64 g, .int .i64 t] w (RPost (.bool (can x.pure g t)) w) := by
  obtain ⟨i0, hi, hz0, hz1, hz2⟩ := info_parts info_int
  have HI := Lib.hid hz2; clear hz2
  have HI1 := Lib.hid hz1; clear hz1
  have HV := Lib.hid (can_eq x g t)
  obtain ⟨a, k, ⟨A, c, l⟩, q⟩ := x
  dsimp only at hr HV ⊢
  have h5 : 1 ≤ a ∧ a ≤ 99 ∧ 1 ≤ k ∧ k ≤ 4 ∧ okLs l = true := okH_true hok
  have hn : l.length ≤ 12 := okLs_len h5.2.2.2.2
  have HO2 := Lib.hid (show ∀ r : Row, r.ls = l ++ [t] → okH (R.pure ⟨a, k, r, q⟩) = okLs (l ++ [t]) from fun r hr => by
    show (inB a 1 99 && inB k 1 4 && okLs r.ls) = _
    rw [hr, inB_true ⟨h5.1, h5.2.1⟩, inB_true ⟨h5.2.2.1, h5.2.2.2.1⟩]; rfl)
  have HR := Lib.hid hr; clear hr hok h5
  generalize can (R.pure ⟨a, k, ⟨A, c, l⟩, q⟩) g t = res at HV ⊢
  go_enter Tryd.func33, Tryd.ntmps33
  go_upto_region 1 with fail
  have X := Box.new (Below.refl _ w) [.int .i64 a, .int .i64 k, .slice A l.length c, .bool q] 41 (g := w.heap.size) rfl
  generalize (w.alloc (.cells #[.int .i64 a, .int .i64 k, .slice A l.length c, .bool q] 41)) = W1 at X ⊢
  have X_0 := X.cells 0 _ rfl
  have X_1 := X.cells 1 _ rfl
  have X_2 := X.cells 2 _ rfl
  have X_3 := X.cells 3 _ rfl
  have X_f0 := X.free 0 (by simp)
  have X_f1 := X.free 1 (by simp)
  have X_f2 := X.free 2 (by simp)
  have X_f3 := X.free 3 (by simp)
  have X_t := X.there
  have X_0 := X.cells 0 _ rfl
  have X_1 := X.cells 1 _ rfl
  have X_2 := X.cells 2 _ rfl
  have X_3 := X.cells 3 _ rfl
  have X_f0 := X.free 0 (by simp)
  have X_f1 := X.free 1 (by simp)
  have X_f2 := X.free 2 (by simp)
  have X_f3 := X.free 3 (by simp)
  have X_t := X.there
  go_wp2_with fail
  refine (own_spec A c l _ (rd_keep HR.out X.below) (by omega)).mono ?_
  rintro e w2 ⟨⟨A1, c1, l1⟩, hl, rfl, ho, hB2⟩
  dsimp only at hl ⊢
  subst hl
  have hs2 := hB2.size
  have HO := Lib.hid ho
  have HOA := Lib.hid (World.ownsRow.alloc ho (.cells #[.int .i64 t] 3))
  have HNC := Lib.hid (cell_one w2 (.int .i64 t) 3)
  have hz := X.there
  have X3 := (X.more hB2).alloc (.cells #[.int .i64 t] 3)
  clear ho hB2 X X_0 X_1 X_2 X_3 X_f0 X_f1 X_f2 X_f3 X_t
  go_upto_region 2 with (at_builtin; go_must (refine wpList_append_lies _ rfl _ _ 39 rfl W1.heap.size 3 i0 _ 1 8 Tryd.underlying39 hi hz0 HI1.out HI.out rfl (by decide) (.slice A1 l1.length c1) l1.length (iv l1) rfl HOA.out ⟨w2.heap.size, 0, none⟩ 1 1 [.int .i64 t] rfl rfl HNC.out (one_cell rfl) (by decide) (by unfold maxLen; omega) (by omega) (by rw [size_alloc']; omega) _ rfl ?_; intro g9 c9 w9 hown1 hgrow hat hlt; have X9 := X3.grown hgrow (fun k hk => by have := own_ge HOA.out k hk; omega); have y2 := X9.cells 2 _ rfl; have y4 := X9.free 2 (by simp)))
  have X10 := X9.set 2 (.slice (some ⟨g9, 0, none⟩) (l1.length + 1) c9)
  have hb9 := X10.below
  have hg9 : g9 ≠ w.heap.size := by
    rcases hat with h2 | h2
    · have := own_ge HOA.out g9 h2; omega
    · rw [size_alloc'] at h2; omega
  have hrow := (row_snoc hown1).congr (w' := w9.setCell ⟨w.heap.size, 2, none⟩ (.slice (some ⟨g9, 0, none⟩) (l1.length + 1) c9)) (fun j hj => by
    have e : g9 = j := by simpa [Row.blk, Row.val, Value.ownBlock] using hj
    subst e
    exact Below.heap_setCell w9 ⟨w.heap.size, 2, none⟩ _ g9 hg9)
  generalize w9.setCell ⟨w.heap.size, 2, none⟩ (.slice (some ⟨g9, 0, none⟩) (l1.length + 1) c9) = W10 at X10 hb9 hrow ⊢
  simp only [List.set_cons_succ, List.set_cons_zero] at X10
  have y0 := X10.cells 0 _ rfl; have y1 := X10.cells 1 _ rfl; have y3 := X10.cells 3 _ rfl
  have y2' := X10.cells 2 _ rfl
  clear y2 y4 X9 X3 hgrow hat hown1
  cases h1 : (k == g)
  · go_wp2
    go_ret
    exact rpost (by rw [HV.out, h1] <;> simp) hb9
  cases q
  · have hL := one_spec ⟨a, k, ⟨some ⟨g9, 0, none⟩, c9, l1 ++ [t]⟩, false⟩ _ hrow.rd (by show (l1 ++ [t]).length ≤ _; rw [List.length_append]; simp; omega)
    rw [HO2.out _ rfl] at hL
    dsimp only at hL
    rw [show (l1 ++ [t]).length = l1.length + 1 by simp] at hL
    go_wp2_with fail
    refine hL.mono ?_
    rintro e w4 ⟨rfl, hB4⟩
    replace hb9 := be hb9 hB4
    go_wp2
    go_ret
    exact rpost (by rw [HV.out, h1] <;> simp) hb9
  · go_wp2
    go_ret
    exact rpost (by rw [HV.out, h1] <;> simp) hb9
end Go.Proofs.YtokgncbcknpfiaaDoor.HeapP
