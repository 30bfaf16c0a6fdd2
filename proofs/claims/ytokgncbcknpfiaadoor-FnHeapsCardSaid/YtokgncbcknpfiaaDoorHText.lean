/- HeapText: the model's and the program's. -/
import Derived.Test.YtokgncbcknpfiaaDoorHeapG
import Derived.Test.YtokgncbcknpfiaaDoorNum
import Derived.Test.YtokgncbcknpfiaaDoorRegn2
import Derived.Test.YtokgncbcknpfiaaDoorStrs
import Derived.Lib.Join
namespace Go.Proofs.YtokgncbcknpfiaaDoor.HText
open Go.RowKit Go.Proofs.YtokgncbcknpfiaaDoor.Mem Go.Proofs.YtokgncbcknpfiaaDoor.Base Go.Proofs.YtokgncbcknpfiaaDoor.SInt Go.Proofs.YtokgncbcknpfiaaDoor.Boxes Go.Proofs.YtokgncbcknpfiaaDoor.Keep Go.Proofs.YtokgncbcknpfiaaDoor.Regn Go.Proofs.YtokgncbcknpfiaaDoor.Nest Go.Proofs.YtokgncbcknpfiaaDoor.HeapS Go.Proofs.YtokgncbcknpfiaaDoor.HeapW Go.Proofs.YtokgncbcknpfiaaDoor.Heap Go.Proofs.YtokgncbcknpfiaaDoor.HeapG Go.Proofs.YtokgncbcknpfiaaDoor.Num
open Go.Lib (joinTail)
set_option linter.unusedVariables false
set_option maxRecDepth 100000
def numS (n : Int) : ByteArray := ⟨(Lib.itoa n).toArray⟩
theorem numS_list (n : Int) : (numS n).data.toList = Lib.itoa n := by simp [numS]
theorem numS_size (n : Int) (h0 : -1000000 ≤ n) (h1 : n ≤ 1000000) : (numS n).size ≤ 1000002 := by
  show (List.toArray _).size ≤ _; rw [List.size_toArray]; exact itoa_len n h0 h1
theorem num_below (n : Int) (h0 : -1000000 ≤ n) (h1 : n ≤ 1000000) (w : World) : Calls Tryd.prog 52 #[.int .i64 n] w (RPost (.string (numS n)) w) :=
  (num_any n h0 h1 w).mono fun _ _ ⟨he, k, hw⟩ => ⟨he, by rw [hw]; exact (Drawn.n w k).below _⟩
theorem itoa_num (n : Int) (h0 : -1000000 ≤ n) (h1 : n ≤ 1000000) (w : World) (ht : Tab w) :
    Calls Tryd.prog 49 #[.int .i64 n] w (RPost (.string (numS n)) w) := itoa_any n (by omega) (by omega) w ht
/-- the layers' text, as bytes. -/
def jn : List (List UInt8) → List UInt8
  | [] => []
  | x :: r => x ++ joinTail [43] r
theorem jn_join (l : List (List UInt8)) : jn l = Lib.join l [43] := by
  cases l with
  | nil => rfl
  | cons x r => exact (Lib.join_cons x r [43]).symm
theorem jn_snoc (l : List (List UInt8)) (k : Nat) (h : k < l.length) : jn (l.take (k + 1)) = if k = 0 then l[k] else jn (l.take k) ++ [43] ++ l[k] := by
  cases l with
  | nil => simp at h
  | cons x r =>
    cases k with
    | zero => simp [jn, joinTail]
    | succ k =>
      have hk : k < r.length := by simpa using h
      simp only [List.take_succ_cons, jn, List.getElem_cons_succ, Nat.add_one_ne_zero, if_false]
      rw [Lib.joinTail_take_succ [43] r k r[k] (List.getElem?_eq_getElem hk)]
      simp
def nums (ls : List Int) : List (List UInt8) := ls.map Lib.itoa
theorem nums_len (ls : List Int) : (nums ls).length = ls.length := by simp [nums]
def hd (a g : Int) : ByteArray := ⟨#[104]⟩ ++ numS a ++ ⟨#[32, 103]⟩ ++ numS g ++ ⟨#[58, 32]⟩
def emp : ByteArray := ⟨#[101, 109, 112, 116, 121]⟩
def cvd : ByteArray := ⟨#[32, 99, 111, 118, 101, 114, 101, 100]⟩
def layL (ls : List Int) : List UInt8 := if ls.length = 0 then emp.data.toList else jn (nums ls)
def txtL (x : H) : List UInt8 := (hd x.id x.gr).data.toList ++ layL x.ls ++ (if x.cov = true then cvd.data.toList else [])
def txtV (x : H) : Value := if okH x = true then .tuple #[.string ⟨(txtL x).toArray⟩, .bool true] else .tuple #[.string ⟨#[]⟩, .bool false]
theorem txt_no {x : H} (h : okH x = false) : txtV x = .tuple #[.string ⟨#[]⟩, .bool false] := by unfold txtV; rw [h]; rfl
theorem txt_yes {x : H} (h : okH x = true) {t : ByteArray} (ht : t.data.toList = txtL x) : txtV x = .tuple #[.string t, .bool true] := by
  unfold txtV; rw [if_pos h, ← ht]
theorem app_list (a b : ByteArray) : (a ++ b).data.toList = a.data.toList ++ b.data.toList := by simp
theorem txt_form (x : H) : ∃ t q, txtV x = .tuple #[.string t, .bool q] := by
  unfold txtV; split <;> exact ⟨_, _, rfl⟩
theorem lay_step {ls : List Int} {k : Nat} {x : Int} (hk : k < ls.length) (hx : ls[k] = x) : jn ((nums ls).take (k + 1)) = if k = 0 then Lib.itoa x else jn ((nums ls).take k) ++ [43] ++ Lib.itoa x := by
  rw [jn_snoc (nums ls) k (by rw [nums_len]; exact hk)]
  simp only [nums, List.getElem_map, hx]
theorem okH_told {x : H} (h : okH x = true) : (1 ≤ x.id ∧ x.id ≤ 99) ∧ (1 ≤ x.gr ∧ x.gr ≤ 4) ∧ okLs x.ls = true := by
  unfold okH at h
  simp only [Bool.and_eq_true] at h
  exact ⟨of_inB h.1.1, of_inB h.1.2, h.2⟩
set_option maxHeartbeats 1600000 in
theorem text_spec (x : R) (w : World) (hr : Rd w w.heap.size x.f2.A (iv x.f2.ls)) (hn : x.f2.ls.length ≤ 1048576) :
    Calls Tryd.prog 21 #[.agg #[.int .i64 x.f0, .int .i64 x.f1, .slice x.f2.A x.f2.ls.length x.f2.cap, .bool x.f3]] w (RPost (txtV x.pure) w) := by
  obtain ⟨a, g, ⟨A, c, l⟩, q⟩ := x
  have HR := Lib.hid hr; clear hr
  dsimp only at hn HR ⊢
  have HN := Lib.hid hn
  go_enter Tryd.func21, Tryd.ntmps21
  go_wp2_with fail
  have B := Box.new (Below.refl _ w) [.int .i64 a, .int .i64 g, .slice A l.length c, .bool q] 41 (g := w.heap.size) rfl
  generalize (w.alloc (.cells #[.int .i64 a, .int .i64 g, .slice A l.length c, .bool q] 41)) = W1 at B ⊢
  have B_0 := B.cells 0 _ rfl
  have B_1 := B.cells 1 _ rfl
  have B_2 := B.cells 2 _ rfl
  have B_3 := B.cells 3 _ rfl
  have B_f0 := B.free 0 (by simp)
  have B_f1 := B.free 1 (by simp)
  have B_f2 := B.free 2 (by simp)
  have B_f3 := B.free 3 (by simp)
  have B_t := B.there
  have B_0 := B.cells 0 _ rfl
  have B_1 := B.cells 1 _ rfl
  have B_2 := B.cells 2 _ rfl
  have B_3 := B.cells 3 _ rfl
  have B_f0 := B.free 0 (by simp)
  have B_f1 := B.free 1 (by simp)
  have B_f2 := B.free 2 (by simp)
  have B_f3 := B.free 3 (by simp)
  have B_t := B.there
  go_wp2_with fail
  refine (HeapG.one_spec ⟨a, g, ⟨A, c, l⟩, q⟩ _ (rd_keep HR.out B.below) HN.out).mono ?_
  rintro e v2 ⟨rfl, hv2⟩
  clear B_0 B_1 B_2 B_3 B_f0 B_f1 B_f2 B_f3 B_t
  replace B := B.more hv2
  have zhv2 := hv2.size
  clear hv2
  have B_0 := B.cells 0 _ rfl
  have B_1 := B.cells 1 _ rfl
  have B_2 := B.cells 2 _ rfl
  have B_3 := B.cells 3 _ rfl
  have B_f0 := B.free 0 (by simp)
  have B_f1 := B.free 1 (by simp)
  have B_f2 := B.free 2 (by simp)
  have B_f3 := B.free 3 (by simp)
  have B_t := B.there
  cases hok : okH (R.pure ⟨a, g, ⟨A, c, l⟩, q⟩)
  · go_wp2
    go_ret2
    exact rpost (txt_no hok).symm B.below
  obtain ⟨⟨a0, a1⟩, ⟨g0, g1⟩, hls⟩ := okH_told hok
  have a0 : 1 ≤ a := a0
  have a1 : a ≤ 99 := a1
  have g0 : 1 ≤ g := g0
  have g1 : g ≤ 4 := g1
  have hls : okLs l = true := hls
  have hl12 := okLs_len hls
  have HLS := Lib.hid (fun k (hk : k < l.length) => okLs_get hls k hk)
  have HTX := Lib.hid (fun (t : ByteArray) (ht : t.data.toList = txtL (R.pure ⟨a, g, ⟨A, c, l⟩, q⟩)) => txt_yes hok ht)
  have HTL := Lib.hid (show txtL (R.pure ⟨a, g, ⟨A, c, l⟩, q⟩) = (hd a g).data.toList ++ layL l ++ (if q = true then cvd.data.toList else []) from rfl)
  have sA := numS_size a (by omega) (by omega)
  have sG := numS_size g (by omega) (by omega)
  have HHD := Lib.hid (show hd a g = ⟨#[104]⟩ ++ numS a ++ ⟨#[32, 103]⟩ ++ numS g ++ ⟨#[58, 32]⟩ from rfl)
  have H1 := Lib.hid (num_below a (by omega) (by omega))
  have H2 := Lib.hid (num_below g (by omega) (by omega))
  clear hok hls
  generalize numS a = tA at sA HHD H1
  generalize numS g = tG at sG HHD H2
  have c1 : ¬ 9223372036854775807 < 1 + tA.size := by omega
  have c2 : ¬ 9223372036854775807 < 1 + tA.size + 2 := by omega
  have c3 : ¬ 9223372036854775807 < 1 + tA.size + 2 + tG.size := by omega
  have c4 : ¬ 9223372036854775807 < 1 + tA.size + 2 + tG.size + 2 := by omega
  go_wp2_with fail
  refine wp_region_text (fun w' => Box (w.heap.size) [.int .i64 a, .int .i64 g, .slice A l.length c, .bool q] w w') (by kernel_rfl) (by kernel_rfl) (B.drew) ?_
  clear B_0 B_1 B_2 B_3 B_f0 B_f1 B_f2 B_f3 B_t
  iterate 11 (
    apply SeqH.one
    · intro uw K hS hK
      have qB := hS
      have qB_0 := qB.cells 0 _ rfl
      have qB_1 := qB.cells 1 _ rfl
      have qB_2 := qB.cells 2 _ rfl
      have qB_3 := qB.cells 3 _ rfl
      first
        | (go_simp; exact hK.out _ qB)
        | (go_simp; go_at_call 52; (with_reducible refine (H1.out _).mono ?_); rintro e uw1 ⟨rfl, hv⟩; go_wp2_with fail; exact hK.out _ (qB.more hv))
        | (go_simp; go_at_call 52; (with_reducible refine (H2.out _).mono ?_); rintro e uw1 ⟨rfl, hv⟩; go_wp2_with fail; exact hK.out _ (qB.more hv))
    try simp only [Act.put, List.setIfInBounds_toArray, List.set_cons_zero, List.set_cons_succ])
  refine SeqH.end' rfl ?_
  intro v3 hS
  clear B
  have B := hS; clear hS
  have B_0 := B.cells 0 _ rfl
  have B_1 := B.cells 1 _ rfl
  have B_2 := B.cells 2 _ rfl
  have B_3 := B.cells 3 _ rfl
  have B_f0 := B.free 0 (by simp)
  have B_f1 := B.free 1 (by simp)
  have B_f2 := B.free 2 (by simp)
  have B_f3 := B.free 3 (by simp)
  have B_t := B.there
  rw [← HHD.out]
  have hds : (hd a g).size = 1 + tA.size + 2 + tG.size + 2 := by rw [HHD.out]; simp [ByteArray.size_append]; rfl
  obtain ⟨t0, ht0⟩ : ∃ t, hd a g = t := ⟨_, rfl⟩
  rw [ht0] at HTL hds ⊢
  clear HHD ht0
  have hs0 : t0.size ≤ 3000000 := by omega
  clear hds c1 c2 c3 c4 sA sG H1 H2
  by_cases hl0 : l.length = 0
  · have e0 : ((l.length : Int) == 0) = true := by rw [beq_iff_eq]; omega
    have e1 : ¬ 9223372036854775807 < t0.size + 5 := by omega
    have e2 : ¬ 9223372036854775807 < (t0 ++ emp).size + 8 := by rw [ByteArray.size_append]; show ¬ 9223372036854775807 < t0.size + 5 + 8; omega
    have HE := Lib.hid (show (t0 ++ emp).data.toList = t0.data.toList ++ layL l by rw [app_list]; unfold layL; rw [if_pos hl0])
    have HEE := Lib.hid (show emp = ⟨#[101, 109, 112, 116, 121]⟩ from rfl)
    go_wp2_with fail
    rw [← HEE.out]
    generalize t0 ++ emp = t1 at HE e2 ⊢
    go_loopw [4, 5] (fun s i wr => i = .int .i64 0 ∧ s = .string t1 ∧ Box (w.heap.size) [.int .i64 a, .int .i64 g, .slice A l.length c, .bool q] w wr) (fun _ _ _ => 0)
    case atStart => exact ⟨rfl, rfl, B⟩
    case round =>
      clear B B_0 B_1 B_2 B_3 B_f0 B_f1 B_f2 B_f3 B_t
      obtain ⟨rfl, rfl, B⟩ := hrel
      have e3 : decide ((0 : Int) < l.length) = false := decide_eq_false (by omega)
      have e4 : decide (0 < l.length) = false := decide_eq_false (by omega)
      have B_0 := B.cells 0 _ rfl
      have B_1 := B.cells 1 _ rfl
      have B_2 := B.cells 2 _ rfl
      have B_3 := B.cells 3 _ rfl
      have B_f0 := B.free 0 (by simp)
      have B_f1 := B.free 1 (by simp)
      have B_f2 := B.free 2 (by simp)
      have B_f3 := B.free 3 (by simp)
      have B_t := B.there
      cases q
      · go_wp2
        go_ret2
        exact rpost (HTX.out _ (by rw [HTL.out, HE.out]; simp)).symm B.below
      · go_wp2
        go_ret2
        exact rpost (HTX.out _ (by rw [HTL.out, app_list, HE.out]; simp [cvd])).symm B.below
  · have e0 : ((l.length : Int) == 0) = false := by rw [beq_eq_false_iff_ne]; omega
    have HLL := Lib.hid (show layL l = jn (nums l) by unfold layL; rw [if_neg hl0])
    go_wp2_with fail
    go_loopw [4, 5] (fun s i wr => ∃ (k : Nat) (t : ByteArray), k ≤ l.length ∧ i = .int .i64 k ∧ s = .string t ∧ Hid (t.data.toList = t0.data.toList ++ jn ((nums l).take k)) ∧ t.size ≤ 3000000 + 1000004 * k ∧ Box (w.heap.size) [.int .i64 a, .int .i64 g, .slice A l.length c, .bool q] w wr) (fun _ i _ => l.length - (intOf i).toNat)
    case atStart => exact ⟨0, t0, Nat.zero_le _, rfl, rfl, Lib.hid (by simp [jn]), by omega, B⟩
    case round =>
      clear B B_0 B_1 B_2 B_3 B_f0 B_f1 B_f2 B_f3 B_t
      obtain ⟨k, t, hk, rfl, rfl, HT, hts, B⟩ := hrel
      have e3 : IntKind.i64.wrap ((k : Int) + 1) = k + 1 := IntWalk.i64_in _ (by omega)
      by_cases hlt : k < l.length
      · have hd1 : decide ((k : Int) < l.length) = true := decide_eq_true (by omega)
        obtain ⟨x, hx⟩ : ∃ x, l[k] = x := ⟨_, rfl⟩
        have hb9 := HLS.out k hlt
        rw [hx] at hb9
        have sX := numS_size x (by omega) (by omega)
        have HXL := Lib.hid (numS_list x)
        have HST := Lib.hid (lay_step hlt hx)
        have H3 := Lib.hid (num_below x (by omega) (by omega))
        obtain ⟨b, o, rfl, hb, hc⟩ := HR.out.at (k := k) (by rw [iv_len]; exact hlt)
        have h0 : wr.cell? ⟨b, o + k, none⟩ = some (.int .i64 x) := ((bcell B.below).1 _ _ hb).trans (by rw [← hx]; exact hc k _ (iv_get l k hlt))
        clear hc hx
        generalize numS x = tx at sX HXL H3
        have c1 : ¬ 9223372036854775807 < t.size + tx.size := by omega
        have c2 : ¬ 9223372036854775807 < t.size + 1 := by omega
        have c3 : ¬ 9223372036854775807 < t.size + 1 + tx.size := by omega
        have B_0 := B.cells 0 _ rfl
        have B_1 := B.cells 1 _ rfl
        have B_2 := B.cells 2 _ rfl
        have B_3 := B.cells 3 _ rfl
        have B_f0 := B.free 0 (by simp)
        have B_f1 := B.free 1 (by simp)
        have B_f2 := B.free 2 (by simp)
        have B_f3 := B.free 3 (by simp)
        have B_t := B.there
        by_cases hk0 : k = 0
        · have hd2 : decide ((0 : Int) < k) = false := decide_eq_false (by omega)
          have hd3 : decide (0 < k) = false := decide_eq_false (by omega)
          have HN1 := Lib.hid (show (t ++ tx).data.toList = t0.data.toList ++ jn ((nums l).take (k + 1)) by
            rw [app_list, HT.out, HXL.out, HST.out, if_pos hk0, hk0]; simp [jn])
          replace hk0 := Lib.hid hk0
          have hsz := Lib.hid (show (t ++ tx).size ≤ 3000000 + 1000004 * (k + 1) by rw [ByteArray.size_append]; omega)
          go_wp2_with fail
          refine (H3.out _).mono ?_
          rintro e v1 ⟨rfl, hv1⟩
          clear B_0 B_1 B_2 B_3 B_f0 B_f1 B_f2 B_f3 B_t
          replace B := B.more hv1
          have zhv1 := hv1.size
          clear hv1
          have B_0 := B.cells 0 _ rfl
          have B_1 := B.cells 1 _ rfl
          have B_2 := B.cells 2 _ rfl
          have B_3 := B.cells 3 _ rfl
          have B_f0 := B.free 0 (by simp)
          have B_f1 := B.free 1 (by simp)
          have B_f2 := B.free 2 (by simp)
          have B_f3 := B.free 3 (by simp)
          have B_t := B.there
          go_wp2
          go_roundw
          case rel => exact ⟨k + 1, t ++ tx, hlt, by go_num, rfl, HN1, hsz.out, B⟩
          case measure => simp [intOf]; omega
        · have hd2 : decide ((0 : Int) < k) = true := decide_eq_true (by omega)
          have hd3 : decide (0 < k) = true := decide_eq_true (by omega)
          have HN1 := Lib.hid (show ((t ++ ⟨#[43]⟩) ++ tx).data.toList = t0.data.toList ++ jn ((nums l).take (k + 1)) by
            rw [app_list, app_list, HT.out, HXL.out, HST.out, if_neg hk0]; simp)
          replace hk0 := Lib.hid hk0
          have hsz := Lib.hid (show ((t ++ ⟨#[43]⟩) ++ tx).size ≤ 3000000 + 1000004 * (k + 1) by rw [ByteArray.size_append, ByteArray.size_append]; show t.size + 1 + tx.size ≤ _; omega)
          go_wp2_with fail
          refine (H3.out _).mono ?_
          rintro e v2 ⟨rfl, hv2⟩
          clear B_0 B_1 B_2 B_3 B_f0 B_f1 B_f2 B_f3 B_t
          replace B := B.more hv2
          have zhv2 := hv2.size
          clear hv2
          have B_0 := B.cells 0 _ rfl
          have B_1 := B.cells 1 _ rfl
          have B_2 := B.cells 2 _ rfl
          have B_3 := B.cells 3 _ rfl
          have B_f0 := B.free 0 (by simp)
          have B_f1 := B.free 1 (by simp)
          have B_f2 := B.free 2 (by simp)
          have B_f3 := B.free 3 (by simp)
          have B_t := B.there
          go_wp2
          go_roundw
          case rel => exact ⟨k + 1, (t ++ ⟨#[43]⟩) ++ tx, hlt, by go_num, rfl, HN1, hsz.out, B⟩
          case measure => simp [intOf]; omega
      · have hd1 : decide ((k : Int) < l.length) = false := decide_eq_false (by omega)
        have HE := Lib.hid (show t.data.toList = t0.data.toList ++ layL l by rw [HT.out, HLL.out, List.take_of_length_le (by rw [nums_len]; omega)])
        have e2 : ¬ 9223372036854775807 < t.size + 8 := by omega
        have B_0 := B.cells 0 _ rfl
        have B_1 := B.cells 1 _ rfl
        have B_2 := B.cells 2 _ rfl
        have B_3 := B.cells 3 _ rfl
        have B_f0 := B.free 0 (by simp)
        have B_f1 := B.free 1 (by simp)
        have B_f2 := B.free 2 (by simp)
        have B_f3 := B.free 3 (by simp)
        have B_t := B.there
        cases q
        · go_wp2
          go_ret2
          exact rpost (HTX.out _ (by rw [HTL.out, HE.out]; simp)).symm B.below
        · go_wp2
          go_ret2
          exact rpost (HTX.out _ (by rw [HTL.out, app_list, HE.out]; simp [cvd])).symm B.below
theorem jn_bound {l : List Int} (h : ∀ k (hk : k < l.length), 1 ≤ l[k] ∧ l[k] ≤ 500) : ∀ k, k ≤ l.length → (jn ((nums l).take k)).length ≤ 1000003 * k
  | 0, _ => by simp [jn]
  | k + 1, hk => by
    have ih := jn_bound h k (by omega)
    have hl : k < l.length := by omega
    have hb := h k hl
    have hi := itoa_len l[k] (by omega) (by omega)
    rw [lay_step hl (rfl : l[k] = l[k])]
    split
    · omega
    · simp; omega
def ssL (l : List Int) : List ByteArray := l.map numS
theorem ssL_len (l : List Int) : (ssL l).length = l.length := by simp [ssL]
theorem ssL_take {l : List Int} {k : Nat} {x : Int} (hk : k < l.length) (hx : l[k] = x) : (ssL l).take (k + 1) = (ssL l).take k ++ [numS x] := by
  rw [List.take_succ_eq_append_getElem (by rw [ssL_len]; exact hk)]
  simp [ssL, hx]
theorem ssL_join (l : List Int) : Lib.join ((ssL l).map (·.data.toList)) (⟨#[43]⟩ : ByteArray).data.toList = jn (nums l) := by
  rw [jn_join]
  have : (ssL l).map (·.data.toList) = nums l := by simp [ssL, nums, Function.comp_def, numS_list]
  rw [this]
theorem strv_app (a b : List ByteArray) : Strs.strv (a ++ b) = Strs.strv a ++ Strs.strv b := by simp [Strs.strv]
theorem cell_add1 (w : World) (b o j : Nat) : w.cell? (Addr.add ⟨b, o, none⟩ j) = w.cell? ⟨b, o + j, none⟩ := by
  unfold Addr.add; split
  · rename_i h; subst h; rfl
  · rfl
theorem new1 (W : World) (t : ByteArray) : ∀ j u, [Value.string t][j]? = some u → (W.alloc (.cells #[.string t] 9)).cell? ((⟨W.heap.size, 0, none⟩ : Addr).add j) = some u := by
  intro j u hu
  rw [cell_add1, Nat.zero_add, World.cell?_alloc_at _ _ _ _ rfl]
  simpa using hu
theorem one1 (t : ByteArray) : ∀ u ∈ [Value.string t], u.oneCell' = true := by
  intro u hu; simp at hu; rcases hu with rfl; rfl
theorem own_some0 {w : World} {base : Nat} {e : TypeId} {size n : Nat} {v : Value} {xs : List Value} (h : w.ownsRow base e size v n xs) (hv : v ≠ .slice none 0 0) : ∃ g c, v = .slice (some ⟨g, 0, none⟩) n c := by
  rcases h.2 with ⟨h1, _⟩ | ⟨g, cap, cur, h1, _⟩
  · exact absurd h1 hv
  · exact ⟨g, cap, h1⟩
theorem empty1 (w : World) {base : Nat} (hb : base ≤ w.heap.size) : (w.alloc (.cells #[] 9)).ownsRow base 9 1 (.slice (some ⟨w.heap.size, 0, none⟩) 0 0) 0 (Strs.strv []) := by
  have := World.ownsRow_lit w #[] 0 (e := 9) (size := 1) (base := base) hb (by unfold maxLen; omega) rfl
  simpa [Strs.strv] using this
theorem info_str : (Tryd.prog.info? 9).map (fun i => (i.zero, i.size, i.bytes)) = some (some (.string ByteArray.empty), 1, 16) := by kernel_rfl
set_option maxHeartbeats 1600000 in
theorem text_impl (x : R) (w : World) (hr : Rd w w.heap.size x.f2.A (iv x.f2.ls)) (hn : x.f2.ls.length ≤ 1048576) (ht : Tab w) :
    Calls Tryd.prog 20 #[.agg #[.int .i64 x.f0, .int .i64 x.f1, .slice x.f2.A x.f2.ls.length x.f2.cap, .bool x.f3]] w (RPost (txtV x.pure) w) := by
  obtain ⟨a, g, ⟨A, c, l⟩, q⟩ := x
  have HTab := Lib.hid ht; clear ht
  have HR := Lib.hid hr; clear hr
  obtain ⟨i0, hi0, hz0, hz1, hz2⟩ := info_parts info_str
  have HI := Lib.hid hz2; clear hz2
  have HI1 := Lib.hid hz1; clear hz1
  dsimp only at hn HR ⊢
  have HN := Lib.hid hn
  go_enter Tryd.func20, Tryd.ntmps20
  go_wp2_with fail
  have B := Box.new (Below.refl _ w) [.int .i64 a, .int .i64 g, .slice A l.length c, .bool q] 41 (g := w.heap.size) rfl
  generalize (w.alloc (.cells #[.int .i64 a, .int .i64 g, .slice A l.length c, .bool q] 41)) = W1 at B ⊢
  have B_0 := B.cells 0 _ rfl
  have B_1 := B.cells 1 _ rfl
  have B_2 := B.cells 2 _ rfl
  have B_3 := B.cells 3 _ rfl
  have B_f0 := B.free 0 (by simp)
  have B_f1 := B.free 1 (by simp)
  have B_f2 := B.free 2 (by simp)
  have B_f3 := B.free 3 (by simp)
  have B_t := B.there
  have B_0 := B.cells 0 _ rfl
  have B_1 := B.cells 1 _ rfl
  have B_2 := B.cells 2 _ rfl
  have B_3 := B.cells 3 _ rfl
  have B_f0 := B.free 0 (by simp)
  have B_f1 := B.free 1 (by simp)
  have B_f2 := B.free 2 (by simp)
  have B_f3 := B.free 3 (by simp)
  have B_t := B.there
  go_wp2_with fail
  refine (HeapG.one_impl ⟨a, g, ⟨A, c, l⟩, q⟩ _ (rd_keep HR.out B.below) HN.out).mono ?_
  rintro e v2 ⟨rfl, hv2⟩
  clear B_0 B_1 B_2 B_3 B_f0 B_f1 B_f2 B_f3 B_t
  replace B := B.more hv2
  have zhv2 := hv2.size
  clear hv2
  have B_0 := B.cells 0 _ rfl
  have B_1 := B.cells 1 _ rfl
  have B_2 := B.cells 2 _ rfl
  have B_3 := B.cells 3 _ rfl
  have B_f0 := B.free 0 (by simp)
  have B_f1 := B.free 1 (by simp)
  have B_f2 := B.free 2 (by simp)
  have B_f3 := B.free 3 (by simp)
  have B_t := B.there
  cases hok : okH (R.pure ⟨a, g, ⟨A, c, l⟩, q⟩)
  · go_wp2
    go_ret2
    exact rpost (txt_no hok).symm B.below
  obtain ⟨⟨a0, a1⟩, ⟨g0, g1⟩, hls⟩ := okH_told hok
  have a0 : 1 ≤ a := a0
  have a1 : a ≤ 99 := a1
  have g0 : 1 ≤ g := g0
  have g1 : g ≤ 4 := g1
  have hls : okLs l = true := hls
  have hl12 := okLs_len hls
  have HLS := Lib.hid (fun k (hk : k < l.length) => okLs_get hls k hk)
  have HTX := Lib.hid (fun (t : ByteArray) (ht : t.data.toList = txtL (R.pure ⟨a, g, ⟨A, c, l⟩, q⟩)) => txt_yes hok ht)
  have HTL := Lib.hid (show txtL (R.pure ⟨a, g, ⟨A, c, l⟩, q⟩) = (hd a g).data.toList ++ layL l ++ (if q = true then cvd.data.toList else []) from rfl)
  have sA := numS_size a (by omega) (by omega)
  have sG := numS_size g (by omega) (by omega)
  have HHD := Lib.hid (show hd a g = ⟨#[104]⟩ ++ numS a ++ ⟨#[32, 103]⟩ ++ numS g ++ ⟨#[58, 32]⟩ from rfl)
  have H1 := Lib.hid (itoa_num a (by omega) (by omega))
  have H2 := Lib.hid (itoa_num g (by omega) (by omega))
  clear hok hls
  generalize numS a = tA at sA HHD H1
  generalize numS g = tG at sG HHD H2
  have c1 : ¬ 9223372036854775807 < 1 + tA.size := by omega
  have c2 : ¬ 9223372036854775807 < 1 + tA.size + 2 := by omega
  have c3 : ¬ 9223372036854775807 < 1 + tA.size + 2 + tG.size := by omega
  have c4 : ¬ 9223372036854775807 < 1 + tA.size + 2 + tG.size + 2 := by omega
  have hds : (hd a g).size = 1 + tA.size + 2 + tG.size + 2 := by rw [HHD.out]; simp [ByteArray.size_append]; rfl
  by_cases hl0 : l.length = 0
  · have e0 : decide ((0 : Int) < l.length) = false := decide_eq_false (by omega)
    have e00 : decide (0 < l.length) = false := decide_eq_false (by omega)
    obtain ⟨tJ, hJ⟩ : ∃ t, emp = t := ⟨_, rfl⟩
    have HEE := Lib.hid (show (⟨#[101, 109, 112, 116, 121]⟩ : ByteArray) = tJ from hJ)
    have HJL := Lib.hid (show tJ.data.toList = layL l by rw [← hJ]; unfold layL; rw [if_pos hl0])
    have hJs : tJ.size ≤ 5 := by rw [← hJ]; exact Nat.le_refl 5
    have c5 : ¬ 9223372036854775807 < 1 + tA.size + 2 + tG.size + 2 + tJ.size := by omega
    clear hJ
    replace hl0 := Lib.hid hl0
    go_upto_region 12 with fail
    rw [HEE.out]
    refine wp_region_text (fun w' => Box (w.heap.size) [.int .i64 a, .int .i64 g, .slice A l.length c, .bool q] w w') (by kernel_rfl) (by kernel_rfl) (B.drew) ?_
    clear B_0 B_1 B_2 B_3 B_f0 B_f1 B_f2 B_f3 B_t
    iterate 13 (
      apply SeqH.one
      · intro uw K hS hK
        have qB := hS
        have qB_0 := qB.cells 0 _ rfl
        have qB_1 := qB.cells 1 _ rfl
        have qB_2 := qB.cells 2 _ rfl
        have qB_3 := qB.cells 3 _ rfl
        first
          | (go_simp; exact hK.out _ qB)
          | (go_simp; go_at_call 49; (with_reducible refine (H1.out _ (HTab.out.below qB.below)).mono ?_); rintro e uw1 ⟨rfl, hv⟩; go_wp2_with fail; exact hK.out _ (qB.more hv))
          | (go_simp; go_at_call 49; (with_reducible refine (H2.out _ (HTab.out.below qB.below)).mono ?_); rintro e uw1 ⟨rfl, hv⟩; go_wp2_with fail; exact hK.out _ (qB.more hv))
      try simp only [Act.put, List.setIfInBounds_toArray, List.set_cons_zero, List.set_cons_succ])
    refine SeqH.end' rfl ?_
    intro v3 hS
    clear B
    have B := hS; clear hS
    have B_0 := B.cells 0 _ rfl
    have B_1 := B.cells 1 _ rfl
    have B_2 := B.cells 2 _ rfl
    have B_3 := B.cells 3 _ rfl
    have B_f0 := B.free 0 (by simp)
    have B_f1 := B.free 1 (by simp)
    have B_f2 := B.free 2 (by simp)
    have B_f3 := B.free 3 (by simp)
    have B_t := B.there
    rw [← HHD.out]
    have HE := Lib.hid (show (hd a g ++ tJ).data.toList = (hd a g).data.toList ++ layL l by rw [app_list, HJL.out])
    have e2 : ¬ 9223372036854775807 < (hd a g ++ tJ).size + 8 := by rw [ByteArray.size_append, hds]; omega
    generalize hd a g ++ tJ = t1 at HE e2 ⊢
    cases q
    · go_wp2
      go_ret2
      exact rpost (HTX.out _ (by rw [HTL.out, HE.out]; simp)).symm B.below
    · go_wp2
      go_ret2
      exact rpost (HTX.out _ (by rw [HTL.out, app_list, HE.out]; simp [cvd])).symm B.below
  · have e0 : decide ((0 : Int) < l.length) = true := decide_eq_true (by omega)
    have e00 : decide (0 < l.length) = true := decide_eq_true (by omega)
    have HJB := Lib.hid (jn_bound HLS.out l.length (Nat.le_refl _))
    have HLL := Lib.hid (show layL l = jn (nums l) by unfold layL; rw [if_neg hl0])
    go_wp2_with fail
    have hBt := B.there
    have O := empty1 v2 (base := w.heap.size + 1) (by omega)
    replace B := B.alloc (.cells #[] 9)
    clear B_0 B_1 B_2 B_3 B_f0 B_f1 B_f2 B_f3 B_t
    generalize hv0 : (v2).alloc (.cells #[] 9) = v0 at B O ⊢
    clear hv0
    go_loopw [5, 7, 20] (fun s y i wr => ∃ (k g0 c0 : Nat) (S : List ByteArray), Hid (S = (ssL l).take k) ∧ k ≤ l.length ∧ i = .int .i64 k ∧ s = .slice (some ⟨g0, 0, none⟩) S.length c0 ∧ wr.ownsRow (w.heap.size + 1) 9 1 (.slice (some ⟨g0, 0, none⟩) S.length c0) S.length (Strs.strv S) ∧ Box (w.heap.size) [.int .i64 a, .int .i64 g, .slice A l.length c, .bool q] w wr) (fun _ _ i _ => l.length - (intOf i).toNat)
    case atStart => exact ⟨0, _, 0, [], Lib.hid rfl, Nat.zero_le _, rfl, rfl, O, B⟩
    case round =>
      clear B O
      obtain ⟨k, g0, c0, S, HS, hk, rfl, rfl, O, B⟩ := hrel
      have e3 : IntKind.i64.wrap ((k : Int) + 1) = k + 1 := IntWalk.i64_in _ (by omega)
      have hkl : S.length = k := by rw [HS.out, List.length_take, ssL_len]; omega
      have HKL := Lib.hid hkl; clear hkl
      by_cases hlt : k < l.length
      · have hd1 : decide ((k : Int) < l.length) = true := decide_eq_true (by omega)
        obtain ⟨x, hx⟩ : ∃ x, l[k] = x := ⟨_, rfl⟩
        have hb9 := HLS.out k hlt
        rw [hx] at hb9
        have H3 := Lib.hid (itoa_num x (by omega) (by omega))
        have HSS := Lib.hid (show S ++ [numS x] = (ssL l).take (k + 1) by rw [HS.out]; exact (ssL_take hlt hx).symm)
        obtain ⟨b, o, rfl, hb, hc⟩ := HR.out.at (k := k) (by rw [iv_len]; exact hlt)
        have h0 : wr.cell? ⟨b, o + k, none⟩ = some (.int .i64 x) := ((bcell B.below).1 _ _ hb).trans (by rw [← hx]; exact hc k _ (iv_get l k hlt))
        clear hc hx
        generalize numS x = tx at H3 HSS
        go_wp2_with fail
        refine (H3.out _ (HTab.out.below B.below)).mono ?_
        rintro e v1 ⟨rfl, hv1⟩
        replace B := B.more hv1
        replace O := own_keep O hv1
        have zhv1 := hv1.size
        clear hv1
        obtain ⟨v, hv⟩ : ∃ v, v1 = v := ⟨_, rfl⟩
        rw [hv] at O B ⊢
        clear hv
        have hbt2 := B.there
        go_wp2_with (at_builtin; go_must (refine wpList_append_own _ rfl _ _ 63 rfl (w.heap.size + 1) 9 i0 _ 1 16 Tryd.underlying63 hi0 hz0 HI1.out HI.out rfl (by decide) _ S.length _ rfl (O.alloc _) ⟨v.heap.size, 0, none⟩ 1 1 [.string tx] rfl rfl (new1 v tx) (one1 tx) (by rw [HKL.out]; unfold maxLen; omega) (by have := HKL.out; omega) (by rw [size_alloc']; omega) ?_; intro v' w10 hown1 hgrow hnil))
        have hown2 : w10.ownsRow (w.heap.size + 1) 9 1 v' (S ++ [tx]).length (Strs.strv (S ++ [tx])) := by
          rw [strv_app, List.length_append]
          exact hown1
        obtain ⟨g2, c2, rfl⟩ := own_some0 hown2 (fun e => by have := (hnil.1 e).2; omega)
        have B2 := (B.alloc (.cells #[.string tx] 9)).grown hgrow (fun j hj => by have := own_ge O j hj; omega)
        clear hown1 hgrow hnil O B
        go_wp2
        go_roundw
        case rel => exact ⟨k + 1, g2, c2, S ++ [tx], HSS, hlt, by go_num, rfl, hown2, B2⟩
        case measure => simp [intOf]; omega
      · have hd1 : decide ((k : Int) < l.length) = false := decide_eq_false (by omega)
        have hkk : S = ssL l := HS.out.trans (List.take_of_length_le (by rw [ssL_len]; omega))
        subst hkk
        have hgt := own_lt O
        have hcp := own_cap O
        have HJN := Lib.hid (Tryd.strings_Join g0 0 c0 (ssL l) ⟨#[43]⟩ wr (fun j y hy => by
          have hj : j < (ssL l).length := by
            rcases Nat.lt_or_ge j (ssL l).length with h | h
            · exact h
            · rw [List.getElem?_eq_none h] at hy; cases hy
          rw [Nat.zero_add, O.cellAt j (by omega), Strs.strv_get (ssL l) j hj]
          rw [List.getElem?_eq_getElem hj] at hy
          injection hy with hy; rw [hy]) hgt (by rw [ssL_len]; omega) hcp (by rw [ssL_join]; have := HJB.out; rw [List.take_of_length_le (by rw [nums_len]; exact Nat.le_refl _)] at this; omega))
        rw [ssL_join] at HJN
        obtain ⟨tJ, hJ⟩ : ∃ t : ByteArray, (⟨(jn (nums l)).toArray⟩ : ByteArray) = t := ⟨_, rfl⟩
        rw [hJ] at HJN
        have HJL := Lib.hid (show tJ.data.toList = layL l by rw [← hJ, HLL.out])
        have hJs : tJ.size ≤ 20000000 := by
          rw [← hJ]; show (List.toArray _).size ≤ _
          rw [List.size_toArray]
          have := HJB.out
          rw [List.take_of_length_le (by rw [nums_len]; exact Nat.le_refl _)] at this
          omega
        have c5 : ¬ 9223372036854775807 < 1 + tA.size + 2 + tG.size + 2 + tJ.size := by omega
        clear hJ O hcp
        go_wp2_with fail
        refine (HJN.out).mono ?_
        rintro e v1 ⟨rfl, hv1⟩
        replace B := B.more hv1
        have zhv1 := hv1.size
        clear hv1
        have B_0 := B.cells 0 _ rfl
        have B_1 := B.cells 1 _ rfl
        have B_2 := B.cells 2 _ rfl
        have B_3 := B.cells 3 _ rfl
        have B_f0 := B.free 0 (by simp)
        have B_f1 := B.free 1 (by simp)
        have B_f2 := B.free 2 (by simp)
        have B_f3 := B.free 3 (by simp)
        have B_t := B.there
        go_upto_region 12 with fail
        refine wp_region_text (fun w' => Box (w.heap.size) [.int .i64 a, .int .i64 g, .slice A l.length c, .bool q] w w') (by kernel_rfl) (by kernel_rfl) (B.drew) ?_
        clear B_0 B_1 B_2 B_3 B_f0 B_f1 B_f2 B_f3 B_t
        iterate 13 (
          apply SeqH.one
          · intro uw K hS hK
            have qB := hS
            have qB_0 := qB.cells 0 _ rfl
            have qB_1 := qB.cells 1 _ rfl
            have qB_2 := qB.cells 2 _ rfl
            have qB_3 := qB.cells 3 _ rfl
            first
              | (go_simp; exact hK.out _ qB)
              | (go_simp; go_at_call 49; (with_reducible refine (H1.out _ (HTab.out.below qB.below)).mono ?_); rintro e uw1 ⟨rfl, hv⟩; go_wp2_with fail; exact hK.out _ (qB.more hv))
              | (go_simp; go_at_call 49; (with_reducible refine (H2.out _ (HTab.out.below qB.below)).mono ?_); rintro e uw1 ⟨rfl, hv⟩; go_wp2_with fail; exact hK.out _ (qB.more hv))
          try simp only [Act.put, List.setIfInBounds_toArray, List.set_cons_zero, List.set_cons_succ])
        refine SeqH.end' rfl ?_
        intro v2 hS
        clear B
        have B := hS; clear hS
        have B_0 := B.cells 0 _ rfl
        have B_1 := B.cells 1 _ rfl
        have B_2 := B.cells 2 _ rfl
        have B_3 := B.cells 3 _ rfl
        have B_f0 := B.free 0 (by simp)
        have B_f1 := B.free 1 (by simp)
        have B_f2 := B.free 2 (by simp)
        have B_f3 := B.free 3 (by simp)
        have B_t := B.there
        rw [← HHD.out]
        have HE := Lib.hid (show (hd a g ++ tJ).data.toList = (hd a g).data.toList ++ layL l by rw [app_list, HJL.out])
        have e2 : ¬ 9223372036854775807 < (hd a g ++ tJ).size + 8 := by rw [ByteArray.size_append, hds]; omega
        generalize hd a g ++ tJ = t1 at HE e2 ⊢
        cases q
        · go_wp2
          go_ret2
          exact rpost (HTX.out _ (by rw [HTL.out, HE.out]; simp)).symm B.below
        · go_wp2
          go_ret2
          exact rpost (HTX.out _ (by rw [HTL.out, app_list, HE.out]; simp [cvd])).symm B.below
end Go.Proofs.YtokgncbcknpfiaaDoor.HText
