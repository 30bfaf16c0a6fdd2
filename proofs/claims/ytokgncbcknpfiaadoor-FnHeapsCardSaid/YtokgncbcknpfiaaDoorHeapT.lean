/- Heaps: l7Tons, TonsOf, sumOf, l7Find, findHeap: the model's and the program's. -/
import Derived.Test.YtokgncbcknpfiaaDoorHeapG
namespace Go.Proofs.YtokgncbcknpfiaaDoor.HeapT
open Go.RowKit Go.Proofs.YtokgncbcknpfiaaDoor.Mem Go.Proofs.YtokgncbcknpfiaaDoor.Base Go.Proofs.YtokgncbcknpfiaaDoor.Within Go.Proofs.YtokgncbcknpfiaaDoor.SInt Go.Proofs.YtokgncbcknpfiaaDoor.Boxes Go.Proofs.YtokgncbcknpfiaaDoor.Keep Go.Proofs.YtokgncbcknpfiaaDoor.Regn Go.Proofs.YtokgncbcknpfiaaDoor.Nest Go.Proofs.YtokgncbcknpfiaaDoor.HeapS Go.Proofs.YtokgncbcknpfiaaDoor.HeapW Go.Proofs.YtokgncbcknpfiaaDoor.Heap Go.Proofs.YtokgncbcknpfiaaDoor.HeapG
set_option linter.unusedVariables false
set_option maxRecDepth 100000
theorem sum_impl (P : Option Addr) (cap : Nat) (l : List Int) (w : World) (hr : Rd w w.heap.size P (iv l)) (hn : l.length ≤ 1000) (hb : ∀ x ∈ l, 0 ≤ x ∧ x ≤ 10000) :
    Calls Tryd.prog 37 #[.slice P l.length cap] w (RPost (.int .i64 l.sum) w) := by
  have HR := Lib.hid hr; clear hr
  have HBD := Lib.hid hb; clear hb
  go_enter Tryd.func37, Tryd.ntmps37
  go_wp2
  go_loopw [3, 8] (fun s i wr => ∃ (k : Nat) (q : Int), k ≤ l.length ∧ i = .int .i64 k ∧ s = .int .i64 q ∧ Hid ((l.take k).sum = q) ∧ 0 ≤ q ∧ q ≤ 10000 * k ∧ Below w.heap.size w wr) (fun _ i _ => l.length - (intOf i).toNat)
  case atStart => exact ⟨0, 0, Nat.zero_le _, rfl, rfl, Lib.hid rfl, by omega, by omega, Below.refl _ _⟩
  case round =>
    obtain ⟨k, q, hk, rfl, rfl, HQ, q0, q1, HB⟩ := hrel
    by_cases hlt : k < l.length
    · obtain ⟨b, o, rfl, hb, hc⟩ := HR.out.at (k := k) (by rw [iv_len]; exact hlt)
      obtain ⟨x, hx⟩ : ∃ x, l[k] = x := ⟨_, rfl⟩
      have hcell : wr.cell? ⟨b, o + k, none⟩ = some (.int .i64 x) := ((bcell HB).1 _ _ hb).trans (by rw [← hx]; exact hc k _ (iv_get l k hlt))
      have hx2 : 0 ≤ x ∧ x ≤ 10000 := by rw [← hx]; exact HBD.out _ (List.getElem_mem hlt)
      have HN := Lib.hid (show (l.take (k + 1)).sum = q + x by rw [sum_take l k hlt, HQ.out, hx])
      have HX2 := Lib.hid hx2
      have HL := Lib.hid hlt
      clear hx hc
      have y2 : IntKind.i64.wrap (q + x) = q + x := IntWalk.i64_in _ (by omega)
      clear hx2
      go_wp2
      go_roundw
      case rel => exact ⟨k + 1, q + x, HL.out, by go_num, rfl, HN, by have := HX2.out; omega, by have := HX2.out; omega, HB⟩
      case measure => have := HL.out; simp [intOf]; omega
    · have HF := Lib.hid (show l.sum = q by have := HQ.out; rwa [List.take_of_length_le (by omega)] at this)
      go_wp2
      go_ret
      exact rpost (by rw [HF.out] <;> rfl) HB
set_option maxHeartbeats 400000 in
theorem tons_spec (x : R) (w : World) (hr : Rd w w.heap.size x.f2.A (iv x.f2.ls)) (hn : x.f2.ls.length ≤ 1000) (hb : ∀ y ∈ x.f2.ls, 0 ≤ y ∧ y ≤ 10000) :
    Calls Tryd.prog 46 #[.agg #[.int .i64 x.f0, .int .i64 x.f1, .slice x.f2.A x.f2.ls.length x.f2.cap, .bool x.f3]] w (RPost (.int .i64 x.f2.ls.sum) w) := by
  obtain ⟨a, g, ⟨A, c, l⟩, q⟩ := x
  dsimp only at hr hn hb ⊢
  have HR := Lib.hid hr; clear hr
  have HBD := Lib.hid hb; clear hb
  go_enter Tryd.func46, Tryd.ntmps46
  go_upto_region 3 with fail
  have X := Box.new (Below.refl _ w) [.int .i64 a, .int .i64 g, .slice A l.length c, .bool q] 41 (g := w.heap.size) rfl
  generalize (w.alloc (.cells #[.int .i64 a, .int .i64 g, .slice A l.length c, .bool q] 41)) = W1 at X ⊢
  have X_0 := X.cells 0 _ rfl
  have X_1 := X.cells 1 _ rfl
  have X_2 := X.cells 2 _ rfl
  have X_3 := X.cells 3 _ rfl
  have X_f0 := X.free 0 (by simp)
  have X_f1 := X.free 1 (by simp)
  have X_f2 := X.free 2 (by simp)
  have X_f3 := X.free 3 (by simp)
  have X_t := X.there
  go_loopw [3, 4] (fun s i wr => ∃ (k : Nat) (z : Int), k ≤ l.length ∧ i = .int .i64 k ∧ s = .int .i64 z ∧ Hid ((l.take k).sum = z) ∧ 0 ≤ z ∧ z ≤ 10000 * k ∧ Box w.heap.size [.int .i64 a, .int .i64 g, .slice A l.length c, .bool q] w wr) (fun _ i _ => l.length - (intOf i).toNat)
  case atStart => exact ⟨0, 0, Nat.zero_le _, rfl, rfl, Lib.hid rfl, by omega, by omega, X⟩
  case round =>
    clear X
    obtain ⟨k, z, hk, rfl, rfl, HQ, q0, q1, X⟩ := hrel
    by_cases hlt : k < l.length
    · obtain ⟨b, o, rfl, hb, hc⟩ := HR.out.at (k := k) (by rw [iv_len]; exact hlt)
      obtain ⟨x, hx⟩ : ∃ x, l[k] = x := ⟨_, rfl⟩
      have hcell : wr.cell? ⟨b, o + k, none⟩ = some (.int .i64 x) := ((bcell X.below).1 _ _ hb).trans (by rw [← hx]; exact hc k _ (iv_get l k hlt))
      have hx2 : 0 ≤ x ∧ x ≤ 10000 := by rw [← hx]; exact HBD.out _ (List.getElem_mem hlt)
      have HN := Lib.hid (show (l.take (k + 1)).sum = z + x by rw [sum_take l k hlt, HQ.out, hx])
      have HX2 := Lib.hid hx2
      have HL := Lib.hid hlt
      clear hx hc
      have y2 : IntKind.i64.wrap (z + x) = z + x := IntWalk.i64_in _ (by omega)
      clear hx2
      have X_0 := X.cells 0 _ rfl
      have X_1 := X.cells 1 _ rfl
      have X_2 := X.cells 2 _ rfl
      have X_3 := X.cells 3 _ rfl
      have X_f0 := X.free 0 (by simp)
      have X_f1 := X.free 1 (by simp)
      have X_f2 := X.free 2 (by simp)
      have X_f3 := X.free 3 (by simp)
      have X_t := X.there
      go_wp2
      go_roundw
      case rel => exact ⟨k + 1, z + x, HL.out, by go_num, rfl, HN, by have := HX2.out; omega, by have := HX2.out; omega, X⟩
      case measure => have := HL.out; simp [intOf]; omega
    · have HF := Lib.hid (show l.sum = z by have := HQ.out; rwa [List.take_of_length_le (by omega)] at this)
      have X_0 := X.cells 0 _ rfl
      have X_1 := X.cells 1 _ rfl
      have X_2 := X.cells 2 _ rfl
      have X_3 := X.cells 3 _ rfl
      have X_f0 := X.free 0 (by simp)
      have X_f1 := X.free 1 (by simp)
      have X_f2 := X.free 2 (by simp)
      have X_f3 := X.free 3 (by simp)
      have X_t := X.there
      go_wp2
      go_ret
      exact rpost (by rw [HF.out] <;> rfl) X.below
theorem row_bd {l : List R} (h : good (pl l) = true) {k : Nat} {x : R} (hk : k < l.length) (hx : l[k] = x) : x.f2.ls.length ≤ 1000 ∧ (∀ y ∈ x.f2.ls, 0 ≤ y ∧ y ≤ 10000) ∧ 0 ≤ x.f2.ls.sum ∧ x.f2.ls.sum ≤ 6000 ∧ okH x.pure = true := by
  have h1 := good_get h k (pl_lt hk)
  rw [pl_x hk hx] at h1
  have h2 := (okH_true h1).2.2.2.2
  have h3 := okLs_len h2
  have h4 := okLs_sum h2
  exact ⟨by show x.pure.ls.length ≤ 1000; omega, fun y hy => by have := okLs_mem h2 y hy; omega, h4.1, h4.2, h1⟩
set_option maxHeartbeats 1000000 in
theorem tonsOf_spec (P : Option Addr) (cap : Nat) (l : List R) (g : Int) (w : World) (hr : Hs w w.heap.size P l) :
    Calls Tryd.prog 18 #[.slice P l.length cap, .int .i64 g] w (RPost (tonsV (pl l) g) w) := by
  have hn := hr.len
  have HR := Lib.hid hr; clear hr
  go_enter Tryd.func18, Tryd.ntmps18
  go_wp2_with fail
  refine (good_spec P cap l w HR.out).mono ?_
  rintro e w1 ⟨rfl, HB⟩
  cases hg : good (pl l)
  · have HV := Lib.hid (tonsV_no (l := pl l) (g := g) (by rw [hg]; rfl))
    go_wp2
    go_ret2
    exact rpost (by rw [HV.out] <;> rfl) HB
  cases h1 : inB g 1 4
  · have HV := Lib.hid (tonsV_no (l := pl l) (g := g) (by rw [hg, h1]; rfl))
    go_wp2_with (go_at_call 42; (with_reducible refine (grade_spec _ _).mono ?_); rintro e' w' ⟨rfl, rfl⟩; try rw [h1])
    go_ret2
    exact rpost (by rw [HV.out] <;> rfl) HB
  have HV := Lib.hid (tonsV_yes hg h1)
  have HG := Lib.hid hg; clear hg
  go_wp2_with (go_at_call 42; (with_reducible refine (grade_spec _ _).mono ?_); rintro e' w' ⟨rfl, rfl⟩; try rw [h1])
  go_loopw [6, 7] (fun s i wr => ∃ (k : Nat) (z : Int), k ≤ l.length ∧ i = .int .i64 k ∧ s = .int .i64 z ∧ Hid (tonsL ((pl l).take k) g = z) ∧ 0 ≤ z ∧ z ≤ 6000 * k ∧ Below w.heap.size w wr) (fun _ i _ => l.length - (intOf i).toNat)
  case atStart => exact ⟨0, 0, Nat.zero_le _, rfl, rfl, Lib.hid rfl, by omega, by omega, HB⟩
  case round =>
    clear HB
    obtain ⟨k, z, hk, rfl, rfl, HQ, q0, q1, HB⟩ := hrel
    by_cases hlt : k < l.length
    · obtain ⟨x, hx⟩ : ∃ x, l[k] = x := ⟨_, rfl⟩
      obtain ⟨b, o, rfl, hb, c0, c1, c2, c3⟩ := hs_at HR.out HB hlt hx
      have hrow := hs_row HR.out hlt hx
      have HRX := Lib.hid hrow.1; clear hrow
      obtain ⟨n1, n2, n3, n4, _⟩ := row_bd HG.out hlt hx
      have HN2 := Lib.hid n2; clear n2
      have HT := Lib.hid ((tonsL_take (g := g) (pl_lt hlt) (pl_x hlt hx)).trans (by rw [HQ.out]))
      have HL := Lib.hid hlt
      clear hx
      cases he : (x.f1 == g)
      · have HN := Lib.hid (HT.out.trans (show z + (if x.pure.gr = g then x.pure.ls.sum else 0) = z by rw [if_neg (show ¬ x.pure.gr = g from beq_eq_false_iff_ne.1 he)]; omega))
        go_wp2
        go_roundw
        case rel => exact ⟨k + 1, z, HL.out, by go_num, rfl, HN, q0, by omega, HB⟩
        case measure => have := HL.out; simp [intOf]; omega
      · have HN := Lib.hid (HT.out.trans (show z + (if x.pure.gr = g then x.pure.ls.sum else 0) = z + x.f2.ls.sum by rw [if_pos (show x.pure.gr = g from eq_of_beq he)]; rfl))
        have y2 : IntKind.i64.wrap (z + x.f2.ls.sum) = z + x.f2.ls.sum := IntWalk.i64_in _ (by omega)
        have HN34 := Lib.hid (And.intro n3 n4); clear n3 n4
        go_wp2_with fail
        refine (tons_spec x _ (rd_keep HRX.out HB) n1 HN2.out).mono ?_
        rintro e w2 ⟨rfl, hB2⟩
        replace HB := be HB hB2
        go_wp2
        go_roundw
        case rel => exact ⟨k + 1, z + x.f2.ls.sum, HL.out, by go_num, rfl, HN, by have := HN34.out; omega, by have := HN34.out; omega, HB⟩
        case measure => have := HL.out; simp [intOf]; omega
    · have HF := Lib.hid (show tonsL (pl l) g = z by have := HQ.out; rwa [List.take_of_length_le (by rw [pl_len]; omega)] at this)
      go_wp2
      go_ret2
      exact rpost (by rw [HV.out, HF.out] <;> rfl) HB
set_option maxHeartbeats 1000000 in
theorem tonsOf_impl (P : Option Addr) (cap : Nat) (l : List R) (g : Int) (w : World) (hr : Hs w w.heap.size P l) :
    Calls Tryd.prog 9 #[.slice P l.length cap, .int .i64 g] w (RPost (tonsV (pl l) g) w) := by
  have hn := hr.len
  have HR := Lib.hid hr; clear hr
  go_enter Tryd.func9, Tryd.ntmps9
  go_wp2_with fail
  refine (are_impl P cap l w HR.out).mono ?_
  rintro e w1 ⟨rfl, HB⟩
  cases hg : good (pl l)
  · have HV := Lib.hid (tonsV_no (l := pl l) (g := g) (by rw [hg]; rfl))
    go_wp2
    go_ret2
    exact rpost (by rw [HV.out] <;> rfl) HB
  cases h1 : inB g 1 4
  · have HV := Lib.hid (tonsV_no (l := pl l) (g := g) (by rw [hg, h1]; rfl))
    go_wp2_with (go_at_call 36; (with_reducible refine (grade_impl _ _).mono ?_); rintro e' w' ⟨rfl, rfl⟩; try rw [h1])
    go_ret2
    exact rpost (by rw [HV.out] <;> rfl) HB
  have HV := Lib.hid (tonsV_yes hg h1)
  have HG := Lib.hid hg; clear hg
  go_wp2_with (go_at_call 36; (with_reducible refine (grade_impl _ _).mono ?_); rintro e' w' ⟨rfl, rfl⟩; try rw [h1])
  go_loopw [6, 19] (fun s i wr => ∃ (k : Nat) (z : Int), k ≤ l.length ∧ i = .int .i64 k ∧ s = .int .i64 z ∧ Hid (tonsL ((pl l).take k) g = z) ∧ 0 ≤ z ∧ z ≤ 6000 * k ∧ Below w.heap.size w wr) (fun _ i _ => l.length - (intOf i).toNat)
  case atStart => exact ⟨0, 0, Nat.zero_le _, rfl, rfl, Lib.hid rfl, by omega, by omega, HB⟩
  case round =>
    clear HB
    obtain ⟨k, z, hk, rfl, rfl, HQ, q0, q1, HB⟩ := hrel
    by_cases hlt : k < l.length
    · obtain ⟨x, hx⟩ : ∃ x, l[k] = x := ⟨_, rfl⟩
      obtain ⟨b, o, rfl, hb, c0, c1, c2, c3⟩ := hs_at HR.out HB hlt hx
      have hrow := hs_row HR.out hlt hx
      have HRX := Lib.hid hrow.1; clear hrow
      obtain ⟨n1, n2, n3, n4, _⟩ := row_bd HG.out hlt hx
      have HN2 := Lib.hid n2; clear n2
      have HT := Lib.hid ((tonsL_take (g := g) (pl_lt hlt) (pl_x hlt hx)).trans (by rw [HQ.out]))
      have HL := Lib.hid hlt
      clear hx
      cases he : (x.f1 == g)
      · have HN := Lib.hid (HT.out.trans (show z + (if x.pure.gr = g then x.pure.ls.sum else 0) = z by rw [if_neg (show ¬ x.pure.gr = g from beq_eq_false_iff_ne.1 he)]; omega))
        go_wp2
        go_roundw
        case rel => exact ⟨k + 1, z, HL.out, by go_num, rfl, HN, q0, by omega, al HB⟩
        case measure => have := HL.out; simp [intOf]; omega
      · have HN := Lib.hid (HT.out.trans (show z + (if x.pure.gr = g then x.pure.ls.sum else 0) = z + x.f2.ls.sum by rw [if_pos (show x.pure.gr = g from eq_of_beq he)]; rfl))
        have y2 : IntKind.i64.wrap (z + x.f2.ls.sum) = z + x.f2.ls.sum := IntWalk.i64_in _ (by omega)
        have HN34 := Lib.hid (And.intro n3 n4); clear n3 n4
        go_wp2_with fail
        refine (sum_impl x.f2.A x.f2.cap x.f2.ls _ (rd_keep HRX.out (al HB)) n1 HN2.out).mono ?_
        rintro e w2 ⟨rfl, hB2⟩
        replace HB := be (al HB) hB2
        go_wp2
        go_roundw
        case rel => exact ⟨k + 1, z + x.f2.ls.sum, HL.out, by go_num, rfl, HN, by have := HN34.out; omega, by have := HN34.out; omega, HB⟩
        case measure => have := HL.out; simp [intOf]; omega
    · have HF := Lib.hid (show tonsL (pl l) g = z by have := HQ.out; rwa [List.take_of_length_le (by rw [pl_len]; omega)] at this)
      go_wp2
      go_ret2
      exact rpost (by rw [HV.out, HF.out] <;> rfl) HB
/-- what the program says of a heap that is sought. -/
def findV (l : List H) (id : Int) : Value := if 0 ≤ find l id then .tuple #[.int .i64 (find l id), .bool true] else .tuple #[.int .i64 0, .bool false]
theorem findV_no {l : List H} {id : Int} (h : find l id = -1) : findV l id = .tuple #[.int .i64 0, .bool false] := by unfold findV; rw [h]; rfl
theorem findV_yes {l : List H} {id : Int} {k : Nat} (h : find l id = k) : findV l id = .tuple #[.int .i64 k, .bool true] := by unfold findV; rw [h, if_pos (by omega)]
set_option maxHeartbeats 1000000 in
theorem find_impl (P : Option Addr) (cap : Nat) (l : List R) (id : Int) (w : World) (hr : Hs w w.heap.size P l) :
    Calls Tryd.prog 29 #[.slice P l.length cap, .int .i64 id] w (RPost (findV (pl l) id) w) := by
  have hn := hr.len
  have HR := Lib.hid hr; clear hr
  go_enter Tryd.func29, Tryd.ntmps29
  go_wp2_with fail
  refine (are_impl P cap l w HR.out).mono ?_
  rintro e w1 ⟨rfl, HB⟩
  cases hg : good (pl l)
  · have HV := Lib.hid (findV_no (find_bad (id := id) hg))
    go_wp2
    go_ret2
    exact rpost (by rw [HV.out] <;> rfl) HB
  have HG := Lib.hid hg; clear hg
  go_wp2
  go_loopw [13] (fun i wr => ∃ k : Nat, k ≤ l.length ∧ i = .int .i64 k ∧ Hid (Not (pl l) id k) ∧ Below w.heap.size w wr) (fun i _ => l.length - (intOf i).toNat)
  case atStart => exact ⟨0, Nat.zero_le _, rfl, Lib.hid (fun j _ hj => by omega), HB⟩
  case round =>
    clear HB
    obtain ⟨k, hk, rfl, HN, HB⟩ := hrel
    by_cases hlt : k < l.length
    · obtain ⟨x, hx⟩ : ∃ x, l[k] = x := ⟨_, rfl⟩
      obtain ⟨b, o, rfl, hb, c0, c1, c2, c3⟩ := hs_at HR.out HB hlt hx
      have HL := Lib.hid hlt
      have HX := Lib.hid (pl_x hlt hx); clear hx
      cases he : (x.f0 == id)
      · have HN1 := Lib.hid (HN.out.next (pl_lt hlt) (by rw [HX.out]; exact beq_eq_false_iff_ne.1 he))
        go_wp2
        go_roundw
        case rel => exact ⟨k + 1, HL.out, by go_num, HN1, al HB⟩
        case measure => have := HL.out; simp [intOf]; omega
      · have HF := Lib.hid (findV_yes (find_at HG.out (pl_lt hlt) HN.out (by rw [HX.out]; exact eq_of_beq he)))
        go_wp2
        go_ret2
        exact rpost (by rw [HF.out] <;> rfl) (al HB)
    · have HF := Lib.hid (findV_no (find_none (l := pl l) (id := id) (fun j hj _ => HN.out j hj (by rw [pl_len] at hj; omega))))
      go_wp2
      go_ret2
      exact rpost (by rw [HF.out] <;> rfl) HB
set_option maxHeartbeats 1000000 in
theorem find_spec (P : Option Addr) (cap : Nat) (l : List R) (id : Int) (w : World) (hr : Hs w w.heap.size P l) :
    Calls Tryd.prog 32 #[.slice P l.length cap, .int .i64 id] w (RPost (.int .i64 (find (pl l) id)) w) := by
  have hn := hr.len
  have HR := Lib.hid hr; clear hr
  go_enter Tryd.func32, Tryd.ntmps32
  go_wp2
  go_loopw [5] (fun i wr => ∃ k : Nat, k ≤ l.length ∧ i = .int .i64 k ∧ Hid (Not (pl l) id k) ∧ Below w.heap.size w wr) (fun i _ => l.length - (intOf i).toNat)
  case atStart => exact ⟨0, Nat.zero_le _, rfl, Lib.hid (fun j _ hj => by omega), Below.refl _ _⟩
  case round =>
    obtain ⟨k, hk, rfl, HN, HB⟩ := hrel
    by_cases hlt : k < l.length
    · obtain ⟨x, hx⟩ : ∃ x, l[k] = x := ⟨_, rfl⟩
      obtain ⟨b, o, rfl, hb, c0, c1, c2, c3⟩ := hs_at HR.out (Below.refl _ _) hlt hx
      have HL := Lib.hid hlt
      have HX := Lib.hid (pl_x hlt hx); clear hx
      go_wp2_with fail
      refine (good_spec _ cap l _ (HR.out.keep HB)).mono ?_
      rintro e w2 ⟨rfl, hB2⟩
      replace HB := be HB hB2
      cases hg : good (pl l)
      · have HF := Lib.hid (find_bad (id := id) hg)
        go_wp2
        go_ret
        exact rpost (by rw [HF.out] <;> rfl) HB
      have c0' := ((bcell HB).1 _ _ hb).trans c0
      clear c0 c1 c2 c3
      cases he : (x.f0 == id)
      · have HN1 := Lib.hid (HN.out.next (pl_lt hlt) (by rw [HX.out]; exact beq_eq_false_iff_ne.1 he))
        clear hg
        go_wp2
        go_roundw
        case rel => exact ⟨k + 1, HL.out, by go_num, HN1, HB⟩
        case measure => have := HL.out; simp [intOf]; omega
      · have HF := Lib.hid (find_at hg (pl_lt hlt) HN.out (by rw [HX.out]; exact eq_of_beq he))
        clear hg
        go_wp2
        go_ret
        exact rpost (by rw [HF.out] <;> rfl) HB
    · have HF := Lib.hid (find_none (l := pl l) (id := id) (fun j hj _ => HN.out j hj (by rw [pl_len] at hj; omega)))
      go_wp2
      go_ret
      exact rpost (by rw [HF.out] <;> rfl) HB
end Go.Proofs.YtokgncbcknpfiaaDoor.HeapT
