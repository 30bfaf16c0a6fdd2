/- DrawPutLayer, DrawTakeTons. Made by tools/mk_dheaps4.py. -/
import Derived.Test.YtokgncbcknpfiaaDoorDHeaps3
import Derived.Test.YtokgncbcknpfiaaDoorRegn3
import Derived.Test.YtokgncbcknpfiaaDoorHeapT
namespace Go.Proofs.YtokgncbcknpfiaaDoor.DHeaps4
open Go.RowKit Go.Proofs.YtokgncbcknpfiaaDoor.Mem Go.Proofs.YtokgncbcknpfiaaDoor.Base Go.Proofs.YtokgncbcknpfiaaDoor.Draw Go.Proofs.YtokgncbcknpfiaaDoor.Boxes Go.Proofs.YtokgncbcknpfiaaDoor.Keep Go.Proofs.YtokgncbcknpfiaaDoor.Dr Go.Proofs.YtokgncbcknpfiaaDoor.SInt Go.Proofs.YtokgncbcknpfiaaDoor.Nest Go.Proofs.YtokgncbcknpfiaaDoor.Regn Go.Proofs.YtokgncbcknpfiaaDoor.HeapS Go.Proofs.YtokgncbcknpfiaaDoor.DHeap0 Go.Proofs.YtokgncbcknpfiaaDoor.DHeaps0 Go.Proofs.YtokgncbcknpfiaaDoor.DHeaps3
open Go.Proofs.YtokgncbcknpfiaaDoor.DStack (cu_at below_of)
set_option linter.unusedVariables false
set_option linter.unusedSimpArgs false
set_option maxRecDepth 100000
theorem lst_more {w w' : World} {g : Nat} {xs : List Value} (h : Lst w g xs) (hb : Below w.heap.size w w') : Lst w' g xs :=
  ⟨Nat.lt_of_lt_of_le h.1 hb.size, fun j v hv => by rw [(bcell hb).1 g j h.1]; exact h.2 j v hv⟩
theorem lt_more {B : Nat} {zs : List Int} {p K : Nat} {w : World} {A : Option Addr} {c : Nat} {l : List R} {W V : World} (h : Lt B zs p K w A c l W) (hb : Below W.heap.size W V) : Lt B zs p K w A c l V :=
  ⟨h.C.more hb, grown_more h.GW hb, own_keep h.O hb, fun x hx => ⟨(h.rows x hx).1.keep hb, (h.rows x hx).2⟩, h.o0⟩
set_option maxHeartbeats 1600000 in
theorem tons_some (x : R) (w : World) (hr : Rd w w.heap.size x.f2.A (iv x.f2.ls)) (hn : x.f2.ls.length ≤ 1000) :
    Calls Tryd.prog 46 #[.agg #[.int .i64 x.f0, .int .i64 x.f1, .slice x.f2.A x.f2.ls.length x.f2.cap, .bool x.f3]] w fun e w' => ∃ m : Int, e = .returned (.int .i64 m) ∧ Below w.heap.size w w' := by
  obtain ⟨a, g, ⟨A, c, l⟩, q⟩ := x
  dsimp only at hr hn ⊢
  have HR := Lib.hid hr; clear hr
  go_enter Tryd.func46, Tryd.ntmps46
  go_upto_region 3 with fail
  have X := Box.new (Below.refl _ w) [.int .i64 a, .int .i64 g, .slice A l.length c, .bool q] 41 (g := w.heap.size) rfl
  generalize (w.alloc (.cells #[.int .i64 a, .int .i64 g, .slice A l.length c, .bool q] 41)) = W1 at X ⊢
  have X_0 := X.cells 0 _ rfl
  have X_1 := X.cells 1 _ rfl
  have X_2 := X.cells 2 _ rfl
  have X_3 := X.cells 3 _ rfl
  have X_f0 := X.free 0 (by simp)
  have X_f1 := X.free 1 (by simp)
  have X_f2 := X.free 2 (by simp)
  have X_f3 := X.free 3 (by simp)
  have X_t := X.there
  go_loopw [3, 4] (fun s i wr => ∃ (k : Nat) (z : Int), k ≤ l.length ∧ i = .int .i64 k ∧ s = .int .i64 z ∧ Box w.heap.size [.int .i64 a, .int .i64 g, .slice A l.length c, .bool q] w wr) (fun _ i _ => l.length - (intOf i).toNat)
  case atStart => exact ⟨0, 0, Nat.zero_le _, rfl, rfl, X⟩
  case round =>
    clear X
    obtain ⟨k, z, hk, rfl, rfl, X⟩ := hrel
    by_cases hlt : k < l.length
    · obtain ⟨b, o, rfl, hb, hc⟩ := HR.out.at (k := k) (by rw [iv_len]; exact hlt)
      obtain ⟨x, hx⟩ : ∃ x, l[k] = x := ⟨_, rfl⟩
      have hcell : wr.cell? ⟨b, o + k, none⟩ = some (.int .i64 x) := ((bcell X.below).1 _ _ hb).trans (by rw [← hx]; exact hc k _ (iv_get l k hlt))
      have HL := Lib.hid hlt
      clear hx hc
      obtain ⟨z2, y2⟩ : ∃ z2, IntKind.i64.wrap (z + x) = z2 := ⟨_, rfl⟩
      have X_0 := X.cells 0 _ rfl
      have X_1 := X.cells 1 _ rfl
      have X_2 := X.cells 2 _ rfl
      have X_3 := X.cells 3 _ rfl
      have X_f0 := X.free 0 (by simp)
      have X_f1 := X.free 1 (by simp)
      have X_f2 := X.free 2 (by simp)
      have X_f3 := X.free 3 (by simp)
      have X_t := X.there
      go_wp2
      go_roundw
      case rel => exact ⟨k + 1, z2, HL.out, by go_num, rfl, X⟩
      case measure => have := HL.out; simp [intOf]; omega
    · have hlt2 := hlt
      have X_0 := X.cells 0 _ rfl
      have X_1 := X.cells 1 _ rfl
      have X_2 := X.cells 2 _ rfl
      have X_3 := X.cells 3 _ rfl
      have X_f0 := X.free 0 (by simp)
      have X_f1 := X.free 1 (by simp)
      have X_f2 := X.free 2 (by simp)
      have X_f3 := X.free 3 (by simp)
      have X_t := X.there
      go_wp2
      go_ret
      exact ⟨z, rfl, X.below⟩
def D3 (w : World) (e : Ending) (w' : World) : Prop :=
  ∃ (l : List R) (g c : Nat) (r s t : Int), l.length ≤ 20 ∧ e = .returned (.tuple #[.slice (some ⟨g, 0, none⟩) l.length c, .int .i64 r, .int .i64 s, .int .i64 t]) ∧ Hs w' w'.heap.size (some ⟨g, 0, none⟩) l ∧ Below w.heap.size w w'
set_option maxHeartbeats 8000000 in
theorem drawPut (A : Option Addr) (cap : Nat) (zs : List Int) (w : World) (h : Draw.Src w A zs) : Calls Tryd.prog 5 #[.slice A zs.length cap] w (D3 w) := by
  have C0 := cu_at h cap (p := w.heap.size) rfl
  have G0 : w.grownBy (w.alloc (.cells #[.slice A zs.length cap, .int .i64 0, .int .u64 0] 49)) (some w.heap.size) := grown_alloc w _ _
  have S0 : (w.alloc (.cells #[.slice A zs.length cap, .int .i64 0, .int .u64 0] 49)).heap.size = w.heap.size + 1 := size_alloc' _ _
  have H0 := Lib.hid (And.intro C0 (And.intro G0 S0)); clear C0 G0 S0 h
  go_enter Tryd.func5, Tryd.ntmps5
  go_wp2_with fail
  obtain ⟨C0, GW, sv⟩ := H0.out
  clear H0
  generalize w.alloc (.cells #[.slice A zs.length cap, .int .i64 0, .int .u64 0] 49) = v at C0 GW sv ⊢
  obtain ⟨p, hpp⟩ : ∃ p, w.heap.size = p := ⟨_, rfl⟩
  rw [hpp] at C0 GW sv ⊢
  obtain ⟨B, hBB, C⟩ : ∃ B, B = p ∧ Cu B zs p 0 v := ⟨_, rfl, C0⟩
  clear C0
  have hp : p < v.heap.size := by omega
  have HGW := Lib.hid GW; clear GW
  refine (DHeaps.heaps_d B zs p 0 v C (by omega) hp).mono ?_
  rintro e V1 ⟨g, c, l, hl, rfl, hL⟩
  have HL := Lib.hid hL; clear hL C
  have hp2 := HL.out.GW.size
  have hp3 := own_ge HL.out.O g rfl
  by_cases hz : l.length = 0
  · have d1 : decide ((0 : Int) < l.length) = false := decide_eq_false (by omega)
    have d2 : decide (0 < l.length) = false := decide_eq_false (by omega)
    have HZ := Lib.hid hz; clear hz
    go_wp2_with fail
    refine (heapId_d HL.out (by omega) hl).mono ?_
    rintro e V ⟨r, rfl, hL⟩
    replace HL := Lib.hid hL; clear hL
    go_wp2_with fail
    refine (grade7_d HL.out (by omega)).mono ?_
    rintro e V ⟨s, rfl, hL, _⟩
    replace HL := Lib.hid hL; clear hL
    go_wp2_with fail
    refine (tons7_d HL.out (by omega)).mono ?_
    rintro e V ⟨t, rfl, hL, _⟩
    replace HL := Lib.hid hL; clear hL
    go_wp2
    exact bodyPost_ret (v := .tuple #[.slice (some ⟨g, 0, none⟩) l.length c, .int .i64 r, .int .i64 s, .int .i64 t]) (by simp [results, Tryd.results5, go_sem]) rfl ⟨l, g, c, r, s, t, hl, rfl, HL.out.hs (by omega), below_of (grown_trans HGW.out HL.out.GW) (by omega)⟩
  have d1 : decide ((0 : Int) < l.length) = true := decide_eq_true (by omega)
  have d2 : decide (0 < l.length) = true := decide_eq_true (by omega)
  go_wp2_with fail
  refine (HL.out.one (by omega) 5 (by omega) (by omega)).mono ?_
  rintro e V2 ⟨q, rfl, hp1⟩
  replace HL := Lib.hid hp1; clear hp1
  have hp4 := HL.out.GW.size
  cases q
  · go_wp2_with fail
    refine (HL.out.pick (by omega) l.length (by omega) (by omega)).mono ?_
    rintro e V3 ⟨x, hx, rfl, hp1⟩
    replace HL := Lib.hid hp1; clear hp1
    obtain ⟨k, rfl⟩ : ∃ k : Nat, x = k := ⟨x.toNat, by omega⟩
    have hk : k < l.length := by omega
    have hki : (k : Int) < l.length := by omega
    obtain ⟨x9, hx9⟩ : ∃ x, l[k] = x := ⟨_, rfl⟩
    have hmem : x9 ∈ l := by rw [← hx9]; exact List.getElem_mem hk
    have k0 : V3.cell? ⟨g, k * 4, none⟩ = some (.int .i64 x9.f0) := by rw [HL.out.O.cellAt _ (by omega), ← hx9]; exact flat_0 l k hk
    have k1 : V3.cell? ⟨g, k * 4 + 1, none⟩ = some (.int .i64 x9.f1) := by rw [HL.out.O.cellAt _ (by omega), ← hx9]; exact flat_1 l k hk
    have k2 : V3.cell? ⟨g, k * 4 + 2, none⟩ = some (.slice x9.f2.A x9.f2.ls.length x9.f2.cap) := by rw [HL.out.O.cellAt _ (by omega), ← hx9]; exact flat_2 l k hk
    have k3 : V3.cell? ⟨g, k * 4 + 3, none⟩ = some (.bool x9.f3) := by rw [HL.out.O.cellAt _ (by omega), ← hx9]; exact flat_3 l k hk
    have HX9 := Lib.hid hx9; clear hx9
    go_wp2_with fail
    clear k0 k1 k2 k3
    have X : Cb V3.heap.size [.int .i64 x9.f0, .int .i64 x9.f1, .slice x9.f2.A x9.f2.ls.length x9.f2.cap, .bool x9.f3] (V3.alloc (.cells #[.int .i64 x9.f0, .int .i64 x9.f1, .slice x9.f2.A x9.f2.ls.length x9.f2.cap, .bool x9.f3] 41)) := Cb.new _ _ _ rfl
    have T := HL.out.alloc (.cells #[.int .i64 x9.f0, .int .i64 x9.f1, .slice x9.f2.A x9.f2.ls.length x9.f2.cap, .bool x9.f3] 41)
    have hgx : p < V3.heap.size := by have := HL.out.GW.size; omega
    obtain ⟨W3, hW3⟩ : ∃ W, V3.alloc (.cells #[.int .i64 x9.f0, .int .i64 x9.f1, .slice x9.f2.A x9.f2.ls.length x9.f2.cap, .bool x9.f3] 41) = W := ⟨_, rfl⟩
    rw [hW3] at X T ⊢
    obtain ⟨gx, hgx2⟩ : ∃ g, V3.heap.size = g := ⟨_, rfl⟩
    rw [hgx2] at X hgx ⊢
    clear hW3 HL
    obtain ⟨K0, hK0, hK1⟩ : ∃ K0 : Nat, K0 ≤ 600000000 ∧ 0 + 2000 + 2 + 2 = K0 := ⟨_, by omega, rfl⟩
    rw [hK1] at T
    clear hK1
    refine wp_region_rel [30, 31, 32, 33, 34, 35, 36, 2, 3, 4, 5] (fun L f w' => (Cb gx [.int .i64 x9.f0, .int .i64 x9.f1, .slice x9.f2.A x9.f2.ls.length x9.f2.cap, .bool x9.f3] w') ∧ (¬ L 6 → Lt B zs p K0 v (some ⟨g, 0, none⟩) c l w') ∧ (L 6 → Lt B zs p (K0 + 4) v (some ⟨g, 0, none⟩) c l w') ∧ (L 0 → f 30 = .slice (some ⟨g, 0, none⟩) l.length c) ∧ (L 1 → f 31 = .pointer (some ⟨gx, 0, none⟩)) ∧ (L 2 → f 32 = .int .i64 x9.f0) ∧ (L 3 → f 33 = .pointer (some ⟨gx, 1, none⟩)) ∧ (L 4 → f 34 = .int .i64 x9.f1) ∧ (L 5 → f 35 = .pointer (some ⟨p, 0, none⟩)) ∧ (L 6 → ∃ m, f 36 = .int .i64 m) ∧ (L 7 → f 2 = .slice (some ⟨g, 0, none⟩) l.length c) ∧ (L 8 → f 3 = .int .i64 x9.f0) ∧ (L 9 → f 4 = .int .i64 x9.f1) ∧ (L 10 → ∃ m, f 5 = .int .i64 m)) (by kernel_rfl) (by kernel_rfl) (by kernel_rfl) (fun f => ⟨X.more (Below.refl _ _).drew, fun _ => lt_more T (Below.refl _ _).drew, fun h => h.elim, fun h => h.elim, fun h => h.elim, fun h => h.elim, fun h => h.elim, fun h => h.elim, fun h => h.elim, fun h => h.elim, fun h => h.elim, fun h => h.elim, fun h => h.elim, fun h => h.elim⟩) ?_ ?_
    · apply RelH.op2
      · intro L f u K hN hS hK
        simp only [puts, Act.put, List.setIfInBounds_toArray, List.set_cons_zero, List.set_cons_succ, upd, Nat.reduceEqDiff, ↓reduceIte, if_true, if_false] at hK ⊢
        have HS9 := Lib.hid hS
        obtain ⟨qX, qT, qT1, c0, c1, c2, c3, c4, c5, c6, c7, c8, c9, c10⟩ := hS
        clear qT qT1 c0 c1 c2 c3 c4 c5 c6 c7 c8 c9 c10
        go_simp
        obtain ⟨qX, qT, qT1, c0, c1, c2, c3, c4, c5, c6, c7, c8, c9, c10⟩ := HS9.out
        exact hK.out _ _ ⟨qX, fun z9 => qT (fun z => z9 (.inl z)), fun z8 => qT1 (z8.resolve_right (by decide)), fun _ => rfl, fun h => c1 (h.resolve_right (by decide)), fun h => c2 (h.resolve_right (by decide)), fun h => c3 (h.resolve_right (by decide)), fun h => c4 (h.resolve_right (by decide)), fun h => c5 (h.resolve_right (by decide)), fun h => c6 (h.resolve_right (by decide)), fun h => c7 (h.resolve_right (by decide)), fun h => c8 (h.resolve_right (by decide)), fun h => c9 (h.resolve_right (by decide)), fun h => c10 (h.resolve_right (by decide))⟩ _ rfl
      apply RelH.op2
      · intro L f u K hN hS hK
        simp only [puts, Act.put, List.setIfInBounds_toArray, List.set_cons_zero, List.set_cons_succ, upd, Nat.reduceEqDiff, ↓reduceIte, if_true, if_false] at hK ⊢
        have HS9 := Lib.hid hS
        obtain ⟨qX, qT, qT1, c0, c1, c2, c3, c4, c5, c6, c7, c8, c9, c10⟩ := hS
        clear qT qT1 c0 c1 c2 c3 c4 c5 c6 c7 c8 c9 c10
        go_simp
        obtain ⟨qX, qT, qT1, c0, c1, c2, c3, c4, c5, c6, c7, c8, c9, c10⟩ := HS9.out
        exact hK.out _ _ ⟨qX, fun z9 => qT (fun z => z9 (.inl z)), fun z8 => qT1 (z8.resolve_right (by decide)), fun h => c0 (h.resolve_right (by decide)), fun _ => rfl, fun h => c2 (h.resolve_right (by decide)), fun h => c3 (h.resolve_right (by decide)), fun h => c4 (h.resolve_right (by decide)), fun h => c5 (h.resolve_right (by decide)), fun h => c6 (h.resolve_right (by decide)), fun h => c7 (h.resolve_right (by decide)), fun h => c8 (h.resolve_right (by decide)), fun h => c9 (h.resolve_right (by decide)), fun h => c10 (h.resolve_right (by decide))⟩ _ rfl
      apply RelH.op2
      · intro L f u K hN hS hK
        simp only [puts, Act.put, List.setIfInBounds_toArray, List.set_cons_zero, List.set_cons_succ, upd, Nat.reduceEqDiff, ↓reduceIte, if_true, if_false] at hK ⊢
        have HS9 := Lib.hid hS
        obtain ⟨qX, qT, qT1, c0, c1, c2, c3, c4, c5, c6, c7, c8, c9, c10⟩ := hS
        have e1 := c1 (hN.out.2 1 (by decide +kernel))
        have X_0 := qX.cells 0 _ rfl
        have X_1 := qX.cells 1 _ rfl
        have X_2 := qX.cells 2 _ rfl
        have X_3 := qX.cells 3 _ rfl
        clear qT qT1 c0 c1 c2 c3 c4 c5 c6 c7 c8 c9 c10
        go_simp
        obtain ⟨qX, qT, qT1, c0, c1, c2, c3, c4, c5, c6, c7, c8, c9, c10⟩ := HS9.out
        exact hK.out _ _ ⟨qX, fun z9 => qT (fun z => z9 (.inl z)), fun z8 => qT1 (z8.resolve_right (by decide)), fun h => c0 (h.resolve_right (by decide)), fun h => c1 (h.resolve_right (by decide)), fun _ => rfl, fun h => c3 (h.resolve_right (by decide)), fun h => c4 (h.resolve_right (by decide)), fun h => c5 (h.resolve_right (by decide)), fun h => c6 (h.resolve_right (by decide)), fun h => c7 (h.resolve_right (by decide)), fun h => c8 (h.resolve_right (by decide)), fun h => c9 (h.resolve_right (by decide)), fun h => c10 (h.resolve_right (by decide))⟩ _ (by simp only [e1] <;> rfl)
      apply RelH.op2
      · intro L f u K hN hS hK
        simp only [puts, Act.put, List.setIfInBounds_toArray, List.set_cons_zero, List.set_cons_succ, upd, Nat.reduceEqDiff, ↓reduceIte, if_true, if_false] at hK ⊢
        have HS9 := Lib.hid hS
        obtain ⟨qX, qT, qT1, c0, c1, c2, c3, c4, c5, c6, c7, c8, c9, c10⟩ := hS
        clear qT qT1 c0 c1 c2 c3 c4 c5 c6 c7 c8 c9 c10
        go_simp
        obtain ⟨qX, qT, qT1, c0, c1, c2, c3, c4, c5, c6, c7, c8, c9, c10⟩ := HS9.out
        exact hK.out _ _ ⟨qX, fun z9 => qT (fun z => z9 (.inl z)), fun z8 => qT1 (z8.resolve_right (by decide)), fun h => c0 (h.resolve_right (by decide)), fun h => c1 (h.resolve_right (by decide)), fun h => c2 (h.resolve_right (by decide)), fun _ => rfl, fun h => c4 (h.resolve_right (by decide)), fun h => c5 (h.resolve_right (by decide)), fun h => c6 (h.resolve_right (by decide)), fun h => c7 (h.resolve_right (by decide)), fun h => c8 (h.resolve_right (by decide)), fun h => c9 (h.resolve_right (by decide)), fun h => c10 (h.resolve_right (by decide))⟩ _ rfl
      apply RelH.op2
      · intro L f u K hN hS hK
        simp only [puts, Act.put, List.setIfInBounds_toArray, List.set_cons_zero, List.set_cons_succ, upd, Nat.reduceEqDiff, ↓reduceIte, if_true, if_false] at hK ⊢
        have HS9 := Lib.hid hS
        obtain ⟨qX, qT, qT1, c0, c1, c2, c3, c4, c5, c6, c7, c8, c9, c10⟩ := hS
        have e3 := c3 (hN.out.2 3 (by decide +kernel))
        have X_0 := qX.cells 0 _ rfl
        have X_1 := qX.cells 1 _ rfl
        have X_2 := qX.cells 2 _ rfl
        have X_3 := qX.cells 3 _ rfl
        clear qT qT1 c0 c1 c2 c3 c4 c5 c6 c7 c8 c9 c10
        go_simp
        obtain ⟨qX, qT, qT1, c0, c1, c2, c3, c4, c5, c6, c7, c8, c9, c10⟩ := HS9.out
        exact hK.out _ _ ⟨qX, fun z9 => qT (fun z => z9 (.inl z)), fun z8 => qT1 (z8.resolve_right (by decide)), fun h => c0 (h.resolve_right (by decide)), fun h => c1 (h.resolve_right (by decide)), fun h => c2 (h.resolve_right (by decide)), fun h => c3 (h.resolve_right (by decide)), fun _ => rfl, fun h => c5 (h.resolve_right (by decide)), fun h => c6 (h.resolve_right (by decide)), fun h => c7 (h.resolve_right (by decide)), fun h => c8 (h.resolve_right (by decide)), fun h => c9 (h.resolve_right (by decide)), fun h => c10 (h.resolve_right (by decide))⟩ _ (by simp only [e3] <;> rfl)
      apply RelH.op2
      · intro L f u K hN hS hK
        simp only [puts, Act.put, List.setIfInBounds_toArray, List.set_cons_zero, List.set_cons_succ, upd, Nat.reduceEqDiff, ↓reduceIte, if_true, if_false] at hK ⊢
        have HS9 := Lib.hid hS
        obtain ⟨qX, qT, qT1, c0, c1, c2, c3, c4, c5, c6, c7, c8, c9, c10⟩ := hS
        clear qT qT1 c0 c1 c2 c3 c4 c5 c6 c7 c8 c9 c10
        go_simp
        obtain ⟨qX, qT, qT1, c0, c1, c2, c3, c4, c5, c6, c7, c8, c9, c10⟩ := HS9.out
        exact hK.out _ _ ⟨qX, fun z9 => qT (fun z => z9 (.inl z)), fun z8 => qT1 (z8.resolve_right (by decide)), fun h => c0 (h.resolve_right (by decide)), fun h => c1 (h.resolve_right (by decide)), fun h => c2 (h.resolve_right (by decide)), fun h => c3 (h.resolve_right (by decide)), fun h => c4 (h.resolve_right (by decide)), fun _ => rfl, fun h => c6 (h.resolve_right (by decide)), fun h => c7 (h.resolve_right (by decide)), fun h => c8 (h.resolve_right (by decide)), fun h => c9 (h.resolve_right (by decide)), fun h => c10 (h.resolve_right (by decide))⟩ _ rfl
      apply RelH.op2
      · intro L f u K hN hS hK
        simp only [puts, Act.put, List.setIfInBounds_toArray, List.set_cons_zero, List.set_cons_succ, upd, Nat.reduceEqDiff, ↓reduceIte, if_true, if_false] at hK ⊢
        have HS9 := Lib.hid hS
        obtain ⟨qX, qT, qT1, c0, c1, c2, c3, c4, c5, c6, c7, c8, c9, c10⟩ := hS
        have e5 := c5 (hN.out.2 5 (by decide +kernel))
        have HCON := Lib.hid (tons7_d (qT (hN.out.1 6 (by decide +kernel))) (by omega))
        clear qT qT1 c0 c1 c2 c3 c4 c5 c6 c7 c8 c9 c10
        go_simp
        go_at_call 26
        refine HCON.out.mono ?_
        rintro e uw1 ⟨m, rfl, hL9, G⟩
        go_wp2_with fail
        obtain ⟨qX, qT, qT1, c0, c1, c2, c3, c4, c5, c6, c7, c8, c9, c10⟩ := HS9.out
        exact hK.out _ _ ⟨qX.went G (by omega), fun z9 => (z9 (by simp)).elim, fun _ => hL9, fun h => c0 (h.resolve_right (by decide)), fun h => c1 (h.resolve_right (by decide)), fun h => c2 (h.resolve_right (by decide)), fun h => c3 (h.resolve_right (by decide)), fun h => c4 (h.resolve_right (by decide)), fun h => c5 (h.resolve_right (by decide)), fun _ => ⟨m, rfl⟩, fun h => c7 (h.resolve_right (by decide)), fun h => c8 (h.resolve_right (by decide)), fun h => c9 (h.resolve_right (by decide)), fun h => c10 (h.resolve_right (by decide))⟩ _ (by simp only [e5] <;> rfl)
      apply RelH.op2
      · intro L f u K hN hS hK
        simp only [puts, Act.put, List.setIfInBounds_toArray, List.set_cons_zero, List.set_cons_succ, upd, Nat.reduceEqDiff, ↓reduceIte, if_true, if_false] at hK ⊢
        have HS9 := Lib.hid hS
        obtain ⟨qX, qT, qT1, c0, c1, c2, c3, c4, c5, c6, c7, c8, c9, c10⟩ := hS
        have e0 := c0 (hN.out.2 0 (by decide +kernel))
        clear qT qT1 c0 c1 c2 c3 c4 c5 c6 c7 c8 c9 c10
        go_simp
        obtain ⟨qX, qT, qT1, c0, c1, c2, c3, c4, c5, c6, c7, c8, c9, c10⟩ := HS9.out
        exact hK.out _ _ ⟨qX, fun z9 => qT (fun z => z9 (.inl z)), fun z8 => qT1 (z8.resolve_right (by decide)), fun h => c0 (h.resolve_right (by decide)), fun h => c1 (h.resolve_right (by decide)), fun h => c2 (h.resolve_right (by decide)), fun h => c3 (h.resolve_right (by decide)), fun h => c4 (h.resolve_right (by decide)), fun h => c5 (h.resolve_right (by decide)), fun h => c6 (h.resolve_right (by decide)), fun _ => rfl, fun h => c8 (h.resolve_right (by decide)), fun h => c9 (h.resolve_right (by decide)), fun h => c10 (h.resolve_right (by decide))⟩ _ (by simp only [e0] <;> rfl)
      apply RelH.op2
      · intro L f u K hN hS hK
        simp only [puts, Act.put, List.setIfInBounds_toArray, List.set_cons_zero, List.set_cons_succ, upd, Nat.reduceEqDiff, ↓reduceIte, if_true, if_false] at hK ⊢
        have HS9 := Lib.hid hS
        obtain ⟨qX, qT, qT1, c0, c1, c2, c3, c4, c5, c6, c7, c8, c9, c10⟩ := hS
        have e2 := c2 (hN.out.2 2 (by decide +kernel))
        clear qT qT1 c0 c1 c2 c3 c4 c5 c6 c7 c8 c9 c10
        go_simp
        obtain ⟨qX, qT, qT1, c0, c1, c2, c3, c4, c5, c6, c7, c8, c9, c10⟩ := HS9.out
        exact hK.out _ _ ⟨qX, fun z9 => qT (fun z => z9 (.inl z)), fun z8 => qT1 (z8.resolve_right (by decide)), fun h => c0 (h.resolve_right (by decide)), fun h => c1 (h.resolve_right (by decide)), fun h => c2 (h.resolve_right (by decide)), fun h => c3 (h.resolve_right (by decide)), fun h => c4 (h.resolve_right (by decide)), fun h => c5 (h.resolve_right (by decide)), fun h => c6 (h.resolve_right (by decide)), fun h => c7 (h.resolve_right (by decide)), fun _ => rfl, fun h => c9 (h.resolve_right (by decide)), fun h => c10 (h.resolve_right (by decide))⟩ _ (by simp only [e2] <;> rfl)
      apply RelH.op2
      · intro L f u K hN hS hK
        simp only [puts, Act.put, List.setIfInBounds_toArray, List.set_cons_zero, List.set_cons_succ, upd, Nat.reduceEqDiff, ↓reduceIte, if_true, if_false] at hK ⊢
        have HS9 := Lib.hid hS
        obtain ⟨qX, qT, qT1, c0, c1, c2, c3, c4, c5, c6, c7, c8, c9, c10⟩ := hS
        have e4 := c4 (hN.out.2 4 (by decide +kernel))
        clear qT qT1 c0 c1 c2 c3 c4 c5 c6 c7 c8 c9 c10
        go_simp
        obtain ⟨qX, qT, qT1, c0, c1, c2, c3, c4, c5, c6, c7, c8, c9, c10⟩ := HS9.out
        exact hK.out _ _ ⟨qX, fun z9 => qT (fun z => z9 (.inl z)), fun z8 => qT1 (z8.resolve_right (by decide)), fun h => c0 (h.resolve_right (by decide)), fun h => c1 (h.resolve_right (by decide)), fun h => c2 (h.resolve_right (by decide)), fun h => c3 (h.resolve_right (by decide)), fun h => c4 (h.resolve_right (by decide)), fun h => c5 (h.resolve_right (by decide)), fun h => c6 (h.resolve_right (by decide)), fun h => c7 (h.resolve_right (by decide)), fun h => c8 (h.resolve_right (by decide)), fun _ => rfl, fun h => c10 (h.resolve_right (by decide))⟩ _ (by simp only [e4] <;> rfl)
      apply RelH.op2
      · intro L f u K hN hS hK
        simp only [puts, Act.put, List.setIfInBounds_toArray, List.set_cons_zero, List.set_cons_succ, upd, Nat.reduceEqDiff, ↓reduceIte, if_true, if_false] at hK ⊢
        have HS9 := Lib.hid hS
        obtain ⟨qX, qT, qT1, c0, c1, c2, c3, c4, c5, c6, c7, c8, c9, c10⟩ := hS
        obtain ⟨m, e6⟩ := c6 (hN.out.2 6 (by decide +kernel))
        clear qT qT1 c0 c1 c2 c3 c4 c5 c6 c7 c8 c9 c10
        go_simp
        obtain ⟨qX, qT, qT1, c0, c1, c2, c3, c4, c5, c6, c7, c8, c9, c10⟩ := HS9.out
        exact hK.out _ _ ⟨qX, fun z9 => qT (fun z => z9 (.inl z)), fun z8 => qT1 (z8.resolve_right (by decide)), fun h => c0 (h.resolve_right (by decide)), fun h => c1 (h.resolve_right (by decide)), fun h => c2 (h.resolve_right (by decide)), fun h => c3 (h.resolve_right (by decide)), fun h => c4 (h.resolve_right (by decide)), fun h => c5 (h.resolve_right (by decide)), fun h => c6 (h.resolve_right (by decide)), fun h => c7 (h.resolve_right (by decide)), fun h => c8 (h.resolve_right (by decide)), fun h => c9 (h.resolve_right (by decide)), fun _ => ⟨m, rfl⟩⟩ _ (by simp only [e6] <;> rfl)
      exact RelH.done
    intro L f V9 hL hS
    simp only [puts, Act.put, List.setIfInBounds_toArray, List.set_cons_zero, List.set_cons_succ]
    obtain ⟨qX, qT, qT1, c0, c1, c2, c3, c4, c5, c6, c7, c8, c9, c10⟩ := hS
    have T9 := qT1 (hL 6 (by decide))
    have e7 := c7 (hL 7 (by decide))
    have e8 := c8 (hL 8 (by decide))
    have e9 := c9 (hL 9 (by decide))
    obtain ⟨m, e10⟩ := c10 (hL 10 (by decide))
    simp only [e7, e8, e9, e10]
    clear e7 e8 e9 e10
    clear c0 c1 c2 c3 c4 c5 c6 c7 c8 c9 c10 hL qT qT1 qX
    have HT9 := Lib.hid T9; clear T9
    go_wp2
    exact bodyPost_ret (v := .tuple #[.slice (some ⟨g, 0, none⟩) l.length c, .int .i64 x9.f0, .int .i64 x9.f1, .int .i64 m]) (by simp [results, Tryd.results5, go_sem]) rfl ⟨l, g, c, x9.f0, x9.f1, m, hl, rfl, HT9.out.hs (by omega), below_of (grown_trans HGW.out HT9.out.GW) (by omega)⟩
  · go_wp2_with fail
    refine (heapId_d HL.out (by omega) hl).mono ?_
    rintro e V ⟨r, rfl, hL⟩
    replace HL := Lib.hid hL; clear hL
    go_wp2_with fail
    refine (grade7_d HL.out (by omega)).mono ?_
    rintro e V ⟨s, rfl, hL, _⟩
    replace HL := Lib.hid hL; clear hL
    go_wp2_with fail
    refine (tons7_d HL.out (by omega)).mono ?_
    rintro e V ⟨t, rfl, hL, _⟩
    replace HL := Lib.hid hL; clear hL
    go_wp2
    exact bodyPost_ret (v := .tuple #[.slice (some ⟨g, 0, none⟩) l.length c, .int .i64 r, .int .i64 s, .int .i64 t]) (by simp [results, Tryd.results5, go_sem]) rfl ⟨l, g, c, r, s, t, hl, rfl, HL.out.hs (by omega), below_of (grown_trans HGW.out HL.out.GW) (by omega)⟩
set_option maxHeartbeats 8000000 in
theorem drawTake (A : Option Addr) (cap : Nat) (zs : List Int) (w : World) (h : Draw.Src w A zs) : Calls Tryd.prog 15 #[.slice A zs.length cap] w (D2 w) := by
  have C0 := cu_at h cap (p := w.heap.size) rfl
  have G0 : w.grownBy (w.alloc (.cells #[.slice A zs.length cap, .int .i64 0, .int .u64 0] 49)) (some w.heap.size) := grown_alloc w _ _
  have S0 : (w.alloc (.cells #[.slice A zs.length cap, .int .i64 0, .int .u64 0] 49)).heap.size = w.heap.size + 1 := size_alloc' _ _
  have H0 := Lib.hid (And.intro C0 (And.intro G0 S0)); clear C0 G0 S0 h
  go_enter Tryd.func15, Tryd.ntmps15
  go_wp2_with fail
  obtain ⟨C0, GW, sv⟩ := H0.out
  clear H0
  generalize w.alloc (.cells #[.slice A zs.length cap, .int .i64 0, .int .u64 0] 49) = v at C0 GW sv ⊢
  obtain ⟨p, hpp⟩ : ∃ p, w.heap.size = p := ⟨_, rfl⟩
  rw [hpp] at C0 GW sv ⊢
  obtain ⟨B, hBB, C⟩ : ∃ B, B = p ∧ Cu B zs p 0 v := ⟨_, rfl, C0⟩
  clear C0
  have hp : p < v.heap.size := by omega
  have HGW := Lib.hid GW; clear GW
  refine (DHeaps.heaps_d B zs p 0 v C (by omega) hp).mono ?_
  rintro e V1 ⟨g, c, l, hl, rfl, hL⟩
  have HL := Lib.hid hL; clear hL C
  have hp2 := HL.out.GW.size
  have hp3 := own_ge HL.out.O g rfl
  by_cases hz : l.length = 0
  · have d1 : decide ((0 : Int) < l.length) = false := decide_eq_false (by omega)
    have d2 : decide (0 < l.length) = false := decide_eq_false (by omega)
    have HZ := Lib.hid hz; clear hz
    go_wp2_with fail
    refine (heapId_d HL.out (by omega) hl).mono ?_
    rintro e V ⟨r, rfl, hL⟩
    replace HL := Lib.hid hL; clear hL
    have hLs := lst_at V [.int .i64 1, .int .i64 500, .int .i64 6001] 3 (g := V.heap.size) rfl
    have ha := HL.out.alloc (.cells #[.int .i64 1, .int .i64 500, .int .i64 6001] 3)
    have HA := Lib.hid (And.intro ha hLs)
    have hvp := HL.out.GW.size
    clear ha hLs
    go_wp2_with fail
    refine (among_d B zs p _ _ V.heap.size 3 [1, 500, 6001] HA.out.1.C (by omega) HA.out.2 (by omega) (by simp) (by simp)).mono ?_
    rintro e V5 ⟨s, hs5, rfl, C3, G3⟩
    replace HL := Lib.hid (HA.out.1.went C3 G3)
    clear C3 G3 hs5 HA
    go_wp2
    exact bodyPost_ret (v := .tuple #[.slice (some ⟨g, 0, none⟩) l.length c, .int .i64 r, .int .i64 s]) (by simp [results, Tryd.results15, go_sem]) rfl ⟨l, g, c, r, s, hl, rfl, HL.out.hs (by omega), below_of (grown_trans HGW.out HL.out.GW) (by omega)⟩
  have d1 : decide ((0 : Int) < l.length) = true := decide_eq_true (by omega)
  have d2 : decide (0 < l.length) = true := decide_eq_true (by omega)
  go_wp2_with fail
  refine (HL.out.one (by omega) 6 (by omega) (by omega)).mono ?_
  rintro e V2 ⟨q, rfl, hp1⟩
  replace HL := Lib.hid hp1; clear hp1
  have hp4 := HL.out.GW.size
  cases q
  · go_wp2_with fail
    refine (HL.out.pick (by omega) l.length (by omega) (by omega)).mono ?_
    rintro e V3 ⟨x, hx, rfl, hp1⟩
    replace HL := Lib.hid hp1; clear hp1
    obtain ⟨k, rfl⟩ : ∃ k : Nat, x = k := ⟨x.toNat, by omega⟩
    have hk : k < l.length := by omega
    have hki : (k : Int) < l.length := by omega
    obtain ⟨x9, hx9⟩ : ∃ x, l[k] = x := ⟨_, rfl⟩
    have hmem : x9 ∈ l := by rw [← hx9]; exact List.getElem_mem hk
    have k0 : V3.cell? ⟨g, k * 4, none⟩ = some (.int .i64 x9.f0) := by rw [HL.out.O.cellAt _ (by omega), ← hx9]; exact flat_0 l k hk
    have k1 : V3.cell? ⟨g, k * 4 + 1, none⟩ = some (.int .i64 x9.f1) := by rw [HL.out.O.cellAt _ (by omega), ← hx9]; exact flat_1 l k hk
    have k2 : V3.cell? ⟨g, k * 4 + 2, none⟩ = some (.slice x9.f2.A x9.f2.ls.length x9.f2.cap) := by rw [HL.out.O.cellAt _ (by omega), ← hx9]; exact flat_2 l k hk
    have k3 : V3.cell? ⟨g, k * 4 + 3, none⟩ = some (.bool x9.f3) := by rw [HL.out.O.cellAt _ (by omega), ← hx9]; exact flat_3 l k hk
    have HX9 := Lib.hid hx9; clear hx9
    go_wp2_with fail
    clear k0 k1 k2 k3
    have X : Cb V3.heap.size [.int .i64 x9.f0, .int .i64 x9.f1, .slice x9.f2.A x9.f2.ls.length x9.f2.cap, .bool x9.f3] (V3.alloc (.cells #[.int .i64 x9.f0, .int .i64 x9.f1, .slice x9.f2.A x9.f2.ls.length x9.f2.cap, .bool x9.f3] 41)) := Cb.new _ _ _ rfl
    have T := HL.out.alloc (.cells #[.int .i64 x9.f0, .int .i64 x9.f1, .slice x9.f2.A x9.f2.ls.length x9.f2.cap, .bool x9.f3] 41)
    have hgx : p < V3.heap.size := by have := HL.out.GW.size; omega
    obtain ⟨W3, hW3⟩ : ∃ W, V3.alloc (.cells #[.int .i64 x9.f0, .int .i64 x9.f1, .slice x9.f2.A x9.f2.ls.length x9.f2.cap, .bool x9.f3] 41) = W := ⟨_, rfl⟩
    rw [hW3] at X T ⊢
    obtain ⟨gx, hgx2⟩ : ∃ g, V3.heap.size = g := ⟨_, rfl⟩
    rw [hgx2] at X hgx ⊢
    clear hW3 HL
    obtain ⟨K0, hK0, hK1⟩ : ∃ K0 : Nat, K0 ≤ 600000000 ∧ 0 + 2000 + 2 + 2 = K0 := ⟨_, by omega, rfl⟩
    rw [hK1] at T
    clear hK1
    refine wp_region_rel [29, 30, 31, 32, 33, 34, 35, 36, 37, 38, 39, 2, 3, 4] (fun L f w' => (Cb gx [.int .i64 x9.f0, .int .i64 x9.f1, .slice x9.f2.A x9.f2.ls.length x9.f2.cap, .bool x9.f3] w') ∧ (¬ L 10 → Lt B zs p K0 v (some ⟨g, 0, none⟩) c l w') ∧ (L 10 → Lt B zs p (K0 + 4) v (some ⟨g, 0, none⟩) c l w') ∧ (L 0 → f 29 = .slice (some ⟨g, 0, none⟩) l.length c) ∧ (L 1 → f 30 = .pointer (some ⟨gx, 0, none⟩)) ∧ (L 2 → f 31 = .int .i64 x9.f0) ∧ (L 3 → f 32 = .pointer (some ⟨p, 0, none⟩)) ∧ (L 4 → f 33 = .agg #[.int .i64 x9.f0, .int .i64 x9.f1, .slice x9.f2.A x9.f2.ls.length x9.f2.cap, .bool x9.f3]) ∧ (L 5 → ∃ m, f 34 = .int .i64 m) ∧ (L 6 → f 35 = .agg #[.int .i64 x9.f0, .int .i64 x9.f1, .slice x9.f2.A x9.f2.ls.length x9.f2.cap, .bool x9.f3]) ∧ (L 7 → ∃ m, f 36 = .int .i64 m) ∧ (L 8 → ∃ m, f 37 = .int .i64 m) ∧ (L 9 → ¬ L 10 → ∃ gl m1 m2, f 38 = .slice (some ⟨gl, 0, none⟩) 6 6 ∧ gl ≠ p ∧ Lst w' gl (([1, 2, 60, m1, m2, 0] : List Int).map (Value.int .i64))) ∧ (L 10 → ∃ m, f 39 = .int .i64 m) ∧ (L 11 → f 2 = .slice (some ⟨g, 0, none⟩) l.length c) ∧ (L 12 → f 3 = .int .i64 x9.f0) ∧ (L 13 → ∃ m, f 4 = .int .i64 m)) (by kernel_rfl) (by kernel_rfl) (by kernel_rfl) (fun f => ⟨X.more (Below.refl _ _).drew, fun _ => lt_more T (Below.refl _ _).drew, fun h => h.elim, fun h => h.elim, fun h => h.elim, fun h => h.elim, fun h => h.elim, fun h => h.elim, fun h => h.elim, fun h => h.elim, fun h => h.elim, fun h => h.elim, fun h => h.elim, fun h => h.elim, fun h => h.elim, fun h => h.elim, fun h => h.elim⟩) ?_ ?_
    · apply RelH.op2
      · intro L f u K hN hS hK
        simp only [puts, Act.put, List.setIfInBounds_toArray, List.set_cons_zero, List.set_cons_succ, upd, Nat.reduceEqDiff, ↓reduceIte, if_true, if_false] at hK ⊢
        have HS9 := Lib.hid hS
        obtain ⟨qX, qT, qT1, c0, c1, c2, c3, c4, c5, c6, c7, c8, c9, c10, c11, c12, c13⟩ := hS
        clear qT qT1 c0 c1 c2 c3 c4 c5 c6 c7 c8 c9 c10 c11 c12 c13
        go_simp
        obtain ⟨qX, qT, qT1, c0, c1, c2, c3, c4, c5, c6, c7, c8, c9, c10, c11, c12, c13⟩ := HS9.out
        exact hK.out _ _ ⟨qX, fun z9 => qT (fun z => z9 (.inl z)), fun z8 => qT1 (z8.resolve_right (by decide)), fun _ => rfl, fun h => c1 (h.resolve_right (by decide)), fun h => c2 (h.resolve_right (by decide)), fun h => c3 (h.resolve_right (by decide)), fun h => c4 (h.resolve_right (by decide)), fun h => c5 (h.resolve_right (by decide)), fun h => c6 (h.resolve_right (by decide)), fun h => c7 (h.resolve_right (by decide)), fun h => c8 (h.resolve_right (by decide)), fun h t0 => c9 (h.resolve_right (by decide)) (fun z => t0 (.inl z)), fun h => c10 (h.resolve_right (by decide)), fun h => c11 (h.resolve_right (by decide)), fun h => c12 (h.resolve_right (by decide)), fun h => c13 (h.resolve_right (by decide))⟩ _ rfl
      apply RelH.op2
      · intro L f u K hN hS hK
        simp only [puts, Act.put, List.setIfInBounds_toArray, List.set_cons_zero, List.set_cons_succ, upd, Nat.reduceEqDiff, ↓reduceIte, if_true, if_false] at hK ⊢
        have HS9 := Lib.hid hS
        obtain ⟨qX, qT, qT1, c0, c1, c2, c3, c4, c5, c6, c7, c8, c9, c10, c11, c12, c13⟩ := hS
        clear qT qT1 c0 c1 c2 c3 c4 c5 c6 c7 c8 c9 c10 c11 c12 c13
        go_simp
        obtain ⟨qX, qT, qT1, c0, c1, c2, c3, c4, c5, c6, c7, c8, c9, c10, c11, c12, c13⟩ := HS9.out
        exact hK.out _ _ ⟨qX, fun z9 => qT (fun z => z9 (.inl z)), fun z8 => qT1 (z8.resolve_right (by decide)), fun h => c0 (h.resolve_right (by decide)), fun _ => rfl, fun h => c2 (h.resolve_right (by decide)), fun h => c3 (h.resolve_right (by decide)), fun h => c4 (h.resolve_right (by decide)), fun h => c5 (h.resolve_right (by decide)), fun h => c6 (h.resolve_right (by decide)), fun h => c7 (h.resolve_right (by decide)), fun h => c8 (h.resolve_right (by decide)), fun h t0 => c9 (h.resolve_right (by decide)) (fun z => t0 (.inl z)), fun h => c10 (h.resolve_right (by decide)), fun h => c11 (h.resolve_right (by decide)), fun h => c12 (h.resolve_right (by decide)), fun h => c13 (h.resolve_right (by decide))⟩ _ rfl
      apply RelH.op2
      · intro L f u K hN hS hK
        simp only [puts, Act.put, List.setIfInBounds_toArray, List.set_cons_zero, List.set_cons_succ, upd, Nat.reduceEqDiff, ↓reduceIte, if_true, if_false] at hK ⊢
        have HS9 := Lib.hid hS
        obtain ⟨qX, qT, qT1, c0, c1, c2, c3, c4, c5, c6, c7, c8, c9, c10, c11, c12, c13⟩ := hS
        have e1 := c1 (hN.out.2 1 (by decide +kernel))
        have X_0 := qX.cells 0 _ rfl
        have X_1 := qX.cells 1 _ rfl
        have X_2 := qX.cells 2 _ rfl
        have X_3 := qX.cells 3 _ rfl
        clear qT qT1 c0 c1 c2 c3 c4 c5 c6 c7 c8 c9 c10 c11 c12 c13
        go_simp
        obtain ⟨qX, qT, qT1, c0, c1, c2, c3, c4, c5, c6, c7, c8, c9, c10, c11, c12, c13⟩ := HS9.out
        exact hK.out _ _ ⟨qX, fun z9 => qT (fun z => z9 (.inl z)), fun z8 => qT1 (z8.resolve_right (by decide)), fun h => c0 (h.resolve_right (by decide)), fun h => c1 (h.resolve_right (by decide)), fun _ => rfl, fun h => c3 (h.resolve_right (by decide)), fun h => c4 (h.resolve_right (by decide)), fun h => c5 (h.resolve_right (by decide)), fun h => c6 (h.resolve_right (by decide)), fun h => c7 (h.resolve_right (by decide)), fun h => c8 (h.resolve_right (by decide)), fun h t0 => c9 (h.resolve_right (by decide)) (fun z => t0 (.inl z)), fun h => c10 (h.resolve_right (by decide)), fun h => c11 (h.resolve_right (by decide)), fun h => c12 (h.resolve_right (by decide)), fun h => c13 (h.resolve_right (by decide))⟩ _ (by simp only [e1] <;> rfl)
      apply RelH.op2
      · intro L f u K hN hS hK
        simp only [puts, Act.put, List.setIfInBounds_toArray, List.set_cons_zero, List.set_cons_succ, upd, Nat.reduceEqDiff, ↓reduceIte, if_true, if_false] at hK ⊢
        have HS9 := Lib.hid hS
        obtain ⟨qX, qT, qT1, c0, c1, c2, c3, c4, c5, c6, c7, c8, c9, c10, c11, c12, c13⟩ := hS
        clear qT qT1 c0 c1 c2 c3 c4 c5 c6 c7 c8 c9 c10 c11 c12 c13
        go_simp
        obtain ⟨qX, qT, qT1, c0, c1, c2, c3, c4, c5, c6, c7, c8, c9, c10, c11, c12, c13⟩ := HS9.out
        exact hK.out _ _ ⟨qX, fun z9 => qT (fun z => z9 (.inl z)), fun z8 => qT1 (z8.resolve_right (by decide)), fun h => c0 (h.resolve_right (by decide)), fun h => c1 (h.resolve_right (by decide)), fun h => c2 (h.resolve_right (by decide)), fun _ => rfl, fun h => c4 (h.resolve_right (by decide)), fun h => c5 (h.resolve_right (by decide)), fun h => c6 (h.resolve_right (by decide)), fun h => c7 (h.resolve_right (by decide)), fun h => c8 (h.resolve_right (by decide)), fun h t0 => c9 (h.resolve_right (by decide)) (fun z => t0 (.inl z)), fun h => c10 (h.resolve_right (by decide)), fun h => c11 (h.resolve_right (by decide)), fun h => c12 (h.resolve_right (by decide)), fun h => c13 (h.resolve_right (by decide))⟩ _ rfl
      apply RelH.op2
      · intro L f u K hN hS hK
        simp only [puts, Act.put, List.setIfInBounds_toArray, List.set_cons_zero, List.set_cons_succ, upd, Nat.reduceEqDiff, ↓reduceIte, if_true, if_false] at hK ⊢
        have HS9 := Lib.hid hS
        obtain ⟨qX, qT, qT1, c0, c1, c2, c3, c4, c5, c6, c7, c8, c9, c10, c11, c12, c13⟩ := hS
        have X_0 := qX.cells 0 _ rfl
        have X_1 := qX.cells 1 _ rfl
        have X_2 := qX.cells 2 _ rfl
        have X_3 := qX.cells 3 _ rfl
        clear qT qT1 c0 c1 c2 c3 c4 c5 c6 c7 c8 c9 c10 c11 c12 c13
        go_simp
        obtain ⟨qX, qT, qT1, c0, c1, c2, c3, c4, c5, c6, c7, c8, c9, c10, c11, c12, c13⟩ := HS9.out
        exact hK.out _ _ ⟨qX, fun z9 => qT (fun z => z9 (.inl z)), fun z8 => qT1 (z8.resolve_right (by decide)), fun h => c0 (h.resolve_right (by decide)), fun h => c1 (h.resolve_right (by decide)), fun h => c2 (h.resolve_right (by decide)), fun h => c3 (h.resolve_right (by decide)), fun _ => rfl, fun h => c5 (h.resolve_right (by decide)), fun h => c6 (h.resolve_right (by decide)), fun h => c7 (h.resolve_right (by decide)), fun h => c8 (h.resolve_right (by decide)), fun h t0 => c9 (h.resolve_right (by decide)) (fun z => t0 (.inl z)), fun h => c10 (h.resolve_right (by decide)), fun h => c11 (h.resolve_right (by decide)), fun h => c12 (h.resolve_right (by decide)), fun h => c13 (h.resolve_right (by decide))⟩ _ rfl
      apply RelH.op2
      · intro L f u K hN hS hK
        simp only [puts, Act.put, List.setIfInBounds_toArray, List.set_cons_zero, List.set_cons_succ, upd, Nat.reduceEqDiff, ↓reduceIte, if_true, if_false] at hK ⊢
        have HS9 := Lib.hid hS
        obtain ⟨qX, qT, qT1, c0, c1, c2, c3, c4, c5, c6, c7, c8, c9, c10, c11, c12, c13⟩ := hS
        have e4 := c4 (hN.out.2 4 (by decide +kernel))
        have HCON := Lib.hid (tons_some x9 u ((qT (hN.out.1 10 (by decide +kernel))).rows x9 hmem).1.rd (by have := ((qT (hN.out.1 10 (by decide +kernel))).rows x9 hmem).2; omega))
        clear qT qT1 c0 c1 c2 c3 c4 c5 c6 c7 c8 c9 c10 c11 c12 c13
        go_simp
        go_at_call 46
        refine HCON.out.mono ?_
        rintro e uw1 ⟨m, rfl, hv⟩
        go_wp2_with fail
        obtain ⟨qX, qT, qT1, c0, c1, c2, c3, c4, c5, c6, c7, c8, c9, c10, c11, c12, c13⟩ := HS9.out
        exact hK.out _ _ ⟨qX.more hv, fun z9 => lt_more (qT (fun z => z9 (.inl z))) hv, fun z8 => lt_more (qT1 (z8.resolve_right (by decide))) hv, fun h => c0 (h.resolve_right (by decide)), fun h => c1 (h.resolve_right (by decide)), fun h => c2 (h.resolve_right (by decide)), fun h => c3 (h.resolve_right (by decide)), fun h => c4 (h.resolve_right (by decide)), fun _ => ⟨m, rfl⟩, fun h => c6 (h.resolve_right (by decide)), fun h => c7 (h.resolve_right (by decide)), fun h => c8 (h.resolve_right (by decide)), fun h t0 => (let ⟨gl, n1, n2, h1, h2, T⟩ := (c9 (h.resolve_right (by decide)) (fun z => t0 (.inl z))); ⟨gl, n1, n2, h1, h2, lst_more T hv⟩), fun h => c10 (h.resolve_right (by decide)), fun h => c11 (h.resolve_right (by decide)), fun h => c12 (h.resolve_right (by decide)), fun h => c13 (h.resolve_right (by decide))⟩ _ (by simp only [e4] <;> rfl)
      apply RelH.op2
      · intro L f u K hN hS hK
        simp only [puts, Act.put, List.setIfInBounds_toArray, List.set_cons_zero, List.set_cons_succ, upd, Nat.reduceEqDiff, ↓reduceIte, if_true, if_false] at hK ⊢
        have HS9 := Lib.hid hS
        obtain ⟨qX, qT, qT1, c0, c1, c2, c3, c4, c5, c6, c7, c8, c9, c10, c11, c12, c13⟩ := hS
        have X_0 := qX.cells 0 _ rfl
        have X_1 := qX.cells 1 _ rfl
        have X_2 := qX.cells 2 _ rfl
        have X_3 := qX.cells 3 _ rfl
        clear qT qT1 c0 c1 c2 c3 c4 c5 c6 c7 c8 c9 c10 c11 c12 c13
        go_simp
        obtain ⟨qX, qT, qT1, c0, c1, c2, c3, c4, c5, c6, c7, c8, c9, c10, c11, c12, c13⟩ := HS9.out
        exact hK.out _ _ ⟨qX, fun z9 => qT (fun z => z9 (.inl z)), fun z8 => qT1 (z8.resolve_right (by decide)), fun h => c0 (h.resolve_right (by decide)), fun h => c1 (h.resolve_right (by decide)), fun h => c2 (h.resolve_right (by decide)), fun h => c3 (h.resolve_right (by decide)), fun h => c4 (h.resolve_right (by decide)), fun h => c5 (h.resolve_right (by decide)), fun _ => rfl, fun h => c7 (h.resolve_right (by decide)), fun h => c8 (h.resolve_right (by decide)), fun h t0 => c9 (h.resolve_right (by decide)) (fun z => t0 (.inl z)), fun h => c10 (h.resolve_right (by decide)), fun h => c11 (h.resolve_right (by decide)), fun h => c12 (h.resolve_right (by decide)), fun h => c13 (h.resolve_right (by decide))⟩ _ rfl
      apply RelH.op2
      · intro L f u K hN hS hK
        simp only [puts, Act.put, List.setIfInBounds_toArray, List.set_cons_zero, List.set_cons_succ, upd, Nat.reduceEqDiff, ↓reduceIte, if_true, if_false] at hK ⊢
        have HS9 := Lib.hid hS
        obtain ⟨qX, qT, qT1, c0, c1, c2, c3, c4, c5, c6, c7, c8, c9, c10, c11, c12, c13⟩ := hS
        have e6 := c6 (hN.out.2 6 (by decide +kernel))
        have HCON := Lib.hid (tons_some x9 u ((qT (hN.out.1 10 (by decide +kernel))).rows x9 hmem).1.rd (by have := ((qT (hN.out.1 10 (by decide +kernel))).rows x9 hmem).2; omega))
        clear qT qT1 c0 c1 c2 c3 c4 c5 c6 c7 c8 c9 c10 c11 c12 c13
        go_simp
        go_at_call 46
        refine HCON.out.mono ?_
        rintro e uw1 ⟨m, rfl, hv⟩
        go_wp2_with fail
        obtain ⟨qX, qT, qT1, c0, c1, c2, c3, c4, c5, c6, c7, c8, c9, c10, c11, c12, c13⟩ := HS9.out
        exact hK.out _ _ ⟨qX.more hv, fun z9 => lt_more (qT (fun z => z9 (.inl z))) hv, fun z8 => lt_more (qT1 (z8.resolve_right (by decide))) hv, fun h => c0 (h.resolve_right (by decide)), fun h => c1 (h.resolve_right (by decide)), fun h => c2 (h.resolve_right (by decide)), fun h => c3 (h.resolve_right (by decide)), fun h => c4 (h.resolve_right (by decide)), fun h => c5 (h.resolve_right (by decide)), fun h => c6 (h.resolve_right (by decide)), fun _ => ⟨m, rfl⟩, fun h => c8 (h.resolve_right (by decide)), fun h t0 => (let ⟨gl, n1, n2, h1, h2, T⟩ := (c9 (h.resolve_right (by decide)) (fun z => t0 (.inl z))); ⟨gl, n1, n2, h1, h2, lst_more T hv⟩), fun h => c10 (h.resolve_right (by decide)), fun h => c11 (h.resolve_right (by decide)), fun h => c12 (h.resolve_right (by decide)), fun h => c13 (h.resolve_right (by decide))⟩ _ (by simp only [e6] <;> rfl)
      apply RelH.op2
      · intro L f u K hN hS hK
        simp only [puts, Act.put, List.setIfInBounds_toArray, List.set_cons_zero, List.set_cons_succ, upd, Nat.reduceEqDiff, ↓reduceIte, if_true, if_false] at hK ⊢
        have HS9 := Lib.hid hS
        obtain ⟨qX, qT, qT1, c0, c1, c2, c3, c4, c5, c6, c7, c8, c9, c10, c11, c12, c13⟩ := hS
        obtain ⟨m, e7⟩ := c7 (hN.out.2 7 (by decide +kernel))
        clear qT qT1 c0 c1 c2 c3 c4 c5 c6 c7 c8 c9 c10 c11 c12 c13
        go_simp
        obtain ⟨qX, qT, qT1, c0, c1, c2, c3, c4, c5, c6, c7, c8, c9, c10, c11, c12, c13⟩ := HS9.out
        exact hK.out _ _ ⟨qX, fun z9 => qT (fun z => z9 (.inl z)), fun z8 => qT1 (z8.resolve_right (by decide)), fun h => c0 (h.resolve_right (by decide)), fun h => c1 (h.resolve_right (by decide)), fun h => c2 (h.resolve_right (by decide)), fun h => c3 (h.resolve_right (by decide)), fun h => c4 (h.resolve_right (by decide)), fun h => c5 (h.resolve_right (by decide)), fun h => c6 (h.resolve_right (by decide)), fun h => c7 (h.resolve_right (by decide)), fun _ => ⟨_, rfl⟩, fun h t0 => c9 (h.resolve_right (by decide)) (fun z => t0 (.inl z)), fun h => c10 (h.resolve_right (by decide)), fun h => c11 (h.resolve_right (by decide)), fun h => c12 (h.resolve_right (by decide)), fun h => c13 (h.resolve_right (by decide))⟩ _ (by simp only [e7] <;> rfl)
      apply RelH.op2
      · intro L f u K hN hS hK
        simp only [puts, Act.put, List.setIfInBounds_toArray, List.set_cons_zero, List.set_cons_succ, upd, Nat.reduceEqDiff, ↓reduceIte, if_true, if_false] at hK ⊢
        have HS9 := Lib.hid hS
        obtain ⟨qX, qT, qT1, c0, c1, c2, c3, c4, c5, c6, c7, c8, c9, c10, c11, c12, c13⟩ := hS
        obtain ⟨m1, e5⟩ := c5 (hN.out.2 5 (by decide +kernel))
        obtain ⟨m2, e8⟩ := c8 (hN.out.2 8 (by decide +kernel))
        have hT := lst_at u [Value.int .i64 1, Value.int .i64 2, Value.int .i64 60, Value.int .i64 m1, Value.int .i64 m2, Value.int .i64 0] 3 (g := u.heap.size) rfl
        have hpu : p < u.heap.size := by have := qX.there; omega
        clear qT qT1 c0 c1 c2 c3 c4 c5 c6 c7 c8 c9 c10 c11 c12 c13
        go_simp
        obtain ⟨qX, qT, qT1, c0, c1, c2, c3, c4, c5, c6, c7, c8, c9, c10, c11, c12, c13⟩ := HS9.out
        exact hK.out _ _ ⟨qX.alloc _, fun z9 => (qT (fun z => z9 (.inl z))).alloc _, fun z8 => (qT1 (z8.resolve_right (by decide))).alloc _, fun h => c0 (h.resolve_right (by decide)), fun h => c1 (h.resolve_right (by decide)), fun h => c2 (h.resolve_right (by decide)), fun h => c3 (h.resolve_right (by decide)), fun h => c4 (h.resolve_right (by decide)), fun h => c5 (h.resolve_right (by decide)), fun h => c6 (h.resolve_right (by decide)), fun h => c7 (h.resolve_right (by decide)), fun h => c8 (h.resolve_right (by decide)), fun _ _ => ⟨_, m1, m2, rfl, by omega, hT⟩, fun h => c10 (h.resolve_right (by decide)), fun h => c11 (h.resolve_right (by decide)), fun h => c12 (h.resolve_right (by decide)), fun h => c13 (h.resolve_right (by decide))⟩ _ (by simp only [e5, e8] <;> rfl)
      apply RelH.op2
      · intro L f u K hN hS hK
        simp only [puts, Act.put, List.setIfInBounds_toArray, List.set_cons_zero, List.set_cons_succ, upd, Nat.reduceEqDiff, ↓reduceIte, if_true, if_false] at hK ⊢
        have HS9 := Lib.hid hS
        obtain ⟨qX, qT, qT1, c0, c1, c2, c3, c4, c5, c6, c7, c8, c9, c10, c11, c12, c13⟩ := hS
        have e3 := c3 (hN.out.2 3 (by decide +kernel))
        obtain ⟨gl, m1, m2, e9, h9, T⟩ := c9 (hN.out.2 9 (by decide +kernel)) (hN.out.1 10 (by decide +kernel))
        have hT0 := qT (hN.out.1 10 (by decide +kernel))
        have HCON := Lib.hid (among_d B zs p K0 u gl 6 [1, 2, 60, m1, m2, 0] (qT (hN.out.1 10 (by decide +kernel))).C (by omega) T h9 (by simp) (by simp))
        clear qT qT1 c0 c1 c2 c3 c4 c5 c6 c7 c8 c9 c10 c11 c12 c13
        go_simp
        go_at_call 45
        refine HCON.out.mono ?_
        rintro e uw1 ⟨m, hm, rfl, C9, G⟩
        go_wp2_with fail
        obtain ⟨qX, qT, qT1, c0, c1, c2, c3, c4, c5, c6, c7, c8, c9, c10, c11, c12, c13⟩ := HS9.out
        exact hK.out _ _ ⟨qX.went G (by omega), fun z9 => (z9 (by simp)).elim, fun _ => (hT0.went C9 G).le (by omega), fun h => c0 (h.resolve_right (by decide)), fun h => c1 (h.resolve_right (by decide)), fun h => c2 (h.resolve_right (by decide)), fun h => c3 (h.resolve_right (by decide)), fun h => c4 (h.resolve_right (by decide)), fun h => c5 (h.resolve_right (by decide)), fun h => c6 (h.resolve_right (by decide)), fun h => c7 (h.resolve_right (by decide)), fun h => c8 (h.resolve_right (by decide)), fun h t0 => (t0 (by simp)).elim, fun _ => ⟨m, rfl⟩, fun h => c11 (h.resolve_right (by decide)), fun h => c12 (h.resolve_right (by decide)), fun h => c13 (h.resolve_right (by decide))⟩ _ (by simp only [e3, e9] <;> rfl)
      apply RelH.op2
      · intro L f u K hN hS hK
        simp only [puts, Act.put, List.setIfInBounds_toArray, List.set_cons_zero, List.set_cons_succ, upd, Nat.reduceEqDiff, ↓reduceIte, if_true, if_false] at hK ⊢
        have HS9 := Lib.hid hS
        obtain ⟨qX, qT, qT1, c0, c1, c2, c3, c4, c5, c6, c7, c8, c9, c10, c11, c12, c13⟩ := hS
        have e0 := c0 (hN.out.2 0 (by decide +kernel))
        clear qT qT1 c0 c1 c2 c3 c4 c5 c6 c7 c8 c9 c10 c11 c12 c13
        go_simp
        obtain ⟨qX, qT, qT1, c0, c1, c2, c3, c4, c5, c6, c7, c8, c9, c10, c11, c12, c13⟩ := HS9.out
        exact hK.out _ _ ⟨qX, fun z9 => qT (fun z => z9 (.inl z)), fun z8 => qT1 (z8.resolve_right (by decide)), fun h => c0 (h.resolve_right (by decide)), fun h => c1 (h.resolve_right (by decide)), fun h => c2 (h.resolve_right (by decide)), fun h => c3 (h.resolve_right (by decide)), fun h => c4 (h.resolve_right (by decide)), fun h => c5 (h.resolve_right (by decide)), fun h => c6 (h.resolve_right (by decide)), fun h => c7 (h.resolve_right (by decide)), fun h => c8 (h.resolve_right (by decide)), fun h t0 => c9 (h.resolve_right (by decide)) (fun z => t0 (.inl z)), fun h => c10 (h.resolve_right (by decide)), fun _ => rfl, fun h => c12 (h.resolve_right (by decide)), fun h => c13 (h.resolve_right (by decide))⟩ _ (by simp only [e0] <;> rfl)
      apply RelH.op2
      · intro L f u K hN hS hK
        simp only [puts, Act.put, List.setIfInBounds_toArray, List.set_cons_zero, List.set_cons_succ, upd, Nat.reduceEqDiff, ↓reduceIte, if_true, if_false] at hK ⊢
        have HS9 := Lib.hid hS
        obtain ⟨qX, qT, qT1, c0, c1, c2, c3, c4, c5, c6, c7, c8, c9, c10, c11, c12, c13⟩ := hS
        have e2 := c2 (hN.out.2 2 (by decide +kernel))
        clear qT qT1 c0 c1 c2 c3 c4 c5 c6 c7 c8 c9 c10 c11 c12 c13
        go_simp
        obtain ⟨qX, qT, qT1, c0, c1, c2, c3, c4, c5, c6, c7, c8, c9, c10, c11, c12, c13⟩ := HS9.out
        exact hK.out _ _ ⟨qX, fun z9 => qT (fun z => z9 (.inl z)), fun z8 => qT1 (z8.resolve_right (by decide)), fun h => c0 (h.resolve_right (by decide)), fun h => c1 (h.resolve_right (by decide)), fun h => c2 (h.resolve_right (by decide)), fun h => c3 (h.resolve_right (by decide)), fun h => c4 (h.resolve_right (by decide)), fun h => c5 (h.resolve_right (by decide)), fun h => c6 (h.resolve_right (by decide)), fun h => c7 (h.resolve_right (by decide)), fun h => c8 (h.resolve_right (by decide)), fun h t0 => c9 (h.resolve_right (by decide)) (fun z => t0 (.inl z)), fun h => c10 (h.resolve_right (by decide)), fun h => c11 (h.resolve_right (by decide)), fun _ => rfl, fun h => c13 (h.resolve_right (by decide))⟩ _ (by simp only [e2] <;> rfl)
      apply RelH.op2
      · intro L f u K hN hS hK
        simp only [puts, Act.put, List.setIfInBounds_toArray, List.set_cons_zero, List.set_cons_succ, upd, Nat.reduceEqDiff, ↓reduceIte, if_true, if_false] at hK ⊢
        have HS9 := Lib.hid hS
        obtain ⟨qX, qT, qT1, c0, c1, c2, c3, c4, c5, c6, c7, c8, c9, c10, c11, c12, c13⟩ := hS
        obtain ⟨m, e10⟩ := c10 (hN.out.2 10 (by decide +kernel))
        clear qT qT1 c0 c1 c2 c3 c4 c5 c6 c7 c8 c9 c10 c11 c12 c13
        go_simp
        obtain ⟨qX, qT, qT1, c0, c1, c2, c3, c4, c5, c6, c7, c8, c9, c10, c11, c12, c13⟩ := HS9.out
        exact hK.out _ _ ⟨qX, fun z9 => qT (fun z => z9 (.inl z)), fun z8 => qT1 (z8.resolve_right (by decide)), fun h => c0 (h.resolve_right (by decide)), fun h => c1 (h.resolve_right (by decide)), fun h => c2 (h.resolve_right (by decide)), fun h => c3 (h.resolve_right (by decide)), fun h => c4 (h.resolve_right (by decide)), fun h => c5 (h.resolve_right (by decide)), fun h => c6 (h.resolve_right (by decide)), fun h => c7 (h.resolve_right (by decide)), fun h => c8 (h.resolve_right (by decide)), fun h t0 => c9 (h.resolve_right (by decide)) (fun z => t0 (.inl z)), fun h => c10 (h.resolve_right (by decide)), fun h => c11 (h.resolve_right (by decide)), fun h => c12 (h.resolve_right (by decide)), fun _ => ⟨m, rfl⟩⟩ _ (by simp only [e10] <;> rfl)
      exact RelH.done
    intro L f V9 hL hS
    simp only [puts, Act.put, List.setIfInBounds_toArray, List.set_cons_zero, List.set_cons_succ]
    obtain ⟨qX, qT, qT1, c0, c1, c2, c3, c4, c5, c6, c7, c8, c9, c10, c11, c12, c13⟩ := hS
    have T9 := qT1 (hL 10 (by decide))
    have e11 := c11 (hL 11 (by decide))
    have e12 := c12 (hL 12 (by decide))
    obtain ⟨m, e13⟩ := c13 (hL 13 (by decide))
    simp only [e11, e12, e13]
    clear e11 e12 e13
    clear c0 c1 c2 c3 c4 c5 c6 c7 c8 c9 c10 c11 c12 c13 hL qT qT1 qX
    have HT9 := Lib.hid T9; clear T9
    go_wp2
    exact bodyPost_ret (v := .tuple #[.slice (some ⟨g, 0, none⟩) l.length c, .int .i64 x9.f0, .int .i64 m]) (by simp [results, Tryd.results15, go_sem]) rfl ⟨l, g, c, x9.f0, m, hl, rfl, HT9.out.hs (by omega), below_of (grown_trans HGW.out HT9.out.GW) (by omega)⟩
  · go_wp2_with fail
    refine (heapId_d HL.out (by omega) hl).mono ?_
    rintro e V ⟨r, rfl, hL⟩
    replace HL := Lib.hid hL; clear hL
    have hLs := lst_at V [.int .i64 1, .int .i64 500, .int .i64 6001] 3 (g := V.heap.size) rfl
    have ha := HL.out.alloc (.cells #[.int .i64 1, .int .i64 500, .int .i64 6001] 3)
    have HA := Lib.hid (And.intro ha hLs)
    have hvp := HL.out.GW.size
    clear ha hLs
    go_wp2_with fail
    refine (among_d B zs p _ _ V.heap.size 3 [1, 500, 6001] HA.out.1.C (by omega) HA.out.2 (by omega) (by simp) (by simp)).mono ?_
    rintro e V5 ⟨s, hs5, rfl, C3, G3⟩
    replace HL := Lib.hid (HA.out.1.went C3 G3)
    clear C3 G3 hs5 HA
    go_wp2
    exact bodyPost_ret (v := .tuple #[.slice (some ⟨g, 0, none⟩) l.length c, .int .i64 r, .int .i64 s]) (by simp [results, Tryd.results15, go_sem]) rfl ⟨l, g, c, r, s, hl, rfl, HL.out.hs (by omega), below_of (grown_trans HGW.out HL.out.GW) (by omega)⟩
end Go.Proofs.YtokgncbcknpfiaaDoor.DHeaps4
