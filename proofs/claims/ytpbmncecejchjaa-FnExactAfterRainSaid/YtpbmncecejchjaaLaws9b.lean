/- The law on AfterRain, walked. -/
import Derived.Test.YtpbmncecejchjaaLaws9a
import Derived.Test.YtpbmncecejchjaaRegn3
namespace Go.Proofs.Ytpbmncecejchjaa.Laws9b
open Go.RowKit Go.Proofs.Ytpbmncecejchjaa.Mem Go.Proofs.Ytpbmncecejchjaa.Base Go.Proofs.Ytpbmncecejchjaa.SShower Go.Proofs.Ytpbmncecejchjaa.Regn Go.Proofs.Ytpbmncecejchjaa.Boxes Go.Proofs.Ytpbmncecejchjaa.Keep Go.Proofs.Ytpbmncecejchjaa.Shw
set_option linter.unusedVariables false
set_option maxRecDepth 100000
abbrev Yes := Laws9a.Yes
set_option maxHeartbeats 8000000 in
theorem after_law (P : Option Addr) (cap : Nat) (l : List SShower.R) (p q a f0 t : Int) (w : World) (hr : Rd w w.heap.size P (SShower.flat l)) (hn : l.length ≤ maxLen) :
    Calls Try.prog 7 #[.slice P l.length cap, .agg #[.int .i64 p, .int .i64 q], .int .i64 a, .int .i64 f0, .int .i64 t] w (Yes w) := by
  have HN := Lib.hid hn
  unfold maxLen at hn
  by_cases hbig : 1048576 < l.length
  · have HS := Lib.hid (show SShower.szV 1048576 l.length = -1 by unfold SShower.szV; rw [if_pos (by omega)])
    go_enter Try.func7, Try.ntmps7
    go_wp2_with fail
    have B := Box.new (Below.refl _ w) [.int .i64 p, .int .i64 q] 61 (g := w.heap.size) rfl
    generalize (w.alloc (.cells #[.int .i64 p, .int .i64 q] 61)) = W1 at B ⊢
    have B_0 := B.cells 0 _ rfl
    have B_1 := B.cells 1 _ rfl
    have B_f0 := B.free 0 (by simp)
    have B_f1 := B.free 1 (by simp)
    have B_t := B.there
    go_wp2_with fail
    refine (SShower.szS_any P cap l.length 1048576 _ (by omega) (by omega) HN.out).mono ?_
    rintro e _ ⟨rfl, rfl⟩
    rw [HS.out]
    go_wp2
    go_ret
    exact ⟨rfl, B.below⟩
  · have HS := Lib.hid (show SShower.szV 1048576 l.length = 1048576 - l.length by unfold SShower.szV; rw [if_neg (by omega)])
    obtain ⟨x, y, z, hv⟩ := ShwM.aft_form l p q a f0 t
    have HV := Lib.hid hv; clear hv
    go_enter Try.func7, Try.ntmps7
    go_wp2_with fail
    have B := Box.new (Below.refl _ w) [.int .i64 p, .int .i64 q] 61 (g := w.heap.size) rfl
    generalize (w.alloc (.cells #[.int .i64 p, .int .i64 q] 61)) = W1 at B ⊢
    have B_0 := B.cells 0 _ rfl
    have B_1 := B.cells 1 _ rfl
    have B_f0 := B.free 0 (by simp)
    have B_f1 := B.free 1 (by simp)
    have B_t := B.there
    go_wp2_with fail
    refine (SShower.szS_any P cap l.length 1048576 _ (by omega) (by omega) HN.out).mono ?_
    rintro e _ ⟨rfl, rfl⟩
    rw [HS.out]
    go_wp2
    clear B_0 B_1 B_f0 B_f1 B_t
    refine wp_region_rel [23, 24, 25, 26, 27, 28, 29, 30, 22, 31, 32, 12, 13] (fun L f w' => (Box (w.heap.size) [.int .i64 p, .int .i64 q] w w') ∧ (L 0 → f 23 = .slice P l.length cap) ∧ (L 1 → ¬ L 12 → ∃ g, f 24 = .slice (some ⟨g, 0, none⟩) l.length l.length ∧ w'.ownsRow w.heap.size 54 2 (.slice (some ⟨g, 0, none⟩) l.length l.length) l.length (flat l)) ∧ (L 2 → f 25 = .agg #[.int .i64 p, .int .i64 q]) ∧ (L 3 → f 26 = .agg #[.int .i64 p, .int .i64 q]) ∧ (L 4 → f 27 = .int .i64 a) ∧ (L 5 → f 28 = .int .i64 f0) ∧ (L 6 → f 29 = .int .i64 t) ∧ (L 7 → f 30 = .tuple #[.agg #[.int .i64 x, .int .i64 y], .bool z]) ∧ (L 8 → f 22 = .tuple #[.agg #[.int .i64 x, .int .i64 y], .bool z]) ∧ (L 9 → f 31 = .agg #[.int .i64 x, .int .i64 y]) ∧ (L 10 → f 32 = .bool z) ∧ (L 11 → ¬ L 12 → ∃ g, f 12 = .pointer (some ⟨g, 0, none⟩) ∧ g ≠ w.heap.size ∧ Box g [.int .i64 0, .int .i64 0] w w') ∧ (L 12 → ∃ g, f 12 = .pointer (some ⟨g, 0, none⟩) ∧ Box g [.int .i64 x, .int .i64 y] w w') ∧ (L 13 → f 13 = .bool z)) (by kernel_rfl) (by kernel_rfl) (by kernel_rfl) (fun f => ⟨B.drew, fun h => h.elim, fun h => h.elim, fun h => h.elim, fun h => h.elim, fun h => h.elim, fun h => h.elim, fun h => h.elim, fun h => h.elim, fun h => h.elim, fun h => h.elim, fun h => h.elim, fun h => h.elim, fun h => h.elim, fun h => h.elim⟩) ?_ ?_
    · apply RelH.op2
      · intro L f u K hN hS hK
        simp only [puts, Act.put, List.setIfInBounds_toArray, List.set_cons_zero, List.set_cons_succ, upd, Nat.reduceEqDiff, ↓reduceIte, if_true, if_false] at hK ⊢
        have HS9 := Lib.hid hS
        obtain ⟨qB, c0, c1, c2, c3, c4, c5, c6, c7, c8, c9, c10, c11, c12, c13⟩ := hS
        clear c0 c1 c2 c3 c4 c5 c6 c7 c8 c9 c10 c11 c12 c13
        go_simp
        obtain ⟨qB, c0, c1, c2, c3, c4, c5, c6, c7, c8, c9, c10, c11, c12, c13⟩ := HS9.out
        exact hK.out _ _ ⟨qB, fun _ => rfl, fun h t0 => c1 (h.resolve_right (by decide)) (fun z => t0 (.inl z)), fun h => c2 (h.resolve_right (by decide)), fun h => c3 (h.resolve_right (by decide)), fun h => c4 (h.resolve_right (by decide)), fun h => c5 (h.resolve_right (by decide)), fun h => c6 (h.resolve_right (by decide)), fun h => c7 (h.resolve_right (by decide)), fun h => c8 (h.resolve_right (by decide)), fun h => c9 (h.resolve_right (by decide)), fun h => c10 (h.resolve_right (by decide)), fun h t0 => c11 (h.resolve_right (by decide)) (fun z => t0 (.inl z)), fun h => c12 (h.resolve_right (by decide)), fun h => c13 (h.resolve_right (by decide))⟩ _ rfl
      apply RelH.op2
      · intro L f u K hN hS hK
        simp only [puts, Act.put, List.setIfInBounds_toArray, List.set_cons_zero, List.set_cons_succ, upd, Nat.reduceEqDiff, ↓reduceIte, if_true, if_false] at hK ⊢
        have HS9 := Lib.hid hS
        obtain ⟨qB, c0, c1, c2, c3, c4, c5, c6, c7, c8, c9, c10, c11, c12, c13⟩ := hS
        have e0 := c0 (hN.out.2 0 (by decide +kernel))
        have HCON := Lib.hid (SShower.toS_any P cap l u (rd_keep hr qB.below) (by omega))
        clear c0 c1 c2 c3 c4 c5 c6 c7 c8 c9 c10 c11 c12 c13
        go_simp
        go_at_call 43
        (with_reducible refine HCON.out.mono ?_)
        rintro e uw1 ⟨rfl, ho, hv⟩
        go_wp2_with fail
        obtain ⟨qB, c0, c1, c2, c3, c4, c5, c6, c7, c8, c9, c10, c11, c12, c13⟩ := HS9.out
        exact hK.out _ _ ⟨qB.more hv, fun h => c0 (h.resolve_right (by decide)), fun _ _ => ⟨_, rfl, own_base ho qB.below.size⟩, fun h => c2 (h.resolve_right (by decide)), fun h => c3 (h.resolve_right (by decide)), fun h => c4 (h.resolve_right (by decide)), fun h => c5 (h.resolve_right (by decide)), fun h => c6 (h.resolve_right (by decide)), fun h => c7 (h.resolve_right (by decide)), fun h => c8 (h.resolve_right (by decide)), fun h => c9 (h.resolve_right (by decide)), fun h => c10 (h.resolve_right (by decide)), fun h t0 => (let ⟨g, e, n, X⟩ := (c11 (h.resolve_right (by decide)) (fun z => t0 (.inl z))); ⟨g, e, n, X.more hv⟩), fun h => (let ⟨g, e, X⟩ := (c12 (h.resolve_right (by decide))); ⟨g, e, X.more hv⟩), fun h => c13 (h.resolve_right (by decide))⟩ _ (by simp only [e0])
      apply RelH.op2
      · intro L f u K hN hS hK
        simp only [puts, Act.put, List.setIfInBounds_toArray, List.set_cons_zero, List.set_cons_succ, upd, Nat.reduceEqDiff, ↓reduceIte, if_true, if_false] at hK ⊢
        have HS9 := Lib.hid hS
        obtain ⟨qB, c0, c1, c2, c3, c4, c5, c6, c7, c8, c9, c10, c11, c12, c13⟩ := hS
        have qB_0 := qB.cells 0 _ rfl
        have qB_1 := qB.cells 1 _ rfl
        clear c0 c1 c2 c3 c4 c5 c6 c7 c8 c9 c10 c11 c12 c13
        go_simp
        obtain ⟨qB, c0, c1, c2, c3, c4, c5, c6, c7, c8, c9, c10, c11, c12, c13⟩ := HS9.out
        exact hK.out _ _ ⟨qB, fun h => c0 (h.resolve_right (by decide)), fun h t0 => c1 (h.resolve_right (by decide)) (fun z => t0 (.inl z)), fun _ => rfl, fun h => c3 (h.resolve_right (by decide)), fun h => c4 (h.resolve_right (by decide)), fun h => c5 (h.resolve_right (by decide)), fun h => c6 (h.resolve_right (by decide)), fun h => c7 (h.resolve_right (by decide)), fun h => c8 (h.resolve_right (by decide)), fun h => c9 (h.resolve_right (by decide)), fun h => c10 (h.resolve_right (by decide)), fun h t0 => c11 (h.resolve_right (by decide)) (fun z => t0 (.inl z)), fun h => c12 (h.resolve_right (by decide)), fun h => c13 (h.resolve_right (by decide))⟩ _ rfl
      apply RelH.op2
      · intro L f u K hN hS hK
        simp only [puts, Act.put, List.setIfInBounds_toArray, List.set_cons_zero, List.set_cons_succ, upd, Nat.reduceEqDiff, ↓reduceIte, if_true, if_false] at hK ⊢
        have HS9 := Lib.hid hS
        obtain ⟨qB, c0, c1, c2, c3, c4, c5, c6, c7, c8, c9, c10, c11, c12, c13⟩ := hS
        have e2 := c2 (hN.out.2 2 (by decide +kernel))
        have HCON := Lib.hid (SBrine.to_any ⟨p, q⟩ u)
        clear c0 c1 c2 c3 c4 c5 c6 c7 c8 c9 c10 c11 c12 c13
        go_simp
        go_at_call 45
        (with_reducible refine HCON.out.mono ?_)
        rintro e uw1 ⟨rfl, hv⟩
        unfold SBrine.R.val
        go_wp2_with fail
        obtain ⟨qB, c0, c1, c2, c3, c4, c5, c6, c7, c8, c9, c10, c11, c12, c13⟩ := HS9.out
        exact hK.out _ _ ⟨qB.more hv, fun h => c0 (h.resolve_right (by decide)), fun h t0 => (let ⟨g, e, O⟩ := (c1 (h.resolve_right (by decide)) (fun z => t0 (.inl z))); ⟨g, e, own_keep O hv⟩), fun h => c2 (h.resolve_right (by decide)), fun _ => rfl, fun h => c4 (h.resolve_right (by decide)), fun h => c5 (h.resolve_right (by decide)), fun h => c6 (h.resolve_right (by decide)), fun h => c7 (h.resolve_right (by decide)), fun h => c8 (h.resolve_right (by decide)), fun h => c9 (h.resolve_right (by decide)), fun h => c10 (h.resolve_right (by decide)), fun h t0 => (let ⟨g, e, n, X⟩ := (c11 (h.resolve_right (by decide)) (fun z => t0 (.inl z))); ⟨g, e, n, X.more hv⟩), fun h => (let ⟨g, e, X⟩ := (c12 (h.resolve_right (by decide))); ⟨g, e, X.more hv⟩), fun h => c13 (h.resolve_right (by decide))⟩ _ (by simp only [e2])
      apply RelH.op2
      · intro L f u K hN hS hK
        simp only [puts, Act.put, List.setIfInBounds_toArray, List.set_cons_zero, List.set_cons_succ, upd, Nat.reduceEqDiff, ↓reduceIte, if_true, if_false] at hK ⊢
        have HS9 := Lib.hid hS
        obtain ⟨qB, c0, c1, c2, c3, c4, c5, c6, c7, c8, c9, c10, c11, c12, c13⟩ := hS
        clear c0 c1 c2 c3 c4 c5 c6 c7 c8 c9 c10 c11 c12 c13
        go_simp
        obtain ⟨qB, c0, c1, c2, c3, c4, c5, c6, c7, c8, c9, c10, c11, c12, c13⟩ := HS9.out
        exact hK.out _ _ ⟨qB, fun h => c0 (h.resolve_right (by decide)), fun h t0 => c1 (h.resolve_right (by decide)) (fun z => t0 (.inl z)), fun h => c2 (h.resolve_right (by decide)), fun h => c3 (h.resolve_right (by decide)), fun _ => rfl, fun h => c5 (h.resolve_right (by decide)), fun h => c6 (h.resolve_right (by decide)), fun h => c7 (h.resolve_right (by decide)), fun h => c8 (h.resolve_right (by decide)), fun h => c9 (h.resolve_right (by decide)), fun h => c10 (h.resolve_right (by decide)), fun h t0 => c11 (h.resolve_right (by decide)) (fun z => t0 (.inl z)), fun h => c12 (h.resolve_right (by decide)), fun h => c13 (h.resolve_right (by decide))⟩ _ rfl
      apply RelH.op2
      · intro L f u K hN hS hK
        simp only [puts, Act.put, List.setIfInBounds_toArray, List.set_cons_zero, List.set_cons_succ, upd, Nat.reduceEqDiff, ↓reduceIte, if_true, if_false] at hK ⊢
        have HS9 := Lib.hid hS
        obtain ⟨qB, c0, c1, c2, c3, c4, c5, c6, c7, c8, c9, c10, c11, c12, c13⟩ := hS
        clear c0 c1 c2 c3 c4 c5 c6 c7 c8 c9 c10 c11 c12 c13
        go_simp
        obtain ⟨qB, c0, c1, c2, c3, c4, c5, c6, c7, c8, c9, c10, c11, c12, c13⟩ := HS9.out
        exact hK.out _ _ ⟨qB, fun h => c0 (h.resolve_right (by decide)), fun h t0 => c1 (h.resolve_right (by decide)) (fun z => t0 (.inl z)), fun h => c2 (h.resolve_right (by decide)), fun h => c3 (h.resolve_right (by decide)), fun h => c4 (h.resolve_right (by decide)), fun _ => rfl, fun h => c6 (h.resolve_right (by decide)), fun h => c7 (h.resolve_right (by decide)), fun h => c8 (h.resolve_right (by decide)), fun h => c9 (h.resolve_right (by decide)), fun h => c10 (h.resolve_right (by decide)), fun h t0 => c11 (h.resolve_right (by decide)) (fun z => t0 (.inl z)), fun h => c12 (h.resolve_right (by decide)), fun h => c13 (h.resolve_right (by decide))⟩ _ rfl
      apply RelH.op2
      · intro L f u K hN hS hK
        simp only [puts, Act.put, List.setIfInBounds_toArray, List.set_cons_zero, List.set_cons_succ, upd, Nat.reduceEqDiff, ↓reduceIte, if_true, if_false] at hK ⊢
        have HS9 := Lib.hid hS
        obtain ⟨qB, c0, c1, c2, c3, c4, c5, c6, c7, c8, c9, c10, c11, c12, c13⟩ := hS
        clear c0 c1 c2 c3 c4 c5 c6 c7 c8 c9 c10 c11 c12 c13
        go_simp
        obtain ⟨qB, c0, c1, c2, c3, c4, c5, c6, c7, c8, c9, c10, c11, c12, c13⟩ := HS9.out
        exact hK.out _ _ ⟨qB, fun h => c0 (h.resolve_right (by decide)), fun h t0 => c1 (h.resolve_right (by decide)) (fun z => t0 (.inl z)), fun h => c2 (h.resolve_right (by decide)), fun h => c3 (h.resolve_right (by decide)), fun h => c4 (h.resolve_right (by decide)), fun h => c5 (h.resolve_right (by decide)), fun _ => rfl, fun h => c7 (h.resolve_right (by decide)), fun h => c8 (h.resolve_right (by decide)), fun h => c9 (h.resolve_right (by decide)), fun h => c10 (h.resolve_right (by decide)), fun h t0 => c11 (h.resolve_right (by decide)) (fun z => t0 (.inl z)), fun h => c12 (h.resolve_right (by decide)), fun h => c13 (h.resolve_right (by decide))⟩ _ rfl
      apply RelH.op2
      · intro L f u K hN hS hK
        simp only [puts, Act.put, List.setIfInBounds_toArray, List.set_cons_zero, List.set_cons_succ, upd, Nat.reduceEqDiff, ↓reduceIte, if_true, if_false] at hK ⊢
        have HS9 := Lib.hid hS
        obtain ⟨qB, c0, c1, c2, c3, c4, c5, c6, c7, c8, c9, c10, c11, c12, c13⟩ := hS
        obtain ⟨g, e1, O⟩ := c1 (hN.out.2 1 (by decide +kernel)) (hN.out.1 12 (by decide +kernel))
        have e3 := c3 (hN.out.2 3 (by decide +kernel))
        have e4 := c4 (hN.out.2 4 (by decide +kernel))
        have e5 := c5 (hN.out.2 5 (by decide +kernel))
        have e6 := c6 (hN.out.2 6 (by decide +kernel))
        have HCON := Lib.hid (ShwM.aft_spec (some ⟨g, 0, none⟩) l.length l p q a f0 t u (Rd.of_own O) (by omega))
        clear c0 c1 c2 c3 c4 c5 c6 c7 c8 c9 c10 c11 c12 c13
        go_simp
        go_at_call 18
        (with_reducible refine HCON.out.mono ?_)
        rintro e uw1 ⟨rfl, hv⟩
        rw [HV.out]
        go_wp2_with fail
        obtain ⟨qB, c0, c1, c2, c3, c4, c5, c6, c7, c8, c9, c10, c11, c12, c13⟩ := HS9.out
        exact hK.out _ _ ⟨qB.more hv, fun h => c0 (h.resolve_right (by decide)), fun h t0 => (let ⟨g, e, O⟩ := (c1 (h.resolve_right (by decide)) (fun z => t0 (.inl z))); ⟨g, e, own_keep O hv⟩), fun h => c2 (h.resolve_right (by decide)), fun h => c3 (h.resolve_right (by decide)), fun h => c4 (h.resolve_right (by decide)), fun h => c5 (h.resolve_right (by decide)), fun h => c6 (h.resolve_right (by decide)), fun _ => rfl, fun h => c8 (h.resolve_right (by decide)), fun h => c9 (h.resolve_right (by decide)), fun h => c10 (h.resolve_right (by decide)), fun h t0 => (let ⟨g, e, n, X⟩ := (c11 (h.resolve_right (by decide)) (fun z => t0 (.inl z))); ⟨g, e, n, X.more hv⟩), fun h => (let ⟨g, e, X⟩ := (c12 (h.resolve_right (by decide))); ⟨g, e, X.more hv⟩), fun h => c13 (h.resolve_right (by decide))⟩ _ (by simp only [e1, e3, e4, e5, e6])
      apply RelH.op2
      · intro L f u K hN hS hK
        simp only [puts, Act.put, List.setIfInBounds_toArray, List.set_cons_zero, List.set_cons_succ, upd, Nat.reduceEqDiff, ↓reduceIte, if_true, if_false] at hK ⊢
        have HS9 := Lib.hid hS
        obtain ⟨qB, c0, c1, c2, c3, c4, c5, c6, c7, c8, c9, c10, c11, c12, c13⟩ := hS
        have e7 := c7 (hN.out.2 7 (by decide +kernel))
        clear c0 c1 c2 c3 c4 c5 c6 c7 c8 c9 c10 c11 c12 c13
        go_simp
        obtain ⟨qB, c0, c1, c2, c3, c4, c5, c6, c7, c8, c9, c10, c11, c12, c13⟩ := HS9.out
        exact hK.out _ _ ⟨qB, fun h => c0 (h.resolve_right (by decide)), fun h t0 => c1 (h.resolve_right (by decide)) (fun z => t0 (.inl z)), fun h => c2 (h.resolve_right (by decide)), fun h => c3 (h.resolve_right (by decide)), fun h => c4 (h.resolve_right (by decide)), fun h => c5 (h.resolve_right (by decide)), fun h => c6 (h.resolve_right (by decide)), fun h => c7 (h.resolve_right (by decide)), fun _ => rfl, fun h => c9 (h.resolve_right (by decide)), fun h => c10 (h.resolve_right (by decide)), fun h t0 => c11 (h.resolve_right (by decide)) (fun z => t0 (.inl z)), fun h => c12 (h.resolve_right (by decide)), fun h => c13 (h.resolve_right (by decide))⟩ _ (by simp only [e7])
      apply RelH.op2
      · intro L f u K hN hS hK
        simp only [puts, Act.put, List.setIfInBounds_toArray, List.set_cons_zero, List.set_cons_succ, upd, Nat.reduceEqDiff, ↓reduceIte, if_true, if_false] at hK ⊢
        have HS9 := Lib.hid hS
        obtain ⟨qB, c0, c1, c2, c3, c4, c5, c6, c7, c8, c9, c10, c11, c12, c13⟩ := hS
        have e8 := c8 (hN.out.2 8 (by decide +kernel))
        clear c0 c1 c2 c3 c4 c5 c6 c7 c8 c9 c10 c11 c12 c13
        go_simp
        obtain ⟨qB, c0, c1, c2, c3, c4, c5, c6, c7, c8, c9, c10, c11, c12, c13⟩ := HS9.out
        exact hK.out _ _ ⟨qB, fun h => c0 (h.resolve_right (by decide)), fun h t0 => c1 (h.resolve_right (by decide)) (fun z => t0 (.inl z)), fun h => c2 (h.resolve_right (by decide)), fun h => c3 (h.resolve_right (by decide)), fun h => c4 (h.resolve_right (by decide)), fun h => c5 (h.resolve_right (by decide)), fun h => c6 (h.resolve_right (by decide)), fun h => c7 (h.resolve_right (by decide)), fun h => c8 (h.resolve_right (by decide)), fun _ => rfl, fun h => c10 (h.resolve_right (by decide)), fun h t0 => c11 (h.resolve_right (by decide)) (fun z => t0 (.inl z)), fun h => c12 (h.resolve_right (by decide)), fun h => c13 (h.resolve_right (by decide))⟩ _ (by simp only [e8])
      apply RelH.op2
      · intro L f u K hN hS hK
        simp only [puts, Act.put, List.setIfInBounds_toArray, List.set_cons_zero, List.set_cons_succ, upd, Nat.reduceEqDiff, ↓reduceIte, if_true, if_false] at hK ⊢
        have HS9 := Lib.hid hS
        obtain ⟨qB, c0, c1, c2, c3, c4, c5, c6, c7, c8, c9, c10, c11, c12, c13⟩ := hS
        have e8 := c8 (hN.out.2 8 (by decide +kernel))
        clear c0 c1 c2 c3 c4 c5 c6 c7 c8 c9 c10 c11 c12 c13
        go_simp
        obtain ⟨qB, c0, c1, c2, c3, c4, c5, c6, c7, c8, c9, c10, c11, c12, c13⟩ := HS9.out
        exact hK.out _ _ ⟨qB, fun h => c0 (h.resolve_right (by decide)), fun h t0 => c1 (h.resolve_right (by decide)) (fun z => t0 (.inl z)), fun h => c2 (h.resolve_right (by decide)), fun h => c3 (h.resolve_right (by decide)), fun h => c4 (h.resolve_right (by decide)), fun h => c5 (h.resolve_right (by decide)), fun h => c6 (h.resolve_right (by decide)), fun h => c7 (h.resolve_right (by decide)), fun h => c8 (h.resolve_right (by decide)), fun h => c9 (h.resolve_right (by decide)), fun _ => rfl, fun h t0 => c11 (h.resolve_right (by decide)) (fun z => t0 (.inl z)), fun h => c12 (h.resolve_right (by decide)), fun h => c13 (h.resolve_right (by decide))⟩ _ (by simp only [e8])
      apply RelH.op2
      · intro L f u K hN hS hK
        simp only [puts, Act.put, List.setIfInBounds_toArray, List.set_cons_zero, List.set_cons_succ, upd, Nat.reduceEqDiff, ↓reduceIte, if_true, if_false] at hK ⊢
        have HS9 := Lib.hid hS
        obtain ⟨qB, c0, c1, c2, c3, c4, c5, c6, c7, c8, c9, c10, c11, c12, c13⟩ := hS
        have hv : Below u.heap.size u (u.alloc (.cells #[.int .i64 0, .int .i64 0] 26)) := al (Below.refl _ _)
        have hX := Box.new qB.below [.int .i64 0, .int .i64 0] 26 (g := u.heap.size) rfl
        have hne : u.heap.size ≠ w.heap.size := by have := qB.there; omega
        clear c0 c1 c2 c3 c4 c5 c6 c7 c8 c9 c10 c11 c12 c13
        go_simp
        obtain ⟨qB, c0, c1, c2, c3, c4, c5, c6, c7, c8, c9, c10, c11, c12, c13⟩ := HS9.out
        exact hK.out _ _ ⟨qB.more hv, fun h => c0 (h.resolve_right (by decide)), fun h t0 => (let ⟨g, e, O⟩ := (c1 (h.resolve_right (by decide)) (fun z => t0 (.inl z))); ⟨g, e, own_keep O hv⟩), fun h => c2 (h.resolve_right (by decide)), fun h => c3 (h.resolve_right (by decide)), fun h => c4 (h.resolve_right (by decide)), fun h => c5 (h.resolve_right (by decide)), fun h => c6 (h.resolve_right (by decide)), fun h => c7 (h.resolve_right (by decide)), fun h => c8 (h.resolve_right (by decide)), fun h => c9 (h.resolve_right (by decide)), fun h => c10 (h.resolve_right (by decide)), fun _ _ => ⟨_, rfl, hne, hX⟩, fun h => absurd (h.resolve_right (by decide)) (hN.out.1 12 (by decide +kernel)), fun h => c13 (h.resolve_right (by decide))⟩ _ rfl
      apply RelH.op2
      · intro L f u K hN hS hK
        simp only [puts, Act.put, List.setIfInBounds_toArray, List.set_cons_zero, List.set_cons_succ, upd, Nat.reduceEqDiff, ↓reduceIte, if_true, if_false] at hK ⊢
        have HS9 := Lib.hid hS
        obtain ⟨qB, c0, c1, c2, c3, c4, c5, c6, c7, c8, c9, c10, c11, c12, c13⟩ := hS
        obtain ⟨g, e11, hne, X⟩ := c11 (hN.out.2 11 (by decide +kernel)) (hN.out.1 12 (by decide +kernel))
        have e9 := c9 (hN.out.2 9 (by decide +kernel))
        have X_0 := X.cells 0 _ rfl
        have X_1 := X.cells 1 _ rfl
        have X_f0 := X.free 0 (by simp)
        have X_f1 := X.free 1 (by simp)
        clear c0 c1 c2 c3 c4 c5 c6 c7 c8 c9 c10 c11 c12 c13
        go_simp
        obtain ⟨qB, c0, c1, c2, c3, c4, c5, c6, c7, c8, c9, c10, c11, c12, c13⟩ := HS9.out
        exact hK.out undef _ ⟨(qB.far X.base hne 0 _).far X.base hne 1 _, fun h => c0 (h.resolve_right (by decide)), fun h t0 => (t0 (by simp)).elim, fun h => c2 (h.resolve_right (by decide)), fun h => c3 (h.resolve_right (by decide)), fun h => c4 (h.resolve_right (by decide)), fun h => c5 (h.resolve_right (by decide)), fun h => c6 (h.resolve_right (by decide)), fun h => c7 (h.resolve_right (by decide)), fun h => c8 (h.resolve_right (by decide)), fun h => c9 (h.resolve_right (by decide)), fun h => c10 (h.resolve_right (by decide)), fun h t0 => (t0 (by simp)).elim, fun _ => ⟨g, e11, (X.set 0 (.int .i64 x)).set 1 (.int .i64 y)⟩, fun h => c13 (h.resolve_right (by decide))⟩ _ (by simp only [e11, e9])
      apply RelH.op2
      · intro L f u K hN hS hK
        simp only [puts, Act.put, List.setIfInBounds_toArray, List.set_cons_zero, List.set_cons_succ, upd, Nat.reduceEqDiff, ↓reduceIte, if_true, if_false] at hK ⊢
        have HS9 := Lib.hid hS
        obtain ⟨qB, c0, c1, c2, c3, c4, c5, c6, c7, c8, c9, c10, c11, c12, c13⟩ := hS
        have e10 := c10 (hN.out.2 10 (by decide +kernel))
        clear c0 c1 c2 c3 c4 c5 c6 c7 c8 c9 c10 c11 c12 c13
        go_simp
        obtain ⟨qB, c0, c1, c2, c3, c4, c5, c6, c7, c8, c9, c10, c11, c12, c13⟩ := HS9.out
        exact hK.out _ _ ⟨qB, fun h => c0 (h.resolve_right (by decide)), fun h t0 => c1 (h.resolve_right (by decide)) (fun z => t0 (.inl z)), fun h => c2 (h.resolve_right (by decide)), fun h => c3 (h.resolve_right (by decide)), fun h => c4 (h.resolve_right (by decide)), fun h => c5 (h.resolve_right (by decide)), fun h => c6 (h.resolve_right (by decide)), fun h => c7 (h.resolve_right (by decide)), fun h => c8 (h.resolve_right (by decide)), fun h => c9 (h.resolve_right (by decide)), fun h => c10 (h.resolve_right (by decide)), fun h t0 => c11 (h.resolve_right (by decide)) (fun z => t0 (.inl z)), fun h => c12 (h.resolve_right (by decide)), fun _ => rfl⟩ _ (by simp only [e10])
      exact RelH.done
    intro L f V0 hL hS
    simp only [puts, Act.put, List.setIfInBounds_toArray, List.set_cons_zero, List.set_cons_succ]
    obtain ⟨qB, c0, c1, c2, c3, c4, c5, c6, c7, c8, c9, c10, c11, c12, c13⟩ := hS
    clear B
    have B := qB; clear qB
    obtain ⟨k, e12, X⟩ := c12 (hL 12 (by decide))
    have e0 := c0 (hL 0 (by decide)); have e2 := c2 (hL 2 (by decide)); have e3 := c3 (hL 3 (by decide)); have e4 := c4 (hL 4 (by decide)); have e5 := c5 (hL 5 (by decide)); have e6 := c6 (hL 6 (by decide)); have e7 := c7 (hL 7 (by decide)); have e8 := c8 (hL 8 (by decide)); have e9 := c9 (hL 9 (by decide)); have e10 := c10 (hL 10 (by decide)); have e13 := c13 (hL 13 (by decide))
    simp only [e0, e2, e3, e4, e5, e6, e7, e8, e9, e10, e12, e13]
    clear e0 e2 e3 e4 e5 e6 e7 e8 e9 e10 e12 e13 c0 c1 c2 c3 c4 c5 c6 c7 c8 c9 c10 c11 c12 c13 hL
    generalize f 24 = u24
    have B_0 := B.cells 0 _ rfl
    have B_1 := B.cells 1 _ rfl
    have B_f0 := B.free 0 (by simp)
    have B_f1 := B.free 1 (by simp)
    have B_t := B.there
    have X_0 := X.cells 0 _ rfl
    have X_1 := X.cells 1 _ rfl
    have X_f0 := X.free 0 (by simp)
    have X_f1 := X.free 1 (by simp)
    have X_t := X.there
    go_wp2_with fail
    go_wp2_with fail
    refine (SShower.toS_any P cap l _ (rd_keep hr B.below) (by omega)).mono ?_
    rintro e v3 ⟨rfl, ho, hv3⟩
    clear B_0 B_1 B_f0 B_f1 B_t
    clear X_0 X_1 X_f0 X_f1 X_t
    replace B := B.more hv3
    replace X := X.more hv3
    have zhv3 := hv3.size
    clear hv3
    have B_0 := B.cells 0 _ rfl
    have B_1 := B.cells 1 _ rfl
    have B_f0 := B.free 0 (by simp)
    have B_f1 := B.free 1 (by simp)
    have B_t := B.there
    have X_0 := X.cells 0 _ rfl
    have X_1 := X.cells 1 _ rfl
    have X_f0 := X.free 0 (by simp)
    have X_f1 := X.free 1 (by simp)
    have X_t := X.there
    go_wp2_with fail
    refine (SBrine.to_any ⟨p, q⟩ _).mono ?_
    rintro e v4 ⟨rfl, hv4⟩
    clear B_0 B_1 B_f0 B_f1 B_t
    clear X_0 X_1 X_f0 X_f1 X_t
    replace B := B.more hv4
    replace X := X.more hv4
    replace ho := own_keep ho hv4
    have zhv4 := hv4.size
    clear hv4
    have B_0 := B.cells 0 _ rfl
    have B_1 := B.cells 1 _ rfl
    have B_f0 := B.free 0 (by simp)
    have B_f1 := B.free 1 (by simp)
    have B_t := B.there
    have X_0 := X.cells 0 _ rfl
    have X_1 := X.cells 1 _ rfl
    have X_f0 := X.free 0 (by simp)
    have X_f1 := X.free 1 (by simp)
    have X_t := X.there
    unfold SBrine.R.val
    go_wp2_with fail
    refine (ShwM.aft_impl _ _ l p q a f0 t _ (Rd.of_own ho) (Nat.le_refl _) (by omega)).mono ?_
    rintro e v5 ⟨rfl, hv5⟩
    clear B_0 B_1 B_f0 B_f1 B_t
    clear X_0 X_1 X_f0 X_f1 X_t
    replace B := B.more hv5
    replace X := X.more hv5
    replace ho := own_keep ho hv5
    have zhv5 := hv5.size
    clear hv5
    have B_0 := B.cells 0 _ rfl
    have B_1 := B.cells 1 _ rfl
    have B_f0 := B.free 0 (by simp)
    have B_f1 := B.free 1 (by simp)
    have B_t := B.there
    have X_0 := X.cells 0 _ rfl
    have X_1 := X.cells 1 _ rfl
    have X_f0 := X.free 0 (by simp)
    have X_f1 := X.free 1 (by simp)
    have X_t := X.there
    rw [HV.out]
    go_wp2_with fail
    have B_t6 := B.there
    have X_t6 := X.there
    have G := Box.new B.below [.int .i64 x, .int .i64 y] 26 (g := v5.heap.size) rfl
    clear B_0 B_1 B_f0 B_f1 B_t
    replace B := (B).alloc (.cells #[.int .i64 x, .int .i64 y] 26)
    clear X_0 X_1 X_f0 X_f1 X_t
    replace X := (X).alloc (.cells #[.int .i64 x, .int .i64 y] 26)
    replace ho := own_keep ho (al (Below.refl _ _) (o := (.cells #[.int .i64 x, .int .i64 y] 26)))
    generalize (v5.alloc (.cells #[.int .i64 x, .int .i64 y] 26)) = W6 at G B X ho ⊢
    have B_0 := B.cells 0 _ rfl
    have B_1 := B.cells 1 _ rfl
    have B_f0 := B.free 0 (by simp)
    have B_f1 := B.free 1 (by simp)
    have B_t := B.there
    have X_0 := X.cells 0 _ rfl
    have X_1 := X.cells 1 _ rfl
    have X_f0 := X.free 0 (by simp)
    have X_f1 := X.free 1 (by simp)
    have X_t := X.there
    have G_0 := G.cells 0 _ rfl
    have G_1 := G.cells 1 _ rfl
    have G_f0 := G.free 0 (by simp)
    have G_f1 := G.free 1 (by simp)
    have G_t := G.there
    go_wp2_with fail
    refine (SBrine.eq_any ⟨x, y⟩ ⟨x, y⟩ _).mono ?_
    rintro e v7 ⟨rfl, hv7⟩
    clear B_0 B_1 B_f0 B_f1 B_t
    clear X_0 X_1 X_f0 X_f1 X_t
    clear G_0 G_1 G_f0 G_f1 G_t
    replace B := B.more hv7
    replace X := X.more hv7
    replace G := G.more hv7
    replace ho := own_keep ho hv7
    have zhv7 := hv7.size
    clear hv7
    have B_0 := B.cells 0 _ rfl
    have B_1 := B.cells 1 _ rfl
    have B_f0 := B.free 0 (by simp)
    have B_f1 := B.free 1 (by simp)
    have B_t := B.there
    have X_0 := X.cells 0 _ rfl
    have X_1 := X.cells 1 _ rfl
    have X_f0 := X.free 0 (by simp)
    have X_f1 := X.free 1 (by simp)
    have X_t := X.there
    have G_0 := G.cells 0 _ rfl
    have G_1 := G.cells 1 _ rfl
    have G_f0 := G.free 0 (by simp)
    have G_f1 := G.free 1 (by simp)
    have G_t := G.there
    rw [SBrine.same_self]
    go_wp2_with fail
    refine (SShower.toS_any P cap l _ (rd_keep hr B.below) (by omega)).mono ?_
    rintro e v8 ⟨rfl, ho2, hv8⟩
    clear B_0 B_1 B_f0 B_f1 B_t
    clear X_0 X_1 X_f0 X_f1 X_t
    clear G_0 G_1 G_f0 G_f1 G_t
    replace B := B.more hv8
    replace X := X.more hv8
    replace G := G.more hv8
    replace ho := own_keep ho hv8
    have zhv8 := hv8.size
    clear hv8
    have B_0 := B.cells 0 _ rfl
    have B_1 := B.cells 1 _ rfl
    have B_f0 := B.free 0 (by simp)
    have B_f1 := B.free 1 (by simp)
    have B_t := B.there
    have X_0 := X.cells 0 _ rfl
    have X_1 := X.cells 1 _ rfl
    have X_f0 := X.free 0 (by simp)
    have X_f1 := X.free 1 (by simp)
    have X_t := X.there
    have G_0 := G.cells 0 _ rfl
    have G_1 := G.cells 1 _ rfl
    have G_f0 := G.free 0 (by simp)
    have G_f1 := G.free 1 (by simp)
    have G_t := G.there
    go_wp2_with fail
    refine (SShower.eqS_any _ _ _ _ l l _ (Rd.of_own ho) (Rd.of_own ho2) HN.out HN.out).mono ?_
    rintro e v9 ⟨rfl, hv9⟩
    clear B_0 B_1 B_f0 B_f1 B_t
    clear X_0 X_1 X_f0 X_f1 X_t
    clear G_0 G_1 G_f0 G_f1 G_t
    replace B := B.more hv9
    replace X := X.more hv9
    replace G := G.more hv9
    replace ho := own_keep ho hv9
    have zhv9 := hv9.size
    clear hv9
    have B_0 := B.cells 0 _ rfl
    have B_1 := B.cells 1 _ rfl
    have B_f0 := B.free 0 (by simp)
    have B_f1 := B.free 1 (by simp)
    have B_t := B.there
    have X_0 := X.cells 0 _ rfl
    have X_1 := X.cells 1 _ rfl
    have X_f0 := X.free 0 (by simp)
    have X_f1 := X.free 1 (by simp)
    have X_t := X.there
    have G_0 := G.cells 0 _ rfl
    have G_1 := G.cells 1 _ rfl
    have G_f0 := G.free 0 (by simp)
    have G_f1 := G.free 1 (by simp)
    have G_t := G.there
    rw [decide_eq_true rfl]
    go_wp2
    go_ret
    exact ⟨rfl, B.below⟩
end Go.Proofs.Ytpbmncecejchjaa.Laws9b
