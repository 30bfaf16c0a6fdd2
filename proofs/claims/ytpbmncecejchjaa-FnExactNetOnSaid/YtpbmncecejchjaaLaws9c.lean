/- The law on NetOn, walked. -/
import Derived.Test.YtpbmncecejchjaaLaws9a
import Derived.Test.YtpbmncecejchjaaShwN
import Derived.Test.YtpbmncecejchjaaRegn3
namespace Go.Proofs.Ytpbmncecejchjaa.Laws9c
open Go.RowKit Go.Proofs.Ytpbmncecejchjaa.Mem Go.Proofs.Ytpbmncecejchjaa.Base Go.Proofs.Ytpbmncecejchjaa.SShower Go.Proofs.Ytpbmncecejchjaa.Regn Go.Proofs.Ytpbmncecejchjaa.Boxes Go.Proofs.Ytpbmncecejchjaa.Keep Go.Proofs.Ytpbmncecejchjaa.Shw
set_option linter.unusedVariables false
set_option maxRecDepth 100000
abbrev Yes := Laws9a.Yes
set_option maxHeartbeats 8000000 in
theorem net_law (P : Option Addr) (cap : Nat) (l : List SShower.R) (P' : Option Addr) (cap' : Nat) (m : List SSun.R) (p q a d : Int) (w : World) (hr : Rd w w.heap.size P (SShower.flat l)) (hr' : Rd w w.heap.size P' (SSun.flat m)) (hn : l.length ≤ maxLen) (hn' : m.length ≤ maxLen) :
    Calls Try.prog 12 #[.slice P l.length cap, .slice P' m.length cap', .agg #[.int .i64 p, .int .i64 q], .int .i64 a, .int .i64 d] w (Yes w) := by
  have HN := Lib.hid hn
  have HN' := Lib.hid hn'
  unfold maxLen at hn hn'
  by_cases hbig : 1048576 < l.length
  · have HS := Lib.hid (show SShower.szV 1048576 l.length = -1 by unfold SShower.szV; rw [if_pos (by omega)])
    go_enter Try.func12, Try.ntmps12
    go_wp2_with fail
    have B := Box.new (Below.refl _ w) [.int .i64 p, .int .i64 q] 61 (g := w.heap.size) rfl
    generalize (w.alloc (.cells #[.int .i64 p, .int .i64 q] 61)) = W1 at B ⊢
    have B_0 := B.cells 0 _ rfl
    have B_1 := B.cells 1 _ rfl
    have B_f0 := B.free 0 (by simp)
    have B_f1 := B.free 1 (by simp)
    have B_t := B.there
    go_wp2_with fail
    refine (SShower.szS_any P cap l.length 1048576 _ (by omega) (by omega) HN.out).mono ?_
    rintro e _ ⟨rfl, rfl⟩
    rw [HS.out]
    go_wp2
    go_ret
    exact ⟨rfl, B.below⟩
  have HS := Lib.hid (show SShower.szV 1048576 l.length = 1048576 - l.length by unfold SShower.szV; rw [if_neg (by omega)])
  by_cases hbig' : (1048576 : Int) - l.length < m.length
  · have HS' := Lib.hid (show SSun.szV (1048576 - l.length) m.length = -1 by unfold SSun.szV; rw [if_pos hbig'])
    clear hbig'
    go_enter Try.func12, Try.ntmps12
    go_wp2_with fail
    have B := Box.new (Below.refl _ w) [.int .i64 p, .int .i64 q] 61 (g := w.heap.size) rfl
    generalize (w.alloc (.cells #[.int .i64 p, .int .i64 q] 61)) = W1 at B ⊢
    have B_0 := B.cells 0 _ rfl
    have B_1 := B.cells 1 _ rfl
    have B_f0 := B.free 0 (by simp)
    have B_f1 := B.free 1 (by simp)
    have B_t := B.there
    go_wp2_with fail
    refine (SShower.szS_any P cap l.length 1048576 _ (by omega) (by omega) HN.out).mono ?_
    rintro e _ ⟨rfl, rfl⟩
    rw [HS.out]
    go_wp2_with fail
    refine (SSun.szS_any P' cap' m.length (1048576 - l.length) _ (by omega) (by omega) HN'.out).mono ?_
    rintro e _ ⟨rfl, rfl⟩
    rw [HS'.out]
    go_wp2
    go_ret
    exact ⟨rfl, B.below⟩
  · have HS' := Lib.hid (show SSun.szV (1048576 - l.length) m.length = 1048576 - l.length - m.length by unfold SSun.szV; rw [if_neg hbig'])
    have hk0 : decide ((1048576 : Int) - l.length - m.length < 0) = false := decide_eq_false (by omega)
    have hnm : m.length ≤ 1048576 := by omega
    have HK0 := Lib.hid hbig'; clear hbig'
    obtain ⟨x, y, z, hv⟩ := ShwN.net_form l m p q a d
    have HV := Lib.hid hv; clear hv
    go_enter Try.func12, Try.ntmps12
    go_wp2_with fail
    have B := Box.new (Below.refl _ w) [.int .i64 p, .int .i64 q] 61 (g := w.heap.size) rfl
    generalize (w.alloc (.cells #[.int .i64 p, .int .i64 q] 61)) = W1 at B ⊢
    have B_0 := B.cells 0 _ rfl
    have B_1 := B.cells 1 _ rfl
    have B_f0 := B.free 0 (by simp)
    have B_f1 := B.free 1 (by simp)
    have B_t := B.there
    go_wp2_with fail
    refine (SShower.szS_any P cap l.length 1048576 _ (by omega) (by omega) HN.out).mono ?_
    rintro e _ ⟨rfl, rfl⟩
    rw [HS.out]
    go_wp2_with fail
    refine (SSun.szS_any P' cap' m.length (1048576 - l.length) _ (by omega) (by omega) HN'.out).mono ?_
    rintro e _ ⟨rfl, rfl⟩
    rw [HS'.out]
    go_wp2
    clear B_0 B_1 B_f0 B_f1 B_t
    refine wp_region_rel [29, 30, 31, 32, 33, 34, 35, 36, 37, 28, 38, 39, 12, 13] (fun L f w' => (Box (w.heap.size) [.int .i64 p, .int .i64 q] w w') ∧ (L 0 → f 29 = .slice P l.length cap) ∧ (L 1 → ¬ L 13 → ∃ g, f 30 = .slice (some ⟨g, 0, none⟩) l.length l.length ∧ w'.ownsRow w.heap.size 54 2 (.slice (some ⟨g, 0, none⟩) l.length l.length) l.length (SShower.flat l)) ∧ (L 2 → f 31 = .slice P' m.length cap') ∧ (L 3 → ¬ L 13 → ∃ g, f 32 = .slice (some ⟨g, 0, none⟩) m.length m.length ∧ w'.ownsRow w.heap.size 128 2 (.slice (some ⟨g, 0, none⟩) m.length m.length) m.length (SSun.flat m)) ∧ (L 4 → f 33 = .agg #[.int .i64 p, .int .i64 q]) ∧ (L 5 → f 34 = .agg #[.int .i64 p, .int .i64 q]) ∧ (L 6 → f 35 = .int .i64 a) ∧ (L 7 → f 36 = .int .i64 d) ∧ (L 8 → f 37 = .tuple #[.agg #[.int .i64 x, .int .i64 y], .bool z]) ∧ (L 9 → f 28 = .tuple #[.agg #[.int .i64 x, .int .i64 y], .bool z]) ∧ (L 10 → f 38 = .agg #[.int .i64 x, .int .i64 y]) ∧ (L 11 → f 39 = .bool z) ∧ (L 12 → ¬ L 13 → ∃ g, f 12 = .pointer (some ⟨g, 0, none⟩) ∧ g ≠ w.heap.size ∧ Box g [.int .i64 0, .int .i64 0] w w') ∧ (L 13 → ∃ g, f 12 = .pointer (some ⟨g, 0, none⟩) ∧ Box g [.int .i64 x, .int .i64 y] w w') ∧ (L 14 → f 13 = .bool z)) (by kernel_rfl) (by kernel_rfl) (by kernel_rfl) (fun f => ⟨B.drew, fun h => h.elim, fun h => h.elim, fun h => h.elim, fun h => h.elim, fun h => h.elim, fun h => h.elim, fun h => h.elim, fun h => h.elim, fun h => h.elim, fun h => h.elim, fun h => h.elim, fun h => h.elim, fun h => h.elim, fun h => h.elim, fun h => h.elim⟩) ?_ ?_
    · apply RelH.op2
      · intro L f u K hN hS hK
        simp only [puts, Act.put, List.setIfInBounds_toArray, List.set_cons_zero, List.set_cons_succ, upd, Nat.reduceEqDiff, ↓reduceIte, if_true, if_false] at hK ⊢
        have HS9 := Lib.hid hS
        obtain ⟨qB, c0, c1, c2, c3, c4, c5, c6, c7, c8, c9, c10, c11, c12, c13, c14⟩ := hS
        clear c0 c1 c2 c3 c4 c5 c6 c7 c8 c9 c10 c11 c12 c13 c14
        go_simp
        obtain ⟨qB, c0, c1, c2, c3, c4, c5, c6, c7, c8, c9, c10, c11, c12, c13, c14⟩ := HS9.out
        exact hK.out _ _ ⟨qB, fun _ => rfl, fun h t0 => c1 (h.resolve_right (by decide)) (fun z => t0 (.inl z)), fun h => c2 (h.resolve_right (by decide)), fun h t0 => c3 (h.resolve_right (by decide)) (fun z => t0 (.inl z)), fun h => c4 (h.resolve_right (by decide)), fun h => c5 (h.resolve_right (by decide)), fun h => c6 (h.resolve_right (by decide)), fun h => c7 (h.resolve_right (by decide)), fun h => c8 (h.resolve_right (by decide)), fun h => c9 (h.resolve_right (by decide)), fun h => c10 (h.resolve_right (by decide)), fun h => c11 (h.resolve_right (by decide)), fun h t0 => c12 (h.resolve_right (by decide)) (fun z => t0 (.inl z)), fun h => c13 (h.resolve_right (by decide)), fun h => c14 (h.resolve_right (by decide))⟩ _ rfl
      apply RelH.op2
      · intro L f u K hN hS hK
        simp only [puts, Act.put, List.setIfInBounds_toArray, List.set_cons_zero, List.set_cons_succ, upd, Nat.reduceEqDiff, ↓reduceIte, if_true, if_false] at hK ⊢
        have HS9 := Lib.hid hS
        obtain ⟨qB, c0, c1, c2, c3, c4, c5, c6, c7, c8, c9, c10, c11, c12, c13, c14⟩ := hS
        have e0 := c0 (hN.out.2 0 (by decide +kernel))
        have HCON := Lib.hid (SShower.toS_any P cap l u (rd_keep hr qB.below) (by omega))
        clear c0 c1 c2 c3 c4 c5 c6 c7 c8 c9 c10 c11 c12 c13 c14
        go_simp
        go_at_call 43
        (with_reducible refine HCON.out.mono ?_)
        rintro e uw1 ⟨rfl, ho, hv⟩
        go_wp2_with fail
        obtain ⟨qB, c0, c1, c2, c3, c4, c5, c6, c7, c8, c9, c10, c11, c12, c13, c14⟩ := HS9.out
        exact hK.out _ _ ⟨qB.more hv, fun h => c0 (h.resolve_right (by decide)), fun _ _ => ⟨_, rfl, own_base ho qB.below.size⟩, fun h => c2 (h.resolve_right (by decide)), fun h t0 => (let ⟨g, e, O⟩ := (c3 (h.resolve_right (by decide)) (fun z => t0 (.inl z))); ⟨g, e, own_keep O hv⟩), fun h => c4 (h.resolve_right (by decide)), fun h => c5 (h.resolve_right (by decide)), fun h => c6 (h.resolve_right (by decide)), fun h => c7 (h.resolve_right (by decide)), fun h => c8 (h.resolve_right (by decide)), fun h => c9 (h.resolve_right (by decide)), fun h => c10 (h.resolve_right (by decide)), fun h => c11 (h.resolve_right (by decide)), fun h t0 => (let ⟨g, e, n, X⟩ := (c12 (h.resolve_right (by decide)) (fun z => t0 (.inl z))); ⟨g, e, n, X.more hv⟩), fun h => (let ⟨g, e, X⟩ := (c13 (h.resolve_right (by decide))); ⟨g, e, X.more hv⟩), fun h => c14 (h.resolve_right (by decide))⟩ _ (by simp only [e0])
      apply RelH.op2
      · intro L f u K hN hS hK
        simp only [puts, Act.put, List.setIfInBounds_toArray, List.set_cons_zero, List.set_cons_succ, upd, Nat.reduceEqDiff, ↓reduceIte, if_true, if_false] at hK ⊢
        have HS9 := Lib.hid hS
        obtain ⟨qB, c0, c1, c2, c3, c4, c5, c6, c7, c8, c9, c10, c11, c12, c13, c14⟩ := hS
        clear c0 c1 c2 c3 c4 c5 c6 c7 c8 c9 c10 c11 c12 c13 c14
        go_simp
        obtain ⟨qB, c0, c1, c2, c3, c4, c5, c6, c7, c8, c9, c10, c11, c12, c13, c14⟩ := HS9.out
        exact hK.out _ _ ⟨qB, fun h => c0 (h.resolve_right (by decide)), fun h t0 => c1 (h.resolve_right (by decide)) (fun z => t0 (.inl z)), fun _ => rfl, fun h t0 => c3 (h.resolve_right (by decide)) (fun z => t0 (.inl z)), fun h => c4 (h.resolve_right (by decide)), fun h => c5 (h.resolve_right (by decide)), fun h => c6 (h.resolve_right (by decide)), fun h => c7 (h.resolve_right (by decide)), fun h => c8 (h.resolve_right (by decide)), fun h => c9 (h.resolve_right (by decide)), fun h => c10 (h.resolve_right (by decide)), fun h => c11 (h.resolve_right (by decide)), fun h t0 => c12 (h.resolve_right (by decide)) (fun z => t0 (.inl z)), fun h => c13 (h.resolve_right (by decide)), fun h => c14 (h.resolve_right (by decide))⟩ _ rfl
      apply RelH.op2
      · intro L f u K hN hS hK
        simp only [puts, Act.put, List.setIfInBounds_toArray, List.set_cons_zero, List.set_cons_succ, upd, Nat.reduceEqDiff, ↓reduceIte, if_true, if_false] at hK ⊢
        have HS9 := Lib.hid hS
        obtain ⟨qB, c0, c1, c2, c3, c4, c5, c6, c7, c8, c9, c10, c11, c12, c13, c14⟩ := hS
        have e2 := c2 (hN.out.2 2 (by decide +kernel))
        have HCON := Lib.hid (SSun.toS_any P' cap' m u (rd_keep hr' qB.below) (by omega))
        clear c0 c1 c2 c3 c4 c5 c6 c7 c8 c9 c10 c11 c12 c13 c14
        go_simp
        go_at_call 52
        (with_reducible refine HCON.out.mono ?_)
        rintro e uw1 ⟨rfl, ho, hv⟩
        go_wp2_with fail
        obtain ⟨qB, c0, c1, c2, c3, c4, c5, c6, c7, c8, c9, c10, c11, c12, c13, c14⟩ := HS9.out
        exact hK.out _ _ ⟨qB.more hv, fun h => c0 (h.resolve_right (by decide)), fun h t0 => (let ⟨g, e, O⟩ := (c1 (h.resolve_right (by decide)) (fun z => t0 (.inl z))); ⟨g, e, own_keep O hv⟩), fun h => c2 (h.resolve_right (by decide)), fun _ _ => ⟨_, rfl, own_base ho qB.below.size⟩, fun h => c4 (h.resolve_right (by decide)), fun h => c5 (h.resolve_right (by decide)), fun h => c6 (h.resolve_right (by decide)), fun h => c7 (h.resolve_right (by decide)), fun h => c8 (h.resolve_right (by decide)), fun h => c9 (h.resolve_right (by decide)), fun h => c10 (h.resolve_right (by decide)), fun h => c11 (h.resolve_right (by decide)), fun h t0 => (let ⟨g, e, n, X⟩ := (c12 (h.resolve_right (by decide)) (fun z => t0 (.inl z))); ⟨g, e, n, X.more hv⟩), fun h => (let ⟨g, e, X⟩ := (c13 (h.resolve_right (by decide))); ⟨g, e, X.more hv⟩), fun h => c14 (h.resolve_right (by decide))⟩ _ (by simp only [e2])
      apply RelH.op2
      · intro L f u K hN hS hK
        simp only [puts, Act.put, List.setIfInBounds_toArray, List.set_cons_zero, List.set_cons_succ, upd, Nat.reduceEqDiff, ↓reduceIte, if_true, if_false] at hK ⊢
        have HS9 := Lib.hid hS
        obtain ⟨qB, c0, c1, c2, c3, c4, c5, c6, c7, c8, c9, c10, c11, c12, c13, c14⟩ := hS
        have qB_0 := qB.cells 0 _ rfl
        have qB_1 := qB.cells 1 _ rfl
        clear c0 c1 c2 c3 c4 c5 c6 c7 c8 c9 c10 c11 c12 c13 c14
        go_simp
        obtain ⟨qB, c0, c1, c2, c3, c4, c5, c6, c7, c8, c9, c10, c11, c12, c13, c14⟩ := HS9.out
        exact hK.out _ _ ⟨qB, fun h => c0 (h.resolve_right (by decide)), fun h t0 => c1 (h.resolve_right (by decide)) (fun z => t0 (.inl z)), fun h => c2 (h.resolve_right (by decide)), fun h t0 => c3 (h.resolve_right (by decide)) (fun z => t0 (.inl z)), fun _ => rfl, fun h => c5 (h.resolve_right (by decide)), fun h => c6 (h.resolve_right (by decide)), fun h => c7 (h.resolve_right (by decide)), fun h => c8 (h.resolve_right (by decide)), fun h => c9 (h.resolve_right (by decide)), fun h => c10 (h.resolve_right (by decide)), fun h => c11 (h.resolve_right (by decide)), fun h t0 => c12 (h.resolve_right (by decide)) (fun z => t0 (.inl z)), fun h => c13 (h.resolve_right (by decide)), fun h => c14 (h.resolve_right (by decide))⟩ _ rfl
      apply RelH.op2
      · intro L f u K hN hS hK
        simp only [puts, Act.put, List.setIfInBounds_toArray, List.set_cons_zero, List.set_cons_succ, upd, Nat.reduceEqDiff, ↓reduceIte, if_true, if_false] at hK ⊢
        have HS9 := Lib.hid hS
        obtain ⟨qB, c0, c1, c2, c3, c4, c5, c6, c7, c8, c9, c10, c11, c12, c13, c14⟩ := hS
        have e4 := c4 (hN.out.2 4 (by decide +kernel))
        have HCON := Lib.hid (SBrine.to_any ⟨p, q⟩ u)
        clear c0 c1 c2 c3 c4 c5 c6 c7 c8 c9 c10 c11 c12 c13 c14
        go_simp
        go_at_call 45
        (with_reducible refine HCON.out.mono ?_)
        rintro e uw1 ⟨rfl, hv⟩
        unfold SBrine.R.val
        go_wp2_with fail
        obtain ⟨qB, c0, c1, c2, c3, c4, c5, c6, c7, c8, c9, c10, c11, c12, c13, c14⟩ := HS9.out
        exact hK.out _ _ ⟨qB.more hv, fun h => c0 (h.resolve_right (by decide)), fun h t0 => (let ⟨g, e, O⟩ := (c1 (h.resolve_right (by decide)) (fun z => t0 (.inl z))); ⟨g, e, own_keep O hv⟩), fun h => c2 (h.resolve_right (by decide)), fun h t0 => (let ⟨g, e, O⟩ := (c3 (h.resolve_right (by decide)) (fun z => t0 (.inl z))); ⟨g, e, own_keep O hv⟩), fun h => c4 (h.resolve_right (by decide)), fun _ => rfl, fun h => c6 (h.resolve_right (by decide)), fun h => c7 (h.resolve_right (by decide)), fun h => c8 (h.resolve_right (by decide)), fun h => c9 (h.resolve_right (by decide)), fun h => c10 (h.resolve_right (by decide)), fun h => c11 (h.resolve_right (by decide)), fun h t0 => (let ⟨g, e, n, X⟩ := (c12 (h.resolve_right (by decide)) (fun z => t0 (.inl z))); ⟨g, e, n, X.more hv⟩), fun h => (let ⟨g, e, X⟩ := (c13 (h.resolve_right (by decide))); ⟨g, e, X.more hv⟩), fun h => c14 (h.resolve_right (by decide))⟩ _ (by simp only [e4])
      apply RelH.op2
      · intro L f u K hN hS hK
        simp only [puts, Act.put, List.setIfInBounds_toArray, List.set_cons_zero, List.set_cons_succ, upd, Nat.reduceEqDiff, ↓reduceIte, if_true, if_false] at hK ⊢
        have HS9 := Lib.hid hS
        obtain ⟨qB, c0, c1, c2, c3, c4, c5, c6, c7, c8, c9, c10, c11, c12, c13, c14⟩ := hS
        clear c0 c1 c2 c3 c4 c5 c6 c7 c8 c9 c10 c11 c12 c13 c14
        go_simp
        obtain ⟨qB, c0, c1, c2, c3, c4, c5, c6, c7, c8, c9, c10, c11, c12, c13, c14⟩ := HS9.out
        exact hK.out _ _ ⟨qB, fun h => c0 (h.resolve_right (by decide)), fun h t0 => c1 (h.resolve_right (by decide)) (fun z => t0 (.inl z)), fun h => c2 (h.resolve_right (by decide)), fun h t0 => c3 (h.resolve_right (by decide)) (fun z => t0 (.inl z)), fun h => c4 (h.resolve_right (by decide)), fun h => c5 (h.resolve_right (by decide)), fun _ => rfl, fun h => c7 (h.resolve_right (by decide)), fun h => c8 (h.resolve_right (by decide)), fun h => c9 (h.resolve_right (by decide)), fun h => c10 (h.resolve_right (by decide)), fun h => c11 (h.resolve_right (by decide)), fun h t0 => c12 (h.resolve_right (by decide)) (fun z => t0 (.inl z)), fun h => c13 (h.resolve_right (by decide)), fun h => c14 (h.resolve_right (by decide))⟩ _ rfl
      apply RelH.op2
      · intro L f u K hN hS hK
        simp only [puts, Act.put, List.setIfInBounds_toArray, List.set_cons_zero, List.set_cons_succ, upd, Nat.reduceEqDiff, ↓reduceIte, if_true, if_false] at hK ⊢
        have HS9 := Lib.hid hS
        obtain ⟨qB, c0, c1, c2, c3, c4, c5, c6, c7, c8, c9, c10, c11, c12, c13, c14⟩ := hS
        clear c0 c1 c2 c3 c4 c5 c6 c7 c8 c9 c10 c11 c12 c13 c14
        go_simp
        obtain ⟨qB, c0, c1, c2, c3, c4, c5, c6, c7, c8, c9, c10, c11, c12, c13, c14⟩ := HS9.out
        exact hK.out _ _ ⟨qB, fun h => c0 (h.resolve_right (by decide)), fun h t0 => c1 (h.resolve_right (by decide)) (fun z => t0 (.inl z)), fun h => c2 (h.resolve_right (by decide)), fun h t0 => c3 (h.resolve_right (by decide)) (fun z => t0 (.inl z)), fun h => c4 (h.resolve_right (by decide)), fun h => c5 (h.resolve_right (by decide)), fun h => c6 (h.resolve_right (by decide)), fun _ => rfl, fun h => c8 (h.resolve_right (by decide)), fun h => c9 (h.resolve_right (by decide)), fun h => c10 (h.resolve_right (by decide)), fun h => c11 (h.resolve_right (by decide)), fun h t0 => c12 (h.resolve_right (by decide)) (fun z => t0 (.inl z)), fun h => c13 (h.resolve_right (by decide)), fun h => c14 (h.resolve_right (by decide))⟩ _ rfl
      apply RelH.op2
      · intro L f u K hN hS hK
        simp only [puts, Act.put, List.setIfInBounds_toArray, List.set_cons_zero, List.set_cons_succ, upd, Nat.reduceEqDiff, ↓reduceIte, if_true, if_false] at hK ⊢
        have HS9 := Lib.hid hS
        obtain ⟨qB, c0, c1, c2, c3, c4, c5, c6, c7, c8, c9, c10, c11, c12, c13, c14⟩ := hS
        obtain ⟨g, e1, O⟩ := c1 (hN.out.2 1 (by decide +kernel)) (hN.out.1 13 (by decide +kernel))
        obtain ⟨g2, e3, O2⟩ := c3 (hN.out.2 3 (by decide +kernel)) (hN.out.1 13 (by decide +kernel))
        have e5 := c5 (hN.out.2 5 (by decide +kernel))
        have e6 := c6 (hN.out.2 6 (by decide +kernel))
        have e7 := c7 (hN.out.2 7 (by decide +kernel))
        have HCON := Lib.hid (ShwN.net_spec (some ⟨g, 0, none⟩) l.length l (some ⟨g2, 0, none⟩) m.length m p q a d u (Rd.of_own O) (Rd.of_own O2) (by omega) (by omega))
        clear c0 c1 c2 c3 c4 c5 c6 c7 c8 c9 c10 c11 c12 c13 c14
        go_simp
        go_at_call 27
        (with_reducible refine HCON.out.mono ?_)
        rintro e uw1 ⟨rfl, hv⟩
        rw [HV.out]
        go_wp2_with fail
        obtain ⟨qB, c0, c1, c2, c3, c4, c5, c6, c7, c8, c9, c10, c11, c12, c13, c14⟩ := HS9.out
        exact hK.out _ _ ⟨qB.more hv, fun h => c0 (h.resolve_right (by decide)), fun h t0 => (let ⟨g, e, O⟩ := (c1 (h.resolve_right (by decide)) (fun z => t0 (.inl z))); ⟨g, e, own_keep O hv⟩), fun h => c2 (h.resolve_right (by decide)), fun h t0 => (let ⟨g, e, O⟩ := (c3 (h.resolve_right (by decide)) (fun z => t0 (.inl z))); ⟨g, e, own_keep O hv⟩), fun h => c4 (h.resolve_right (by decide)), fun h => c5 (h.resolve_right (by decide)), fun h => c6 (h.resolve_right (by decide)), fun h => c7 (h.resolve_right (by decide)), fun _ => rfl, fun h => c9 (h.resolve_right (by decide)), fun h => c10 (h.resolve_right (by decide)), fun h => c11 (h.resolve_right (by decide)), fun h t0 => (let ⟨g, e, n, X⟩ := (c12 (h.resolve_right (by decide)) (fun z => t0 (.inl z))); ⟨g, e, n, X.more hv⟩), fun h => (let ⟨g, e, X⟩ := (c13 (h.resolve_right (by decide))); ⟨g, e, X.more hv⟩), fun h => c14 (h.resolve_right (by decide))⟩ _ (by simp only [e1, e3, e5, e6, e7])
      apply RelH.op2
      · intro L f u K hN hS hK
        simp only [puts, Act.put, List.setIfInBounds_toArray, List.set_cons_zero, List.set_cons_succ, upd, Nat.reduceEqDiff, ↓reduceIte, if_true, if_false] at hK ⊢
        have HS9 := Lib.hid hS
        obtain ⟨qB, c0, c1, c2, c3, c4, c5, c6, c7, c8, c9, c10, c11, c12, c13, c14⟩ := hS
        have e8 := c8 (hN.out.2 8 (by decide +kernel))
        clear c0 c1 c2 c3 c4 c5 c6 c7 c8 c9 c10 c11 c12 c13 c14
        go_simp
        obtain ⟨qB, c0, c1, c2, c3, c4, c5, c6, c7, c8, c9, c10, c11, c12, c13, c14⟩ := HS9.out
        exact hK.out _ _ ⟨qB, fun h => c0 (h.resolve_right (by decide)), fun h t0 => c1 (h.resolve_right (by decide)) (fun z => t0 (.inl z)), fun h => c2 (h.resolve_right (by decide)), fun h t0 => c3 (h.resolve_right (by decide)) (fun z => t0 (.inl z)), fun h => c4 (h.resolve_right (by decide)), fun h => c5 (h.resolve_right (by decide)), fun h => c6 (h.resolve_right (by decide)), fun h => c7 (h.resolve_right (by decide)), fun h => c8 (h.resolve_right (by decide)), fun _ => rfl, fun h => c10 (h.resolve_right (by decide)), fun h => c11 (h.resolve_right (by decide)), fun h t0 => c12 (h.resolve_right (by decide)) (fun z => t0 (.inl z)), fun h => c13 (h.resolve_right (by decide)), fun h => c14 (h.resolve_right (by decide))⟩ _ (by simp only [e8])
      apply RelH.op2
      · intro L f u K hN hS hK
        simp only [puts, Act.put, List.setIfInBounds_toArray, List.set_cons_zero, List.set_cons_succ, upd, Nat.reduceEqDiff, ↓reduceIte, if_true, if_false] at hK ⊢
        have HS9 := Lib.hid hS
        obtain ⟨qB, c0, c1, c2, c3, c4, c5, c6, c7, c8, c9, c10, c11, c12, c13, c14⟩ := hS
        have e9 := c9 (hN.out.2 9 (by decide +kernel))
        clear c0 c1 c2 c3 c4 c5 c6 c7 c8 c9 c10 c11 c12 c13 c14
        go_simp
        obtain ⟨qB, c0, c1, c2, c3, c4, c5, c6, c7, c8, c9, c10, c11, c12, c13, c14⟩ := HS9.out
        exact hK.out _ _ ⟨qB, fun h => c0 (h.resolve_right (by decide)), fun h t0 => c1 (h.resolve_right (by decide)) (fun z => t0 (.inl z)), fun h => c2 (h.resolve_right (by decide)), fun h t0 => c3 (h.resolve_right (by decide)) (fun z => t0 (.inl z)), fun h => c4 (h.resolve_right (by decide)), fun h => c5 (h.resolve_right (by decide)), fun h => c6 (h.resolve_right (by decide)), fun h => c7 (h.resolve_right (by decide)), fun h => c8 (h.resolve_right (by decide)), fun h => c9 (h.resolve_right (by decide)), fun _ => rfl, fun h => c11 (h.resolve_right (by decide)), fun h t0 => c12 (h.resolve_right (by decide)) (fun z => t0 (.inl z)), fun h => c13 (h.resolve_right (by decide)), fun h => c14 (h.resolve_right (by decide))⟩ _ (by simp only [e9])
      apply RelH.op2
      · intro L f u K hN hS hK
        simp only [puts, Act.put, List.setIfInBounds_toArray, List.set_cons_zero, List.set_cons_succ, upd, Nat.reduceEqDiff, ↓reduceIte, if_true, if_false] at hK ⊢
        have HS9 := Lib.hid hS
        obtain ⟨qB, c0, c1, c2, c3, c4, c5, c6, c7, c8, c9, c10, c11, c12, c13, c14⟩ := hS
        have e9 := c9 (hN.out.2 9 (by decide +kernel))
        clear c0 c1 c2 c3 c4 c5 c6 c7 c8 c9 c10 c11 c12 c13 c14
        go_simp
        obtain ⟨qB, c0, c1, c2, c3, c4, c5, c6, c7, c8, c9, c10, c11, c12, c13, c14⟩ := HS9.out
        exact hK.out _ _ ⟨qB, fun h => c0 (h.resolve_right (by decide)), fun h t0 => c1 (h.resolve_right (by decide)) (fun z => t0 (.inl z)), fun h => c2 (h.resolve_right (by decide)), fun h t0 => c3 (h.resolve_right (by decide)) (fun z => t0 (.inl z)), fun h => c4 (h.resolve_right (by decide)), fun h => c5 (h.resolve_right (by decide)), fun h => c6 (h.resolve_right (by decide)), fun h => c7 (h.resolve_right (by decide)), fun h => c8 (h.resolve_right (by decide)), fun h => c9 (h.resolve_right (by decide)), fun h => c10 (h.resolve_right (by decide)), fun _ => rfl, fun h t0 => c12 (h.resolve_right (by decide)) (fun z => t0 (.inl z)), fun h => c13 (h.resolve_right (by decide)), fun h => c14 (h.resolve_right (by decide))⟩ _ (by simp only [e9])
      apply RelH.op2
      · intro L f u K hN hS hK
        simp only [puts, Act.put, List.setIfInBounds_toArray, List.set_cons_zero, List.set_cons_succ, upd, Nat.reduceEqDiff, ↓reduceIte, if_true, if_false] at hK ⊢
        have HS9 := Lib.hid hS
        obtain ⟨qB, c0, c1, c2, c3, c4, c5, c6, c7, c8, c9, c10, c11, c12, c13, c14⟩ := hS
        have hv : Below u.heap.size u (u.alloc (.cells #[.int .i64 0, .int .i64 0] 26)) := al (Below.refl _ _)
        have hX := Box.new qB.below [.int .i64 0, .int .i64 0] 26 (g := u.heap.size) rfl
        have hne : u.heap.size ≠ w.heap.size := by have := qB.there; omega
        clear c0 c1 c2 c3 c4 c5 c6 c7 c8 c9 c10 c11 c12 c13 c14
        go_simp
        obtain ⟨qB, c0, c1, c2, c3, c4, c5, c6, c7, c8, c9, c10, c11, c12, c13, c14⟩ := HS9.out
        exact hK.out _ _ ⟨qB.more hv, fun h => c0 (h.resolve_right (by decide)), fun h t0 => (let ⟨g, e, O⟩ := (c1 (h.resolve_right (by decide)) (fun z => t0 (.inl z))); ⟨g, e, own_keep O hv⟩), fun h => c2 (h.resolve_right (by decide)), fun h t0 => (let ⟨g, e, O⟩ := (c3 (h.resolve_right (by decide)) (fun z => t0 (.inl z))); ⟨g, e, own_keep O hv⟩), fun h => c4 (h.resolve_right (by decide)), fun h => c5 (h.resolve_right (by decide)), fun h => c6 (h.resolve_right (by decide)), fun h => c7 (h.resolve_right (by decide)), fun h => c8 (h.resolve_right (by decide)), fun h => c9 (h.resolve_right (by decide)), fun h => c10 (h.resolve_right (by decide)), fun h => c11 (h.resolve_right (by decide)), fun _ _ => ⟨_, rfl, hne, hX⟩, fun h => absurd (h.resolve_right (by decide)) (hN.out.1 13 (by decide +kernel)), fun h => c14 (h.resolve_right (by decide))⟩ _ rfl
      apply RelH.op2
      · intro L f u K hN hS hK
        simp only [puts, Act.put, List.setIfInBounds_toArray, List.set_cons_zero, List.set_cons_succ, upd, Nat.reduceEqDiff, ↓reduceIte, if_true, if_false] at hK ⊢
        have HS9 := Lib.hid hS
        obtain ⟨qB, c0, c1, c2, c3, c4, c5, c6, c7, c8, c9, c10, c11, c12, c13, c14⟩ := hS
        obtain ⟨g, e12, hne, X⟩ := c12 (hN.out.2 12 (by decide +kernel)) (hN.out.1 13 (by decide +kernel))
        have e10 := c10 (hN.out.2 10 (by decide +kernel))
        have X_0 := X.cells 0 _ rfl
        have X_1 := X.cells 1 _ rfl
        have X_f0 := X.free 0 (by simp)
        have X_f1 := X.free 1 (by simp)
        clear c0 c1 c2 c3 c4 c5 c6 c7 c8 c9 c10 c11 c12 c13 c14
        go_simp
        obtain ⟨qB, c0, c1, c2, c3, c4, c5, c6, c7, c8, c9, c10, c11, c12, c13, c14⟩ := HS9.out
        exact hK.out undef _ ⟨(qB.far X.base hne 0 _).far X.base hne 1 _, fun h => c0 (h.resolve_right (by decide)), fun h t0 => (t0 (by simp)).elim, fun h => c2 (h.resolve_right (by decide)), fun h t0 => (t0 (by simp)).elim, fun h => c4 (h.resolve_right (by decide)), fun h => c5 (h.resolve_right (by decide)), fun h => c6 (h.resolve_right (by decide)), fun h => c7 (h.resolve_right (by decide)), fun h => c8 (h.resolve_right (by decide)), fun h => c9 (h.resolve_right (by decide)), fun h => c10 (h.resolve_right (by decide)), fun h => c11 (h.resolve_right (by decide)), fun h t0 => (t0 (by simp)).elim, fun _ => ⟨g, e12, (X.set 0 (.int .i64 x)).set 1 (.int .i64 y)⟩, fun h => c14 (h.resolve_right (by decide))⟩ _ (by simp only [e12, e10])
      apply RelH.op2
      · intro L f u K hN hS hK
        simp only [puts, Act.put, List.setIfInBounds_toArray, List.set_cons_zero, List.set_cons_succ, upd, Nat.reduceEqDiff, ↓reduceIte, if_true, if_false] at hK ⊢
        have HS9 := Lib.hid hS
        obtain ⟨qB, c0, c1, c2, c3, c4, c5, c6, c7, c8, c9, c10, c11, c12, c13, c14⟩ := hS
        have e11 := c11 (hN.out.2 11 (by decide +kernel))
        clear c0 c1 c2 c3 c4 c5 c6 c7 c8 c9 c10 c11 c12 c13 c14
        go_simp
        obtain ⟨qB, c0, c1, c2, c3, c4, c5, c6, c7, c8, c9, c10, c11, c12, c13, c14⟩ := HS9.out
        exact hK.out _ _ ⟨qB, fun h => c0 (h.resolve_right (by decide)), fun h t0 => c1 (h.resolve_right (by decide)) (fun z => t0 (.inl z)), fun h => c2 (h.resolve_right (by decide)), fun h t0 => c3 (h.resolve_right (by decide)) (fun z => t0 (.inl z)), fun h => c4 (h.resolve_right (by decide)), fun h => c5 (h.resolve_right (by decide)), fun h => c6 (h.resolve_right (by decide)), fun h => c7 (h.resolve_right (by decide)), fun h => c8 (h.resolve_right (by decide)), fun h => c9 (h.resolve_right (by decide)), fun h => c10 (h.resolve_right (by decide)), fun h => c11 (h.resolve_right (by decide)), fun h t0 => c12 (h.resolve_right (by decide)) (fun z => t0 (.inl z)), fun h => c13 (h.resolve_right (by decide)), fun _ => rfl⟩ _ (by simp only [e11])
      exact RelH.done
    intro L f V0 hL hS
    simp only [puts, Act.put, List.setIfInBounds_toArray, List.set_cons_zero, List.set_cons_succ]
    obtain ⟨qB, c0, c1, c2, c3, c4, c5, c6, c7, c8, c9, c10, c11, c12, c13, c14⟩ := hS
    clear B
    have B := qB; clear qB
    obtain ⟨k, e13, X⟩ := c13 (hL 13 (by decide))
    have e0 := c0 (hL 0 (by decide)); have e2 := c2 (hL 2 (by decide)); have e4 := c4 (hL 4 (by decide)); have e5 := c5 (hL 5 (by decide)); have e6 := c6 (hL 6 (by decide)); have e7 := c7 (hL 7 (by decide)); have e8 := c8 (hL 8 (by decide)); have e9 := c9 (hL 9 (by decide)); have e10 := c10 (hL 10 (by decide)); have e11 := c11 (hL 11 (by decide)); have e14 := c14 (hL 14 (by decide))
    simp only [e0, e2, e4, e5, e6, e7, e8, e9, e10, e11, e13, e14]
    clear e0 e2 e4 e5 e6 e7 e8 e9 e10 e11 e13 e14 c0 c1 c2 c3 c4 c5 c6 c7 c8 c9 c10 c11 c12 c13 c14 hL
    generalize f 30 = u30
    generalize f 32 = u32
    have B_0 := B.cells 0 _ rfl
    have B_1 := B.cells 1 _ rfl
    have B_f0 := B.free 0 (by simp)
    have B_f1 := B.free 1 (by simp)
    have B_t := B.there
    have X_0 := X.cells 0 _ rfl
    have X_1 := X.cells 1 _ rfl
    have X_f0 := X.free 0 (by simp)
    have X_f1 := X.free 1 (by simp)
    have X_t := X.there
    go_wp2_with fail
    go_wp2_with fail
    refine (SShower.toS_any P cap l _ (rd_keep hr B.below) (by omega)).mono ?_
    rintro e v4 ⟨rfl, ho, hv4⟩
    clear B_0 B_1 B_f0 B_f1 B_t
    clear X_0 X_1 X_f0 X_f1 X_t
    replace B := B.more hv4
    replace X := X.more hv4
    have zhv4 := hv4.size
    clear hv4
    have B_0 := B.cells 0 _ rfl
    have B_1 := B.cells 1 _ rfl
    have B_f0 := B.free 0 (by simp)
    have B_f1 := B.free 1 (by simp)
    have B_t := B.there
    have X_0 := X.cells 0 _ rfl
    have X_1 := X.cells 1 _ rfl
    have X_f0 := X.free 0 (by simp)
    have X_f1 := X.free 1 (by simp)
    have X_t := X.there
    go_wp2_with fail
    refine (SSun.toS_any P' cap' m _ (rd_keep hr' B.below) (by omega)).mono ?_
    rintro e v5 ⟨rfl, hp, hv5⟩
    clear B_0 B_1 B_f0 B_f1 B_t
    clear X_0 X_1 X_f0 X_f1 X_t
    replace B := B.more hv5
    replace X := X.more hv5
    replace ho := own_keep ho hv5
    have zhv5 := hv5.size
    clear hv5
    have B_0 := B.cells 0 _ rfl
    have B_1 := B.cells 1 _ rfl
    have B_f0 := B.free 0 (by simp)
    have B_f1 := B.free 1 (by simp)
    have B_t := B.there
    have X_0 := X.cells 0 _ rfl
    have X_1 := X.cells 1 _ rfl
    have X_f0 := X.free 0 (by simp)
    have X_f1 := X.free 1 (by simp)
    have X_t := X.there
    go_wp2_with fail
    refine (SBrine.to_any ⟨p, q⟩ _).mono ?_
    rintro e v6 ⟨rfl, hv6⟩
    clear B_0 B_1 B_f0 B_f1 B_t
    clear X_0 X_1 X_f0 X_f1 X_t
    replace B := B.more hv6
    replace X := X.more hv6
    replace ho := own_keep ho hv6
    replace hp := own_keep hp hv6
    have zhv6 := hv6.size
    clear hv6
    have B_0 := B.cells 0 _ rfl
    have B_1 := B.cells 1 _ rfl
    have B_f0 := B.free 0 (by simp)
    have B_f1 := B.free 1 (by simp)
    have B_t := B.there
    have X_0 := X.cells 0 _ rfl
    have X_1 := X.cells 1 _ rfl
    have X_f0 := X.free 0 (by simp)
    have X_f1 := X.free 1 (by simp)
    have X_t := X.there
    unfold SBrine.R.val
    go_wp2_with fail
    refine (ShwN.net_impl _ _ l _ _ m p q a d _ (Rd.of_own ho) (Rd.of_own hp) (Nat.le_refl _) (Nat.le_refl _) (by omega) (by omega)).mono ?_
    rintro e v7 ⟨rfl, hv7⟩
    clear B_0 B_1 B_f0 B_f1 B_t
    clear X_0 X_1 X_f0 X_f1 X_t
    replace B := B.more hv7
    replace X := X.more hv7
    replace ho := own_keep ho hv7
    replace hp := own_keep hp hv7
    have zhv7 := hv7.size
    clear hv7
    have B_0 := B.cells 0 _ rfl
    have B_1 := B.cells 1 _ rfl
    have B_f0 := B.free 0 (by simp)
    have B_f1 := B.free 1 (by simp)
    have B_t := B.there
    have X_0 := X.cells 0 _ rfl
    have X_1 := X.cells 1 _ rfl
    have X_f0 := X.free 0 (by simp)
    have X_f1 := X.free 1 (by simp)
    have X_t := X.there
    rw [HV.out]
    go_wp2_with fail
    have B_t8 := B.there
    have X_t8 := X.there
    have G := Box.new B.below [.int .i64 x, .int .i64 y] 26 (g := v7.heap.size) rfl
    clear B_0 B_1 B_f0 B_f1 B_t
    replace B := (B).alloc (.cells #[.int .i64 x, .int .i64 y] 26)
    clear X_0 X_1 X_f0 X_f1 X_t
    replace X := (X).alloc (.cells #[.int .i64 x, .int .i64 y] 26)
    replace ho := own_keep ho (al (Below.refl _ _) (o := (.cells #[.int .i64 x, .int .i64 y] 26)))
    replace hp := own_keep hp (al (Below.refl _ _) (o := (.cells #[.int .i64 x, .int .i64 y] 26)))
    generalize (v7.alloc (.cells #[.int .i64 x, .int .i64 y] 26)) = W8 at G B X ho hp ⊢
    have B_0 := B.cells 0 _ rfl
    have B_1 := B.cells 1 _ rfl
    have B_f0 := B.free 0 (by simp)
    have B_f1 := B.free 1 (by simp)
    have B_t := B.there
    have X_0 := X.cells 0 _ rfl
    have X_1 := X.cells 1 _ rfl
    have X_f0 := X.free 0 (by simp)
    have X_f1 := X.free 1 (by simp)
    have X_t := X.there
    have G_0 := G.cells 0 _ rfl
    have G_1 := G.cells 1 _ rfl
    have G_f0 := G.free 0 (by simp)
    have G_f1 := G.free 1 (by simp)
    have G_t := G.there
    go_wp2_with fail
    refine (SBrine.eq_any ⟨x, y⟩ ⟨x, y⟩ _).mono ?_
    rintro e v9 ⟨rfl, hv9⟩
    clear B_0 B_1 B_f0 B_f1 B_t
    clear X_0 X_1 X_f0 X_f1 X_t
    clear G_0 G_1 G_f0 G_f1 G_t
    replace B := B.more hv9
    replace X := X.more hv9
    replace G := G.more hv9
    replace ho := own_keep ho hv9
    replace hp := own_keep hp hv9
    have zhv9 := hv9.size
    clear hv9
    have B_0 := B.cells 0 _ rfl
    have B_1 := B.cells 1 _ rfl
    have B_f0 := B.free 0 (by simp)
    have B_f1 := B.free 1 (by simp)
    have B_t := B.there
    have X_0 := X.cells 0 _ rfl
    have X_1 := X.cells 1 _ rfl
    have X_f0 := X.free 0 (by simp)
    have X_f1 := X.free 1 (by simp)
    have X_t := X.there
    have G_0 := G.cells 0 _ rfl
    have G_1 := G.cells 1 _ rfl
    have G_f0 := G.free 0 (by simp)
    have G_f1 := G.free 1 (by simp)
    have G_t := G.there
    rw [SBrine.same_self]
    go_wp2_with fail
    refine (SShower.toS_any P cap l _ (rd_keep hr B.below) (by omega)).mono ?_
    rintro e v10 ⟨rfl, ho2, hv10⟩
    clear B_0 B_1 B_f0 B_f1 B_t
    clear X_0 X_1 X_f0 X_f1 X_t
    clear G_0 G_1 G_f0 G_f1 G_t
    replace B := B.more hv10
    replace X := X.more hv10
    replace G := G.more hv10
    replace ho := own_keep ho hv10
    replace hp := own_keep hp hv10
    have zhv10 := hv10.size
    clear hv10
    have B_0 := B.cells 0 _ rfl
    have B_1 := B.cells 1 _ rfl
    have B_f0 := B.free 0 (by simp)
    have B_f1 := B.free 1 (by simp)
    have B_t := B.there
    have X_0 := X.cells 0 _ rfl
    have X_1 := X.cells 1 _ rfl
    have X_f0 := X.free 0 (by simp)
    have X_f1 := X.free 1 (by simp)
    have X_t := X.there
    have G_0 := G.cells 0 _ rfl
    have G_1 := G.cells 1 _ rfl
    have G_f0 := G.free 0 (by simp)
    have G_f1 := G.free 1 (by simp)
    have G_t := G.there
    go_wp2_with fail
    refine (SShower.eqS_any _ _ _ _ l l _ (Rd.of_own ho) (Rd.of_own ho2) HN.out HN.out).mono ?_
    rintro e v11 ⟨rfl, hv11⟩
    clear B_0 B_1 B_f0 B_f1 B_t
    clear X_0 X_1 X_f0 X_f1 X_t
    clear G_0 G_1 G_f0 G_f1 G_t
    replace B := B.more hv11
    replace X := X.more hv11
    replace G := G.more hv11
    replace ho := own_keep ho hv11
    replace hp := own_keep hp hv11
    have zhv11 := hv11.size
    clear hv11
    have B_0 := B.cells 0 _ rfl
    have B_1 := B.cells 1 _ rfl
    have B_f0 := B.free 0 (by simp)
    have B_f1 := B.free 1 (by simp)
    have B_t := B.there
    have X_0 := X.cells 0 _ rfl
    have X_1 := X.cells 1 _ rfl
    have X_f0 := X.free 0 (by simp)
    have X_f1 := X.free 1 (by simp)
    have X_t := X.there
    have G_0 := G.cells 0 _ rfl
    have G_1 := G.cells 1 _ rfl
    have G_f0 := G.free 0 (by simp)
    have G_f1 := G.free 1 (by simp)
    have G_t := G.there
    rw [decide_eq_true rfl]
    clear ho2
    go_wp2_with fail
    refine (SSun.toS_any P' cap' m _ (rd_keep hr' B.below) (by omega)).mono ?_
    rintro e v12 ⟨rfl, ho2, hv12⟩
    clear B_0 B_1 B_f0 B_f1 B_t
    clear X_0 X_1 X_f0 X_f1 X_t
    clear G_0 G_1 G_f0 G_f1 G_t
    replace B := B.more hv12
    replace X := X.more hv12
    replace G := G.more hv12
    replace ho := own_keep ho hv12
    replace hp := own_keep hp hv12
    have zhv12 := hv12.size
    clear hv12
    have B_0 := B.cells 0 _ rfl
    have B_1 := B.cells 1 _ rfl
    have B_f0 := B.free 0 (by simp)
    have B_f1 := B.free 1 (by simp)
    have B_t := B.there
    have X_0 := X.cells 0 _ rfl
    have X_1 := X.cells 1 _ rfl
    have X_f0 := X.free 0 (by simp)
    have X_f1 := X.free 1 (by simp)
    have X_t := X.there
    have G_0 := G.cells 0 _ rfl
    have G_1 := G.cells 1 _ rfl
    have G_f0 := G.free 0 (by simp)
    have G_f1 := G.free 1 (by simp)
    have G_t := G.there
    go_wp2_with fail
    refine (SSun.eqS_any _ _ _ _ m m _ (Rd.of_own hp) (Rd.of_own ho2) HN'.out HN'.out).mono ?_
    rintro e v13 ⟨rfl, hv13⟩
    clear B_0 B_1 B_f0 B_f1 B_t
    clear X_0 X_1 X_f0 X_f1 X_t
    clear G_0 G_1 G_f0 G_f1 G_t
    replace B := B.more hv13
    replace X := X.more hv13
    replace G := G.more hv13
    replace ho := own_keep ho hv13
    replace hp := own_keep hp hv13
    have zhv13 := hv13.size
    clear hv13
    have B_0 := B.cells 0 _ rfl
    have B_1 := B.cells 1 _ rfl
    have B_f0 := B.free 0 (by simp)
    have B_f1 := B.free 1 (by simp)
    have B_t := B.there
    have X_0 := X.cells 0 _ rfl
    have X_1 := X.cells 1 _ rfl
    have X_f0 := X.free 0 (by simp)
    have X_f1 := X.free 1 (by simp)
    have X_t := X.there
    have G_0 := G.cells 0 _ rfl
    have G_1 := G.cells 1 _ rfl
    have G_f0 := G.free 0 (by simp)
    have G_f1 := G.free 1 (by simp)
    have G_t := G.there
    rw [decide_eq_true rfl]
    go_wp2
    go_ret
    exact ⟨rfl, B.below⟩
end Go.Proofs.Ytpbmncecejchjaa.Laws9c
