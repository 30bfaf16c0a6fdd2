/- The law on RungsFor, walked. Made by tools/mk_law13.py. -/
import Derived.Test.YtngominkeammiaaLadW
import Derived.Test.YtngominkeammiaaLaws13a
import Derived.Test.YtngominkeammiaaRegn3
namespace Go.Proofs.Ytngominkeammiaa.Laws13c
open Go.RowKit Go.Proofs.Ytngominkeammiaa.Mem Go.Proofs.Ytngominkeammiaa.Base Go.Proofs.Ytngominkeammiaa.SRung Go.Proofs.Ytngominkeammiaa.Regn Go.Proofs.Ytngominkeammiaa.Boxes Go.Proofs.Ytngominkeammiaa.Keep Go.Proofs.Ytngominkeammiaa.LadP
set_option linter.unusedVariables false
set_option linter.unusedSimpArgs false
set_option maxRecDepth 100000
abbrev Yes := Laws13a.Yes
theorem for_len (l : List SRung.R) (a c : Int) : (forL l a c).length ≤ 100 := by
  unfold forL
  split
  · rename_i h
    unfold forOk at h
    rw [Bool.and_eq_true] at h
    have h8 := (good_all h.1).2.1
    have := pick_len (onP l a c) l.length
    omega
  · simp
set_option maxHeartbeats 8000000 in
theorem for_law (P : Option Addr) (cap : Nat) (l : List SRung.R) (p q : Int) (w : World) (hr : Rd w w.heap.size P (SRung.flat l)) (hn : l.length ≤ maxLen) :
    Calls Try.prog 8 #[.slice P l.length cap, .agg #[.int .i64 p, .int .i64 q]] w (Yes w) := by
  have HN := Lib.hid hn
  unfold maxLen at hn
  by_cases hbig : 1048576 < l.length
  · have HS := Lib.hid (show SRung.szV 1048576 l.length = -1 by unfold SRung.szV; rw [if_pos (by omega)])
    go_enter Try.func8, Try.ntmps8
    go_wp2_with fail
    have B := Box.new (Below.refl _ w) [.int .i64 p, .int .i64 q] 69 (g := w.heap.size) rfl
    generalize (w.alloc (.cells #[.int .i64 p, .int .i64 q] 69)) = W1 at B ⊢
    have B_0 := B.cells 0 _ rfl
    have B_1 := B.cells 1 _ rfl
    have B_f0 := B.free 0 (by simp)
    have B_f1 := B.free 1 (by simp)
    have B_t := B.there
    go_wp2_with fail
    refine (SRung.szS_any P cap l.length 1048576 _ (by omega) (by omega) HN.out).mono ?_
    rintro e _ ⟨rfl, rfl⟩
    rw [HS.out]
    go_wp2
    go_ret
    exact ⟨rfl, B.below⟩
  · have HS := Lib.hid (show SRung.szV 1048576 l.length = 1048576 - l.length by unfold SRung.szV; rw [if_neg (by omega)])
    have hs := fun P cap w hr => LadW.for_spec P cap l p q w hr (by omega)
    have hi := fun P cap w hr hc => LadW.for_impl P cap l p q w hr hc (by omega)
    have hm : (forL l p q).length ≤ 100 := for_len l p q
    unfold LadW.IxPost at hs hi
    generalize forL l p q = M at hs hi hm
    generalize forOk l p q = z at hs hi
    have HSP := Lib.hid hs; clear hs
    have HIM := Lib.hid hi; clear hi
    have HM := Lib.hid (show M.length ≤ maxLen by unfold maxLen; omega)
    have hk1 : decide ((1 : Int) + l.length * 2 < 0) = false := decide_eq_false (by omega)
    go_enter Try.func8, Try.ntmps8
    go_wp2_with fail
    have B := Box.new (Below.refl _ w) [.int .i64 p, .int .i64 q] 69 (g := w.heap.size) rfl
    generalize (w.alloc (.cells #[.int .i64 p, .int .i64 q] 69)) = W1 at B ⊢
    have B_0 := B.cells 0 _ rfl
    have B_1 := B.cells 1 _ rfl
    have B_f0 := B.free 0 (by simp)
    have B_f1 := B.free 1 (by simp)
    have B_t := B.there
    go_wp2_with fail
    refine (SRung.szS_any P cap l.length 1048576 _ (by omega) (by omega) HN.out).mono ?_
    rintro e _ ⟨rfl, rfl⟩
    rw [HS.out]
    go_wp2
    clear B_0 B_1 B_f0 B_f1 B_t
    refine wp_region_rel [22, 23, 24, 25, 26, 21, 27, 28, 6, 7] (fun L f w' => (Box (w.heap.size) [.int .i64 p, .int .i64 q] w w') ∧ (L 0 → f 22 = .slice P l.length cap) ∧ (L 1 → ¬ L 4 → ∃ g, f 23 = .slice (some ⟨g, 0, none⟩) l.length l.length ∧ w'.ownsRow w.heap.size 54 2 (.slice (some ⟨g, 0, none⟩) l.length l.length) l.length (SRung.flat l)) ∧ (L 2 → f 24 = .agg #[.int .i64 p, .int .i64 q]) ∧ (L 3 → f 25 = .agg #[.int .i64 p, .int .i64 q]) ∧ (L 4 → ∃ A9 k9, f 26 = .tuple #[.slice A9 M.length k9, .bool z] ∧ w'.ownsRow w.heap.size 3 1 (.slice A9 M.length k9) M.length (SInt.iv M)) ∧ (L 5 → ∃ A9 k9, f 21 = .tuple #[.slice A9 M.length k9, .bool z] ∧ w'.ownsRow w.heap.size 3 1 (.slice A9 M.length k9) M.length (SInt.iv M)) ∧ (L 6 → ∃ A9 k9, f 27 = .slice A9 M.length k9 ∧ w'.ownsRow w.heap.size 3 1 (.slice A9 M.length k9) M.length (SInt.iv M)) ∧ (L 7 → f 28 = .bool z) ∧ (L 8 → ∃ A9 k9, f 6 = .slice A9 M.length k9 ∧ w'.ownsRow w.heap.size 3 1 (.slice A9 M.length k9) M.length (SInt.iv M)) ∧ (L 9 → f 7 = .bool z)) (by kernel_rfl) (by kernel_rfl) (by kernel_rfl) (fun f => ⟨B.drew, fun h => h.elim, fun h => h.elim, fun h => h.elim, fun h => h.elim, fun h => h.elim, fun h => h.elim, fun h => h.elim, fun h => h.elim, fun h => h.elim, fun h => h.elim⟩) ?_ ?_
    · apply RelH.op2
      · intro L f u K hN hS hK
        simp only [puts, Act.put, List.setIfInBounds_toArray, List.set_cons_zero, List.set_cons_succ, upd, Nat.reduceEqDiff, ↓reduceIte, if_true, if_false] at hK ⊢
        have HS9 := Lib.hid hS
        obtain ⟨qB, c0, c1, c2, c3, c4, c5, c6, c7, c8, c9⟩ := hS
        clear c0 c1 c2 c3 c4 c5 c6 c7 c8 c9
        go_simp
        obtain ⟨qB, c0, c1, c2, c3, c4, c5, c6, c7, c8, c9⟩ := HS9.out
        exact hK.out _ _ ⟨qB, fun _ => rfl, fun h t0 => c1 (h.resolve_right (by decide)) (fun z => t0 (.inl z)), fun h => c2 (h.resolve_right (by decide)), fun h => c3 (h.resolve_right (by decide)), fun h => c4 (h.resolve_right (by decide)), fun h => c5 (h.resolve_right (by decide)), fun h => c6 (h.resolve_right (by decide)), fun h => c7 (h.resolve_right (by decide)), fun h => c8 (h.resolve_right (by decide)), fun h => c9 (h.resolve_right (by decide))⟩ _ rfl
      apply RelH.op2
      · intro L f u K hN hS hK
        simp only [puts, Act.put, List.setIfInBounds_toArray, List.set_cons_zero, List.set_cons_succ, upd, Nat.reduceEqDiff, ↓reduceIte, if_true, if_false] at hK ⊢
        have HS9 := Lib.hid hS
        obtain ⟨qB, c0, c1, c2, c3, c4, c5, c6, c7, c8, c9⟩ := hS
        have e0 := c0 (hN.out.2 0 (by decide +kernel))
        have HCON := Lib.hid (SRung.toS_any P cap l u (rd_keep hr qB.below) (by omega))
        clear c0 c1 c2 c3 c4 c5 c6 c7 c8 c9
        go_simp
        go_at_call 43
        (with_reducible refine HCON.out.mono ?_)
        rintro e uw1 ⟨rfl, ho, hv⟩
        go_wp2_with fail
        obtain ⟨qB, c0, c1, c2, c3, c4, c5, c6, c7, c8, c9⟩ := HS9.out
        exact hK.out _ _ ⟨qB.more hv, fun h => c0 (h.resolve_right (by decide)), fun _ _ => ⟨_, rfl, own_base ho qB.below.size⟩, fun h => c2 (h.resolve_right (by decide)), fun h => c3 (h.resolve_right (by decide)), fun h => (let ⟨A8, k8, e, O8⟩ := (c4 (h.resolve_right (by decide))); ⟨A8, k8, e, own_keep O8 hv⟩), fun h => (let ⟨A8, k8, e, O8⟩ := (c5 (h.resolve_right (by decide))); ⟨A8, k8, e, own_keep O8 hv⟩), fun h => (let ⟨A8, k8, e, O8⟩ := (c6 (h.resolve_right (by decide))); ⟨A8, k8, e, own_keep O8 hv⟩), fun h => c7 (h.resolve_right (by decide)), fun h => (let ⟨A8, k8, e, O8⟩ := (c8 (h.resolve_right (by decide))); ⟨A8, k8, e, own_keep O8 hv⟩), fun h => c9 (h.resolve_right (by decide))⟩ _ (by simp only [e0] <;> rfl)
      apply RelH.op2
      · intro L f u K hN hS hK
        simp only [puts, Act.put, List.setIfInBounds_toArray, List.set_cons_zero, List.set_cons_succ, upd, Nat.reduceEqDiff, ↓reduceIte, if_true, if_false] at hK ⊢
        have HS9 := Lib.hid hS
        obtain ⟨qB, c0, c1, c2, c3, c4, c5, c6, c7, c8, c9⟩ := hS
        have qB_0 := qB.cells 0 _ rfl
        have qB_1 := qB.cells 1 _ rfl
        clear c0 c1 c2 c3 c4 c5 c6 c7 c8 c9
        go_simp
        obtain ⟨qB, c0, c1, c2, c3, c4, c5, c6, c7, c8, c9⟩ := HS9.out
        exact hK.out _ _ ⟨qB, fun h => c0 (h.resolve_right (by decide)), fun h t0 => c1 (h.resolve_right (by decide)) (fun z => t0 (.inl z)), fun _ => rfl, fun h => c3 (h.resolve_right (by decide)), fun h => c4 (h.resolve_right (by decide)), fun h => c5 (h.resolve_right (by decide)), fun h => c6 (h.resolve_right (by decide)), fun h => c7 (h.resolve_right (by decide)), fun h => c8 (h.resolve_right (by decide)), fun h => c9 (h.resolve_right (by decide))⟩ _ rfl
      apply RelH.op2
      · intro L f u K hN hS hK
        simp only [puts, Act.put, List.setIfInBounds_toArray, List.set_cons_zero, List.set_cons_succ, upd, Nat.reduceEqDiff, ↓reduceIte, if_true, if_false] at hK ⊢
        have HS9 := Lib.hid hS
        obtain ⟨qB, c0, c1, c2, c3, c4, c5, c6, c7, c8, c9⟩ := hS
        have e2 := c2 (hN.out.2 2 (by decide +kernel))
        have HCON := Lib.hid (SBrine.to_any ⟨p, q⟩ u)
        clear c0 c1 c2 c3 c4 c5 c6 c7 c8 c9
        go_simp
        go_at_call 53
        (with_reducible refine HCON.out.mono ?_)
        rintro e uw1 ⟨rfl, hv⟩
        unfold SBrine.R.val
        go_wp2_with fail
        obtain ⟨qB, c0, c1, c2, c3, c4, c5, c6, c7, c8, c9⟩ := HS9.out
        exact hK.out _ _ ⟨qB.more hv, fun h => c0 (h.resolve_right (by decide)), fun h t0 => (let ⟨g, e, O⟩ := (c1 (h.resolve_right (by decide)) (fun z => t0 (.inl z))); ⟨g, e, own_keep O hv⟩), fun h => c2 (h.resolve_right (by decide)), fun _ => rfl, fun h => (let ⟨A8, k8, e, O8⟩ := (c4 (h.resolve_right (by decide))); ⟨A8, k8, e, own_keep O8 hv⟩), fun h => (let ⟨A8, k8, e, O8⟩ := (c5 (h.resolve_right (by decide))); ⟨A8, k8, e, own_keep O8 hv⟩), fun h => (let ⟨A8, k8, e, O8⟩ := (c6 (h.resolve_right (by decide))); ⟨A8, k8, e, own_keep O8 hv⟩), fun h => c7 (h.resolve_right (by decide)), fun h => (let ⟨A8, k8, e, O8⟩ := (c8 (h.resolve_right (by decide))); ⟨A8, k8, e, own_keep O8 hv⟩), fun h => c9 (h.resolve_right (by decide))⟩ _ (by simp only [e2] <;> rfl)
      apply RelH.op2
      · intro L f u K hN hS hK
        simp only [puts, Act.put, List.setIfInBounds_toArray, List.set_cons_zero, List.set_cons_succ, upd, Nat.reduceEqDiff, ↓reduceIte, if_true, if_false] at hK ⊢
        have HS9 := Lib.hid hS
        obtain ⟨qB, c0, c1, c2, c3, c4, c5, c6, c7, c8, c9⟩ := hS
        obtain ⟨g, e1, O⟩ := c1 (hN.out.2 1 (by decide +kernel)) (hN.out.1 4 (by decide +kernel))
        have e3 := c3 (hN.out.2 3 (by decide +kernel))
        have HCON := Lib.hid (HSP.out (some ⟨g, 0, none⟩) l.length u (Rd.of_own O))
        clear c0 c1 c2 c3 c4 c5 c6 c7 c8 c9
        go_simp
        go_at_call 23
        (with_reducible refine HCON.out.mono ?_)
        rintro e uw1 ⟨A9, k9, rfl, ho, hv⟩
        go_wp2_with fail
        obtain ⟨qB, c0, c1, c2, c3, c4, c5, c6, c7, c8, c9⟩ := HS9.out
        exact hK.out _ _ ⟨qB.more hv, fun h => c0 (h.resolve_right (by decide)), fun h t0 => (t0 (by simp)).elim, fun h => c2 (h.resolve_right (by decide)), fun h => c3 (h.resolve_right (by decide)), fun _ => ⟨A9, k9, rfl, own_base ho qB.below.size⟩, fun h => (let ⟨A8, k8, e, O8⟩ := (c5 (h.resolve_right (by decide))); ⟨A8, k8, e, own_keep O8 hv⟩), fun h => (let ⟨A8, k8, e, O8⟩ := (c6 (h.resolve_right (by decide))); ⟨A8, k8, e, own_keep O8 hv⟩), fun h => c7 (h.resolve_right (by decide)), fun h => (let ⟨A8, k8, e, O8⟩ := (c8 (h.resolve_right (by decide))); ⟨A8, k8, e, own_keep O8 hv⟩), fun h => c9 (h.resolve_right (by decide))⟩ _ (by simp only [e1, e3] <;> rfl)
      apply RelH.op2
      · intro L f u K hN hS hK
        simp only [puts, Act.put, List.setIfInBounds_toArray, List.set_cons_zero, List.set_cons_succ, upd, Nat.reduceEqDiff, ↓reduceIte, if_true, if_false] at hK ⊢
        have HS9 := Lib.hid hS
        obtain ⟨qB, c0, c1, c2, c3, c4, c5, c6, c7, c8, c9⟩ := hS
        obtain ⟨A9, k9, e4, ho⟩ := c4 (hN.out.2 4 (by decide +kernel))
        clear c0 c1 c2 c3 c4 c5 c6 c7 c8 c9
        go_simp
        obtain ⟨qB, c0, c1, c2, c3, c4, c5, c6, c7, c8, c9⟩ := HS9.out
        exact hK.out _ _ ⟨qB, fun h => c0 (h.resolve_right (by decide)), fun h t0 => c1 (h.resolve_right (by decide)) (fun z => t0 (.inl z)), fun h => c2 (h.resolve_right (by decide)), fun h => c3 (h.resolve_right (by decide)), fun h => c4 (h.resolve_right (by decide)), fun _ => ⟨A9, k9, rfl, ho⟩, fun h => c6 (h.resolve_right (by decide)), fun h => c7 (h.resolve_right (by decide)), fun h => c8 (h.resolve_right (by decide)), fun h => c9 (h.resolve_right (by decide))⟩ _ (by simp only [e4] <;> rfl)
      apply RelH.op2
      · intro L f u K hN hS hK
        simp only [puts, Act.put, List.setIfInBounds_toArray, List.set_cons_zero, List.set_cons_succ, upd, Nat.reduceEqDiff, ↓reduceIte, if_true, if_false] at hK ⊢
        have HS9 := Lib.hid hS
        obtain ⟨qB, c0, c1, c2, c3, c4, c5, c6, c7, c8, c9⟩ := hS
        obtain ⟨A9, k9, e5, ho⟩ := c5 (hN.out.2 5 (by decide +kernel))
        clear c0 c1 c2 c3 c4 c5 c6 c7 c8 c9
        go_simp
        obtain ⟨qB, c0, c1, c2, c3, c4, c5, c6, c7, c8, c9⟩ := HS9.out
        exact hK.out _ _ ⟨qB, fun h => c0 (h.resolve_right (by decide)), fun h t0 => c1 (h.resolve_right (by decide)) (fun z => t0 (.inl z)), fun h => c2 (h.resolve_right (by decide)), fun h => c3 (h.resolve_right (by decide)), fun h => c4 (h.resolve_right (by decide)), fun h => c5 (h.resolve_right (by decide)), fun _ => ⟨A9, k9, rfl, ho⟩, fun h => c7 (h.resolve_right (by decide)), fun h => c8 (h.resolve_right (by decide)), fun h => c9 (h.resolve_right (by decide))⟩ _ (by simp only [e5] <;> rfl)
      apply RelH.op2
      · intro L f u K hN hS hK
        simp only [puts, Act.put, List.setIfInBounds_toArray, List.set_cons_zero, List.set_cons_succ, upd, Nat.reduceEqDiff, ↓reduceIte, if_true, if_false] at hK ⊢
        have HS9 := Lib.hid hS
        obtain ⟨qB, c0, c1, c2, c3, c4, c5, c6, c7, c8, c9⟩ := hS
        obtain ⟨A9, k9, e5, ho⟩ := c5 (hN.out.2 5 (by decide +kernel))
        clear c0 c1 c2 c3 c4 c5 c6 c7 c8 c9
        go_simp
        obtain ⟨qB, c0, c1, c2, c3, c4, c5, c6, c7, c8, c9⟩ := HS9.out
        exact hK.out _ _ ⟨qB, fun h => c0 (h.resolve_right (by decide)), fun h t0 => c1 (h.resolve_right (by decide)) (fun z => t0 (.inl z)), fun h => c2 (h.resolve_right (by decide)), fun h => c3 (h.resolve_right (by decide)), fun h => c4 (h.resolve_right (by decide)), fun h => c5 (h.resolve_right (by decide)), fun h => c6 (h.resolve_right (by decide)), fun _ => rfl, fun h => c8 (h.resolve_right (by decide)), fun h => c9 (h.resolve_right (by decide))⟩ _ (by simp only [e5] <;> rfl)
      apply RelH.op2
      · intro L f u K hN hS hK
        simp only [puts, Act.put, List.setIfInBounds_toArray, List.set_cons_zero, List.set_cons_succ, upd, Nat.reduceEqDiff, ↓reduceIte, if_true, if_false] at hK ⊢
        have HS9 := Lib.hid hS
        obtain ⟨qB, c0, c1, c2, c3, c4, c5, c6, c7, c8, c9⟩ := hS
        obtain ⟨A9, k9, e6, ho⟩ := c6 (hN.out.2 6 (by decide +kernel))
        clear c0 c1 c2 c3 c4 c5 c6 c7 c8 c9
        go_simp
        obtain ⟨qB, c0, c1, c2, c3, c4, c5, c6, c7, c8, c9⟩ := HS9.out
        exact hK.out _ _ ⟨qB, fun h => c0 (h.resolve_right (by decide)), fun h t0 => c1 (h.resolve_right (by decide)) (fun z => t0 (.inl z)), fun h => c2 (h.resolve_right (by decide)), fun h => c3 (h.resolve_right (by decide)), fun h => c4 (h.resolve_right (by decide)), fun h => c5 (h.resolve_right (by decide)), fun h => c6 (h.resolve_right (by decide)), fun h => c7 (h.resolve_right (by decide)), fun _ => ⟨A9, k9, rfl, ho⟩, fun h => c9 (h.resolve_right (by decide))⟩ _ (by simp only [e6] <;> rfl)
      apply RelH.op2
      · intro L f u K hN hS hK
        simp only [puts, Act.put, List.setIfInBounds_toArray, List.set_cons_zero, List.set_cons_succ, upd, Nat.reduceEqDiff, ↓reduceIte, if_true, if_false] at hK ⊢
        have HS9 := Lib.hid hS
        obtain ⟨qB, c0, c1, c2, c3, c4, c5, c6, c7, c8, c9⟩ := hS
        have e7 := c7 (hN.out.2 7 (by decide +kernel))
        clear c0 c1 c2 c3 c4 c5 c6 c7 c8 c9
        go_simp
        obtain ⟨qB, c0, c1, c2, c3, c4, c5, c6, c7, c8, c9⟩ := HS9.out
        exact hK.out _ _ ⟨qB, fun h => c0 (h.resolve_right (by decide)), fun h t0 => c1 (h.resolve_right (by decide)) (fun z => t0 (.inl z)), fun h => c2 (h.resolve_right (by decide)), fun h => c3 (h.resolve_right (by decide)), fun h => c4 (h.resolve_right (by decide)), fun h => c5 (h.resolve_right (by decide)), fun h => c6 (h.resolve_right (by decide)), fun h => c7 (h.resolve_right (by decide)), fun h => c8 (h.resolve_right (by decide)), fun _ => rfl⟩ _ (by simp only [e7] <;> rfl)
      exact RelH.done
    intro L f V0 hL hS
    simp only [puts, Act.put, List.setIfInBounds_toArray, List.set_cons_zero, List.set_cons_succ]
    obtain ⟨qB, c0, c1, c2, c3, c4, c5, c6, c7, c8, c9⟩ := hS
    clear B
    have B := qB; clear qB
    obtain ⟨A0, k0, e8, O0⟩ := c8 (hL 8 (by decide))
    have e9 := c9 (hL 9 (by decide))
    simp only [e8, e9]
    clear e8 e9 c0 c1 c2 c3 c4 c5 c6 c7 c8 c9 hL
    have RL := RdL.of (Rd.of_own O0); clear O0
    have B_0 := B.cells 0 _ rfl
    have B_1 := B.cells 1 _ rfl
    have B_f0 := B.free 0 (by simp)
    have B_f1 := B.free 1 (by simp)
    have B_t := B.there
    have hXB := B.below.size
    have hBt : w.heap.size < V0.heap.size := B.there
    go_wp2_with fail
    go_wp2_with fail
    refine (SRung.toS_any P cap l _ ((hr.below B.below (Nat.le_refl _)).mono B.below.size) (by omega)).mono ?_
    rintro e v3 ⟨rfl, OX, hv3⟩
    clear B_0 B_1 B_f0 B_f1 B_t
    replace B := B.more hv3
    replace RL := rdl_keep RL hv3
    have zhv3 := hv3.size
    clear hv3
    have B_0 := B.cells 0 _ rfl
    have B_1 := B.cells 1 _ rfl
    have B_f0 := B.free 0 (by simp)
    have B_f1 := B.free 1 (by simp)
    have B_t := B.there
    go_wp2_with fail
    refine (SBrine.to_any ⟨p, q⟩ _).mono ?_
    rintro e v4 ⟨rfl, hv4⟩
    clear B_0 B_1 B_f0 B_f1 B_t
    replace B := B.more hv4
    replace RL := rdl_keep RL hv4
    replace OX := own_keep OX hv4
    have zhv4 := hv4.size
    clear hv4
    have B_0 := B.cells 0 _ rfl
    have B_1 := B.cells 1 _ rfl
    have B_f0 := B.free 0 (by simp)
    have B_f1 := B.free 1 (by simp)
    have B_t := B.there
    unfold SBrine.R.val
    clear B_0 B_1 B_f0 B_f1 B_t
    have hXG := own_lt OX
    have hXG2 : V0.heap.size ≤ v4.heap.size := by omega
    go_wp2_with fail
    refine (HIM.out _ _ _ (Rd.of_own OX) (Nat.le_refl _)).mono ?_
    rintro e v5 ⟨A1, k1, rfl, O1, hv5⟩
    replace B := B.more hv5
    replace RL := rdl_keep RL hv5
    replace OX := own_keep OX hv5
    have zhv5 := hv5.size
    clear hv5
    go_wp2_with fail
    refine (SInt.eqS_any A1 A0 k1 k0 M M _ (Rd.of_own O1) RL.rd HM.out HM.out).mono ?_
    rintro e v6 ⟨rfl, hv6⟩
    replace B := B.more hv6
    replace RL := rdl_keep RL hv6
    replace OX := own_keep OX hv6
    replace O1 := own_keep O1 hv6
    have zhv6 := hv6.size
    clear hv6
    rw [decide_eq_true rfl]
    go_wp2_with fail
    refine (SRung.toS_any P cap l _ ((hr.below B.below (Nat.le_refl _)).mono B.below.size) (by omega)).mono ?_
    rintro e v7 ⟨rfl, ho2, hv7⟩
    replace B := B.more hv7
    replace RL := rdl_keep RL hv7
    replace OX := own_keep OX hv7
    replace O1 := own_keep O1 hv7
    have zhv7 := hv7.size
    clear hv7
    go_wp2_with fail
    refine (SRung.eqS_any _ _ _ _ l l _ (Rd.of_own OX) (Rd.of_own ho2) HN.out HN.out).mono ?_
    rintro e v8 ⟨rfl, hv8⟩
    replace B := B.more hv8
    replace RL := rdl_keep RL hv8
    replace OX := own_keep OX hv8
    replace O1 := own_keep O1 hv8
    have zhv8 := hv8.size
    clear hv8
    rw [decide_eq_true rfl]
    clear ho2
    go_wp2_with fail
    refine (SRung.markS_any _ _ V0.heap.size l 1 _ OX (by omega) (by omega) (by omega)).mono ?_
    rintro e v9 ⟨rfl, om, hg⟩
    replace RL := RL.grown hg (fun k hk => by have := row_at hk; omega)
    replace O1 := own_grown O1 hg (fun k hk => by have := row_at hk; omega)
    replace B := B.grown hg (fun k hk => by have := row_at hk; omega)
    clear OX
    clear om hg
    go_wp2_with fail
    refine (SInt.eqS_any A1 A0 k1 k0 M M _ (Rd.of_own O1) RL.rd HM.out HM.out).mono ?_
    rintro e v10 ⟨rfl, hv10⟩
    replace B := B.more hv10
    replace RL := rdl_keep RL hv10
    replace O1 := own_keep O1 hv10
    have zhv10 := hv10.size
    clear hv10
    rw [decide_eq_true rfl]
    go_wp2_with fail
    refine (SInt.markS_any A1 k1 v4.heap.size M 1 _ O1 (by omega) (by omega) (by omega)).mono ?_
    rintro e v11 ⟨rfl, OM, hg⟩
    replace RL := RL.grown hg (fun k hk => by have := own_ge OM k hk; omega)
    replace B := B.grown hg (fun k hk => by have := own_ge OM k hk; omega)
    clear O1
    clear hg
    go_wp2_with fail
    refine (SInt.heldS_any A1 k1 _ 1 M.length _ (Rd.of_own OM) (by omega) (by omega) (by omega)).mono ?_
    rintro e v12 ⟨rfl, hd⟩
    have hd2 := hd.below v11.heap.size; clear hd
    replace B := B.more hd2
    replace RL := rdl_keep RL hd2
    replace OM := own_keep OM hd2
    clear hd2
    go_wp2_with fail
    refine wp_region_rel [80, 81, 82, 83, 84, 79, 85, 86, 14, 15] (fun L f w' => (Box (w.heap.size) [.int .i64 p, .int .i64 q] w w') ∧ (RdL w' V0.heap.size A0 (SInt.iv M)) ∧ (w'.ownsRow v4.heap.size 3 1 (.slice A1 M.length k1) M.length (SInt.iv (SInt.marks 1 M.length))) ∧ (L 0 → f 80 = .slice P l.length cap) ∧ (L 1 → ¬ L 4 → ∃ g, f 81 = .slice (some ⟨g, 0, none⟩) l.length l.length ∧ w'.ownsRow w.heap.size 54 2 (.slice (some ⟨g, 0, none⟩) l.length l.length) l.length (SRung.flat l)) ∧ (L 2 → f 82 = .agg #[.int .i64 p, .int .i64 q]) ∧ (L 3 → f 83 = .agg #[.int .i64 p, .int .i64 q]) ∧ (L 4 → ∃ A9 k9, f 84 = .tuple #[.slice A9 M.length k9, .bool z] ∧ w'.ownsRow w.heap.size 3 1 (.slice A9 M.length k9) M.length (SInt.iv M)) ∧ (L 5 → ∃ A9 k9, f 79 = .tuple #[.slice A9 M.length k9, .bool z] ∧ w'.ownsRow w.heap.size 3 1 (.slice A9 M.length k9) M.length (SInt.iv M)) ∧ (L 6 → ∃ A9 k9, f 85 = .slice A9 M.length k9 ∧ w'.ownsRow w.heap.size 3 1 (.slice A9 M.length k9) M.length (SInt.iv M)) ∧ (L 7 → f 86 = .bool z) ∧ (L 8 → ∃ A9 k9, f 14 = .slice A9 M.length k9 ∧ w'.ownsRow w.heap.size 3 1 (.slice A9 M.length k9) M.length (SInt.iv M)) ∧ (L 9 → f 15 = .bool z)) (by kernel_rfl) (by kernel_rfl) (by kernel_rfl) (fun f => ⟨B.drew, rdl_keep RL (Below.refl _ _).drew, own_keep OM (Below.refl _ _).drew, fun h => h.elim, fun h => h.elim, fun h => h.elim, fun h => h.elim, fun h => h.elim, fun h => h.elim, fun h => h.elim, fun h => h.elim, fun h => h.elim, fun h => h.elim⟩) ?_ ?_
    · apply RelH.op2
      · intro L f u K hN hS hK
        simp only [puts, Act.put, List.setIfInBounds_toArray, List.set_cons_zero, List.set_cons_succ, upd, Nat.reduceEqDiff, ↓reduceIte, if_true, if_false] at hK ⊢
        have HS9 := Lib.hid hS
        obtain ⟨qB, qR, qM, c0, c1, c2, c3, c4, c5, c6, c7, c8, c9⟩ := hS
        clear qR c0 c1 c2 c3 c4 c5 c6 c7 c8 c9
        go_simp
        obtain ⟨qB, qR, qM, c0, c1, c2, c3, c4, c5, c6, c7, c8, c9⟩ := HS9.out
        exact hK.out _ _ ⟨qB, qR, qM, fun _ => rfl, fun h t0 => c1 (h.resolve_right (by decide)) (fun z => t0 (.inl z)), fun h => c2 (h.resolve_right (by decide)), fun h => c3 (h.resolve_right (by decide)), fun h => c4 (h.resolve_right (by decide)), fun h => c5 (h.resolve_right (by decide)), fun h => c6 (h.resolve_right (by decide)), fun h => c7 (h.resolve_right (by decide)), fun h => c8 (h.resolve_right (by decide)), fun h => c9 (h.resolve_right (by decide))⟩ _ rfl
      apply RelH.op2
      · intro L f u K hN hS hK
        simp only [puts, Act.put, List.setIfInBounds_toArray, List.set_cons_zero, List.set_cons_succ, upd, Nat.reduceEqDiff, ↓reduceIte, if_true, if_false] at hK ⊢
        have HS9 := Lib.hid hS
        obtain ⟨qB, qR, qM, c0, c1, c2, c3, c4, c5, c6, c7, c8, c9⟩ := hS
        have e0 := c0 (hN.out.2 0 (by decide +kernel))
        have HCON := Lib.hid (SRung.toS_any P cap l u (rd_keep hr qB.below) (by omega))
        clear qR c0 c1 c2 c3 c4 c5 c6 c7 c8 c9
        go_simp
        go_at_call 43
        (with_reducible refine HCON.out.mono ?_)
        rintro e uw1 ⟨rfl, ho, hv⟩
        go_wp2_with fail
        obtain ⟨qB, qR, qM, c0, c1, c2, c3, c4, c5, c6, c7, c8, c9⟩ := HS9.out
        exact hK.out _ _ ⟨qB.more hv, rdl_keep qR hv, own_keep qM hv, fun h => c0 (h.resolve_right (by decide)), fun _ _ => ⟨_, rfl, own_base ho qB.below.size⟩, fun h => c2 (h.resolve_right (by decide)), fun h => c3 (h.resolve_right (by decide)), fun h => (let ⟨A8, k8, e, O8⟩ := (c4 (h.resolve_right (by decide))); ⟨A8, k8, e, own_keep O8 hv⟩), fun h => (let ⟨A8, k8, e, O8⟩ := (c5 (h.resolve_right (by decide))); ⟨A8, k8, e, own_keep O8 hv⟩), fun h => (let ⟨A8, k8, e, O8⟩ := (c6 (h.resolve_right (by decide))); ⟨A8, k8, e, own_keep O8 hv⟩), fun h => c7 (h.resolve_right (by decide)), fun h => (let ⟨A8, k8, e, O8⟩ := (c8 (h.resolve_right (by decide))); ⟨A8, k8, e, own_keep O8 hv⟩), fun h => c9 (h.resolve_right (by decide))⟩ _ (by simp only [e0] <;> rfl)
      apply RelH.op2
      · intro L f u K hN hS hK
        simp only [puts, Act.put, List.setIfInBounds_toArray, List.set_cons_zero, List.set_cons_succ, upd, Nat.reduceEqDiff, ↓reduceIte, if_true, if_false] at hK ⊢
        have HS9 := Lib.hid hS
        obtain ⟨qB, qR, qM, c0, c1, c2, c3, c4, c5, c6, c7, c8, c9⟩ := hS
        have qB_0 := qB.cells 0 _ rfl
        have qB_1 := qB.cells 1 _ rfl
        clear qR c0 c1 c2 c3 c4 c5 c6 c7 c8 c9
        go_simp
        obtain ⟨qB, qR, qM, c0, c1, c2, c3, c4, c5, c6, c7, c8, c9⟩ := HS9.out
        exact hK.out _ _ ⟨qB, qR, qM, fun h => c0 (h.resolve_right (by decide)), fun h t0 => c1 (h.resolve_right (by decide)) (fun z => t0 (.inl z)), fun _ => rfl, fun h => c3 (h.resolve_right (by decide)), fun h => c4 (h.resolve_right (by decide)), fun h => c5 (h.resolve_right (by decide)), fun h => c6 (h.resolve_right (by decide)), fun h => c7 (h.resolve_right (by decide)), fun h => c8 (h.resolve_right (by decide)), fun h => c9 (h.resolve_right (by decide))⟩ _ rfl
      apply RelH.op2
      · intro L f u K hN hS hK
        simp only [puts, Act.put, List.setIfInBounds_toArray, List.set_cons_zero, List.set_cons_succ, upd, Nat.reduceEqDiff, ↓reduceIte, if_true, if_false] at hK ⊢
        have HS9 := Lib.hid hS
        obtain ⟨qB, qR, qM, c0, c1, c2, c3, c4, c5, c6, c7, c8, c9⟩ := hS
        have e2 := c2 (hN.out.2 2 (by decide +kernel))
        have HCON := Lib.hid (SBrine.to_any ⟨p, q⟩ u)
        clear qR c0 c1 c2 c3 c4 c5 c6 c7 c8 c9
        go_simp
        go_at_call 53
        (with_reducible refine HCON.out.mono ?_)
        rintro e uw1 ⟨rfl, hv⟩
        unfold SBrine.R.val
        go_wp2_with fail
        obtain ⟨qB, qR, qM, c0, c1, c2, c3, c4, c5, c6, c7, c8, c9⟩ := HS9.out
        exact hK.out _ _ ⟨qB.more hv, rdl_keep qR hv, own_keep qM hv, fun h => c0 (h.resolve_right (by decide)), fun h t0 => (let ⟨g, e, O⟩ := (c1 (h.resolve_right (by decide)) (fun z => t0 (.inl z))); ⟨g, e, own_keep O hv⟩), fun h => c2 (h.resolve_right (by decide)), fun _ => rfl, fun h => (let ⟨A8, k8, e, O8⟩ := (c4 (h.resolve_right (by decide))); ⟨A8, k8, e, own_keep O8 hv⟩), fun h => (let ⟨A8, k8, e, O8⟩ := (c5 (h.resolve_right (by decide))); ⟨A8, k8, e, own_keep O8 hv⟩), fun h => (let ⟨A8, k8, e, O8⟩ := (c6 (h.resolve_right (by decide))); ⟨A8, k8, e, own_keep O8 hv⟩), fun h => c7 (h.resolve_right (by decide)), fun h => (let ⟨A8, k8, e, O8⟩ := (c8 (h.resolve_right (by decide))); ⟨A8, k8, e, own_keep O8 hv⟩), fun h => c9 (h.resolve_right (by decide))⟩ _ (by simp only [e2] <;> rfl)
      apply RelH.op2
      · intro L f u K hN hS hK
        simp only [puts, Act.put, List.setIfInBounds_toArray, List.set_cons_zero, List.set_cons_succ, upd, Nat.reduceEqDiff, ↓reduceIte, if_true, if_false] at hK ⊢
        have HS9 := Lib.hid hS
        obtain ⟨qB, qR, qM, c0, c1, c2, c3, c4, c5, c6, c7, c8, c9⟩ := hS
        obtain ⟨g, e1, O⟩ := c1 (hN.out.2 1 (by decide +kernel)) (hN.out.1 4 (by decide +kernel))
        have e3 := c3 (hN.out.2 3 (by decide +kernel))
        have HCON := Lib.hid (HIM.out (some ⟨g, 0, none⟩) l.length u (Rd.of_own O) (Nat.le_refl _))
        clear qR c0 c1 c2 c3 c4 c5 c6 c7 c8 c9
        go_simp
        go_at_call 22
        (with_reducible refine HCON.out.mono ?_)
        rintro e uw1 ⟨A9, k9, rfl, ho, hv⟩
        go_wp2_with fail
        obtain ⟨qB, qR, qM, c0, c1, c2, c3, c4, c5, c6, c7, c8, c9⟩ := HS9.out
        exact hK.out _ _ ⟨qB.more hv, rdl_keep qR hv, own_keep qM hv, fun h => c0 (h.resolve_right (by decide)), fun h t0 => (t0 (by simp)).elim, fun h => c2 (h.resolve_right (by decide)), fun h => c3 (h.resolve_right (by decide)), fun _ => ⟨A9, k9, rfl, own_base ho qB.below.size⟩, fun h => (let ⟨A8, k8, e, O8⟩ := (c5 (h.resolve_right (by decide))); ⟨A8, k8, e, own_keep O8 hv⟩), fun h => (let ⟨A8, k8, e, O8⟩ := (c6 (h.resolve_right (by decide))); ⟨A8, k8, e, own_keep O8 hv⟩), fun h => c7 (h.resolve_right (by decide)), fun h => (let ⟨A8, k8, e, O8⟩ := (c8 (h.resolve_right (by decide))); ⟨A8, k8, e, own_keep O8 hv⟩), fun h => c9 (h.resolve_right (by decide))⟩ _ (by simp only [e1, e3] <;> rfl)
      apply RelH.op2
      · intro L f u K hN hS hK
        simp only [puts, Act.put, List.setIfInBounds_toArray, List.set_cons_zero, List.set_cons_succ, upd, Nat.reduceEqDiff, ↓reduceIte, if_true, if_false] at hK ⊢
        have HS9 := Lib.hid hS
        obtain ⟨qB, qR, qM, c0, c1, c2, c3, c4, c5, c6, c7, c8, c9⟩ := hS
        obtain ⟨A9, k9, e4, ho⟩ := c4 (hN.out.2 4 (by decide +kernel))
        clear qR c0 c1 c2 c3 c4 c5 c6 c7 c8 c9
        go_simp
        obtain ⟨qB, qR, qM, c0, c1, c2, c3, c4, c5, c6, c7, c8, c9⟩ := HS9.out
        exact hK.out _ _ ⟨qB, qR, qM, fun h => c0 (h.resolve_right (by decide)), fun h t0 => c1 (h.resolve_right (by decide)) (fun z => t0 (.inl z)), fun h => c2 (h.resolve_right (by decide)), fun h => c3 (h.resolve_right (by decide)), fun h => c4 (h.resolve_right (by decide)), fun _ => ⟨A9, k9, rfl, ho⟩, fun h => c6 (h.resolve_right (by decide)), fun h => c7 (h.resolve_right (by decide)), fun h => c8 (h.resolve_right (by decide)), fun h => c9 (h.resolve_right (by decide))⟩ _ (by simp only [e4] <;> rfl)
      apply RelH.op2
      · intro L f u K hN hS hK
        simp only [puts, Act.put, List.setIfInBounds_toArray, List.set_cons_zero, List.set_cons_succ, upd, Nat.reduceEqDiff, ↓reduceIte, if_true, if_false] at hK ⊢
        have HS9 := Lib.hid hS
        obtain ⟨qB, qR, qM, c0, c1, c2, c3, c4, c5, c6, c7, c8, c9⟩ := hS
        obtain ⟨A9, k9, e5, ho⟩ := c5 (hN.out.2 5 (by decide +kernel))
        clear qR c0 c1 c2 c3 c4 c5 c6 c7 c8 c9
        go_simp
        obtain ⟨qB, qR, qM, c0, c1, c2, c3, c4, c5, c6, c7, c8, c9⟩ := HS9.out
        exact hK.out _ _ ⟨qB, qR, qM, fun h => c0 (h.resolve_right (by decide)), fun h t0 => c1 (h.resolve_right (by decide)) (fun z => t0 (.inl z)), fun h => c2 (h.resolve_right (by decide)), fun h => c3 (h.resolve_right (by decide)), fun h => c4 (h.resolve_right (by decide)), fun h => c5 (h.resolve_right (by decide)), fun _ => ⟨A9, k9, rfl, ho⟩, fun h => c7 (h.resolve_right (by decide)), fun h => c8 (h.resolve_right (by decide)), fun h => c9 (h.resolve_right (by decide))⟩ _ (by simp only [e5] <;> rfl)
      apply RelH.op2
      · intro L f u K hN hS hK
        simp only [puts, Act.put, List.setIfInBounds_toArray, List.set_cons_zero, List.set_cons_succ, upd, Nat.reduceEqDiff, ↓reduceIte, if_true, if_false] at hK ⊢
        have HS9 := Lib.hid hS
        obtain ⟨qB, qR, qM, c0, c1, c2, c3, c4, c5, c6, c7, c8, c9⟩ := hS
        obtain ⟨A9, k9, e5, ho⟩ := c5 (hN.out.2 5 (by decide +kernel))
        clear qR c0 c1 c2 c3 c4 c5 c6 c7 c8 c9
        go_simp
        obtain ⟨qB, qR, qM, c0, c1, c2, c3, c4, c5, c6, c7, c8, c9⟩ := HS9.out
        exact hK.out _ _ ⟨qB, qR, qM, fun h => c0 (h.resolve_right (by decide)), fun h t0 => c1 (h.resolve_right (by decide)) (fun z => t0 (.inl z)), fun h => c2 (h.resolve_right (by decide)), fun h => c3 (h.resolve_right (by decide)), fun h => c4 (h.resolve_right (by decide)), fun h => c5 (h.resolve_right (by decide)), fun h => c6 (h.resolve_right (by decide)), fun _ => rfl, fun h => c8 (h.resolve_right (by decide)), fun h => c9 (h.resolve_right (by decide))⟩ _ (by simp only [e5] <;> rfl)
      apply RelH.op2
      · intro L f u K hN hS hK
        simp only [puts, Act.put, List.setIfInBounds_toArray, List.set_cons_zero, List.set_cons_succ, upd, Nat.reduceEqDiff, ↓reduceIte, if_true, if_false] at hK ⊢
        have HS9 := Lib.hid hS
        obtain ⟨qB, qR, qM, c0, c1, c2, c3, c4, c5, c6, c7, c8, c9⟩ := hS
        obtain ⟨A9, k9, e6, ho⟩ := c6 (hN.out.2 6 (by decide +kernel))
        clear qR c0 c1 c2 c3 c4 c5 c6 c7 c8 c9
        go_simp
        obtain ⟨qB, qR, qM, c0, c1, c2, c3, c4, c5, c6, c7, c8, c9⟩ := HS9.out
        exact hK.out _ _ ⟨qB, qR, qM, fun h => c0 (h.resolve_right (by decide)), fun h t0 => c1 (h.resolve_right (by decide)) (fun z => t0 (.inl z)), fun h => c2 (h.resolve_right (by decide)), fun h => c3 (h.resolve_right (by decide)), fun h => c4 (h.resolve_right (by decide)), fun h => c5 (h.resolve_right (by decide)), fun h => c6 (h.resolve_right (by decide)), fun h => c7 (h.resolve_right (by decide)), fun _ => ⟨A9, k9, rfl, ho⟩, fun h => c9 (h.resolve_right (by decide))⟩ _ (by simp only [e6] <;> rfl)
      apply RelH.op2
      · intro L f u K hN hS hK
        simp only [puts, Act.put, List.setIfInBounds_toArray, List.set_cons_zero, List.set_cons_succ, upd, Nat.reduceEqDiff, ↓reduceIte, if_true, if_false] at hK ⊢
        have HS9 := Lib.hid hS
        obtain ⟨qB, qR, qM, c0, c1, c2, c3, c4, c5, c6, c7, c8, c9⟩ := hS
        have e7 := c7 (hN.out.2 7 (by decide +kernel))
        clear qR c0 c1 c2 c3 c4 c5 c6 c7 c8 c9
        go_simp
        obtain ⟨qB, qR, qM, c0, c1, c2, c3, c4, c5, c6, c7, c8, c9⟩ := HS9.out
        exact hK.out _ _ ⟨qB, qR, qM, fun h => c0 (h.resolve_right (by decide)), fun h t0 => c1 (h.resolve_right (by decide)) (fun z => t0 (.inl z)), fun h => c2 (h.resolve_right (by decide)), fun h => c3 (h.resolve_right (by decide)), fun h => c4 (h.resolve_right (by decide)), fun h => c5 (h.resolve_right (by decide)), fun h => c6 (h.resolve_right (by decide)), fun h => c7 (h.resolve_right (by decide)), fun h => c8 (h.resolve_right (by decide)), fun _ => rfl⟩ _ (by simp only [e7] <;> rfl)
      exact RelH.done
    intro L f V1 hL hS
    simp only [puts, Act.put, List.setIfInBounds_toArray, List.set_cons_zero, List.set_cons_succ]
    obtain ⟨qB, qR, qM, c0, c1, c2, c3, c4, c5, c6, c7, c8, c9⟩ := hS
    clear B RL OM
    have B := qB; clear qB
    have RL := qR; clear qR
    have OM := qM; clear qM
    obtain ⟨A2, k2, e8, O2⟩ := c8 (hL 8 (by decide))
    have e9 := c9 (hL 9 (by decide))
    simp only [e8, e9]
    clear e8 e9 c0 c1 c2 c3 c4 c5 c6 c7 c8 c9 hL
    go_wp2_with fail
    go_wp2_with fail
    refine (SInt.eqS_any A2 A0 k2 k0 M M _ (Rd.of_own O2) RL.rd HM.out HM.out).mono ?_
    rintro e v13 ⟨rfl, hv13⟩
    replace B := B.more hv13
    replace RL := rdl_keep RL hv13
    replace OM := own_keep OM hv13
    have zhv13 := hv13.size
    clear hv13
    rw [decide_eq_true rfl]
    clear O2
    go_wp2_with fail
    refine (SInt.heldS_any A1 k1 _ 1 M.length _ (Rd.of_own OM) (by omega) (by omega) (by omega)).mono ?_
    rintro e v14 ⟨rfl, hd⟩
    go_wp2
    go_ret
    exact ⟨rfl, be B.below (hd.below _)⟩
end Go.Proofs.Ytngominkeammiaa.Laws13c
