/- The laws on AfterPass and AfterPasses, walked. Made by tools/mk_law8b.py. -/
import Derived.Test.YtciohcipmkhneaaSerA3
import Derived.Test.YtciohcipmkhneaaRegn3
namespace Go.Proofs.Ytciohcipmkhneaa.Laws8b
open Go.RowKit Go.Proofs.Ytciohcipmkhneaa.Mem Go.Proofs.Ytciohcipmkhneaa.Base Go.Proofs.Ytciohcipmkhneaa.SBasin Go.Proofs.Ytciohcipmkhneaa.Regn Go.Proofs.Ytciohcipmkhneaa.Boxes Go.Proofs.Ytciohcipmkhneaa.Keep Go.Proofs.Ytciohcipmkhneaa.Ser Go.Proofs.Ytciohcipmkhneaa.SerQ
set_option linter.unusedVariables false
set_option linter.unusedSimpArgs false
set_option maxRecDepth 100000
/-- What each walk of a law ends in. -/
def Yes (w : World) (e : Ending) (w' : World) : Prop := e = .returned (.bool true) ∧ Below w.heap.size w w'
/-- block g holds a brine. -/
def Tb (g : Nat) (w : World) : Prop := ∃ cur fz, w.heap[g]? = some (.cells cur 26 fz)
theorem Tb.new (u : World) (cs : Array Value) : Tb u.heap.size (u.alloc (.cells cs 26)) := ⟨cs, (0, 0), by show (u.heap.push (.cells cs 26))[u.heap.size]? = _; exact Array.getElem?_push_size⟩
theorem Tb.keep {g : Nat} {w w' : World} (h : Tb g w) (hv : Below w.heap.size w w') : Tb g w' := by
  obtain ⟨c, fz, e⟩ := h
  exact ⟨c, fz, by rw [hv.block g (Array.getElem?_eq_some_iff.1 e).1]; exact e⟩
theorem own_lt2 {w : World} {base : Nat} {e : TypeId} {size n : Nat} {v : Value} {xs : List Value} (h : w.ownsRow base e size v n xs) : ∀ k, v.ownBlock = some k → k < w.heap.size := by
  intro k hk
  rcases h.2 with ⟨rfl, _⟩ | ⟨g, cap, cur, rfl, hb, hg, _⟩
  · simp [Value.ownBlock] at hk
  · simp [Value.ownBlock] at hk
    subst hk
    exact (Array.getElem?_eq_some_iff.1 hg).1
theorem own_tb2 {w : World} {base g size n : Nat} {v : Value} {xs : List Value} (h : w.ownsRow base 50 size v n xs) (T : Tb g w) (a b : Value) : ((w.setCell ⟨g, 0, none⟩ a).setCell ⟨g, 1, none⟩ b).ownsRow base 50 size v n xs := by
  refine ⟨h.1, ?_⟩
  rcases h.2 with h2 | ⟨g', cap, cur, hv, hgb, hh, r⟩
  · exact .inl h2
  · refine .inr ⟨g', cap, cur, hv, hgb, ?_, r⟩
    have hne : g' ≠ g := by
      rintro rfl
      obtain ⟨c, fz, ht⟩ := T
      rw [hh] at ht
      injection ht with ht
      injection ht with _ h2 _
      exact absurd h2 (by decide)
    rw [Below.heap_setCell _ ⟨g, 1, none⟩ b g' hne, Below.heap_setCell w ⟨g, 0, none⟩ a g' hne]; exact hh
theorem rdl_far2 {w : World} {B g : Nat} {A : Option Addr} {xs : List Value} (h : RdL w B A xs) (hg : B ≤ g) (a b : Value) : RdL ((w.setCell ⟨g, 0, none⟩ a).setCell ⟨g, 1, none⟩ b) B A xs :=
  ⟨by rw [size_set', size_set']; exact h.1, h.2.below (((Below.refl B w).setCell (p := ⟨g, 0, none⟩) hg a).setCell (p := ⟨g, 1, none⟩) hg b) (Nat.le_refl _)⟩
set_option maxHeartbeats 8000000 in
theorem one_law (P : Option Addr) (cap : Nat) (l : List SBasin.R) (p q : Int) (n : Int) (w : World) (hr : Rd w w.heap.size P (SBasin.flat l)) (hn : l.length ≤ maxLen) :
    Calls Try.prog 9 #[.slice P l.length cap, .agg #[.int .i64 p, .int .i64 q], .int .i64 n] w (Yes w) := by
  have HN := Lib.hid hn
  unfold maxLen at hn
  by_cases hbig : 1048576 < l.length
  · have HS := Lib.hid (show SBasin.szV 1048576 l.length = -1 by unfold SBasin.szV; rw [if_pos (by omega)])
    go_enter Try.func9, Try.ntmps9
    go_wp2_with fail
    have B := Box.new (Below.refl _ w) [.int .i64 p, .int .i64 q] 83 (g := w.heap.size) rfl
    generalize (w.alloc (.cells #[.int .i64 p, .int .i64 q] 83)) = W1 at B ⊢
    have B_0 := B.cells 0 _ rfl
    have B_1 := B.cells 1 _ rfl
    have B_f0 := B.free 0 (by simp)
    have B_f1 := B.free 1 (by simp)
    have B_t := B.there
    go_wp2_with fail
    refine (SBasin.szS_any P cap l.length 1048576 _ (by omega) (by omega) HN.out).mono ?_
    rintro e _ ⟨rfl, rfl⟩
    rw [HS.out]
    go_wp2
    go_ret
    exact ⟨rfl, B.below⟩
  · have HS := Lib.hid (show SBasin.szV 1048576 l.length = 1048576 - l.length by unfold SBasin.szV; rw [if_neg (by omega)])
    have hs := fun P cap w hr => SerA.one_spec P cap l p q n w hr (by omega)
    have hi := fun P cap w hr hc => SerA3.one_impl P cap l p q n w hr hc (by omega)
    have hm : (runS l p q n 1).l.length ≤ 100 := run_len l p q n 1
    unfold Row3 at hs hi
    generalize (runS l p q n 1).l = M at hs hi hm
    generalize (runS l p q n 1).p = x at hs hi
    generalize (runS l p q n 1).q = y at hs hi
    generalize runOk l p q n 1 = z at hs hi
    have HSP := Lib.hid hs; clear hs
    have HIM := Lib.hid hi; clear hi
    have HM := Lib.hid (show M.length ≤ maxLen by unfold maxLen; omega)
    have hk1 : decide ((1 : Int) + l.length * 3 < 0) = false := decide_eq_false (by omega)
    go_enter Try.func9, Try.ntmps9
    go_wp2_with fail
    have B := Box.new (Below.refl _ w) [.int .i64 p, .int .i64 q] 83 (g := w.heap.size) rfl
    generalize (w.alloc (.cells #[.int .i64 p, .int .i64 q] 83)) = W1 at B ⊢
    have B_0 := B.cells 0 _ rfl
    have B_1 := B.cells 1 _ rfl
    have B_f0 := B.free 0 (by simp)
    have B_f1 := B.free 1 (by simp)
    have B_t := B.there
    go_wp2_with fail
    refine (SBasin.szS_any P cap l.length 1048576 _ (by omega) (by omega) HN.out).mono ?_
    rintro e _ ⟨rfl, rfl⟩
    rw [HS.out]
    go_wp2
    clear B_0 B_1 B_f0 B_f1 B_t
    refine wp_region_rel [27, 28, 29, 30, 31, 32, 26, 33, 34, 35, 9, 8, 10] (fun L f w' => (Box (w.heap.size) [.int .i64 p, .int .i64 q] w w') ∧ (L 0 → f 27 = .slice P l.length cap) ∧ (L 1 → ¬ L 12 → ∃ g, f 28 = .slice (some ⟨g, 0, none⟩) l.length l.length ∧ w'.ownsRow w.heap.size 50 3 (.slice (some ⟨g, 0, none⟩) l.length l.length) l.length (SBasin.flat l)) ∧ (L 2 → f 29 = .agg #[.int .i64 p, .int .i64 q]) ∧ (L 3 → f 30 = .agg #[.int .i64 p, .int .i64 q]) ∧ (L 4 → f 31 = .int .i64 n) ∧ (L 5 → ∃ A9 k9, f 32 = .tuple #[.slice A9 M.length k9, .agg #[.int .i64 x, .int .i64 y], .bool z] ∧ w'.ownsRow w.heap.size 50 3 (.slice A9 M.length k9) M.length (SBasin.flat M)) ∧ (L 6 → ∃ A9 k9, f 26 = .tuple #[.slice A9 M.length k9, .agg #[.int .i64 x, .int .i64 y], .bool z] ∧ w'.ownsRow w.heap.size 50 3 (.slice A9 M.length k9) M.length (SBasin.flat M)) ∧ (L 7 → ∃ A9 k9, f 33 = .slice A9 M.length k9 ∧ w'.ownsRow w.heap.size 50 3 (.slice A9 M.length k9) M.length (SBasin.flat M)) ∧ (L 8 → f 34 = .agg #[.int .i64 x, .int .i64 y]) ∧ (L 9 → f 35 = .bool z) ∧ (L 10 → ¬ L 12 → ∃ g, f 9 = .pointer (some ⟨g, 0, none⟩) ∧ g ≠ w.heap.size ∧ Tb g w' ∧ Box g [.int .i64 0, .int .i64 0] w w') ∧ (L 11 → ∃ A9 k9, f 8 = .slice A9 M.length k9 ∧ w'.ownsRow w.heap.size 50 3 (.slice A9 M.length k9) M.length (SBasin.flat M)) ∧ (L 12 → ∃ g, f 9 = .pointer (some ⟨g, 0, none⟩) ∧ Box g [.int .i64 x, .int .i64 y] w w') ∧ (L 13 → f 10 = .bool z)) (by kernel_rfl) (by kernel_rfl) (by kernel_rfl) (fun f => ⟨B.drew, fun h => h.elim, fun h => h.elim, fun h => h.elim, fun h => h.elim, fun h => h.elim, fun h => h.elim, fun h => h.elim, fun h => h.elim, fun h => h.elim, fun h => h.elim, fun h => h.elim, fun h => h.elim, fun h => h.elim, fun h => h.elim⟩) ?_ ?_
    · apply RelH.op2
      · intro L f u K hN hS hK
        simp only [puts, Act.put, List.setIfInBounds_toArray, List.set_cons_zero, List.set_cons_succ, upd, Nat.reduceEqDiff, ↓reduceIte, if_true, if_false] at hK ⊢
        have HS9 := Lib.hid hS
        obtain ⟨qB, c0, c1, c2, c3, c4, c5, c6, c7, c8, c9, c10, c11, c12, c13⟩ := hS
        clear c0 c1 c2 c3 c4 c5 c6 c7 c8 c9 c10 c11 c12 c13
        go_simp
        obtain ⟨qB, c0, c1, c2, c3, c4, c5, c6, c7, c8, c9, c10, c11, c12, c13⟩ := HS9.out
        exact hK.out _ _ ⟨qB, fun _ => rfl, fun h t0 => c1 (h.resolve_right (by decide)) (fun z => t0 (.inl z)), fun h => c2 (h.resolve_right (by decide)), fun h => c3 (h.resolve_right (by decide)), fun h => c4 (h.resolve_right (by decide)), fun h => c5 (h.resolve_right (by decide)), fun h => c6 (h.resolve_right (by decide)), fun h => c7 (h.resolve_right (by decide)), fun h => c8 (h.resolve_right (by decide)), fun h => c9 (h.resolve_right (by decide)), fun h t0 => c10 (h.resolve_right (by decide)) (fun z => t0 (.inl z)), fun h => c11 (h.resolve_right (by decide)), fun h => c12 (h.resolve_right (by decide)), fun h => c13 (h.resolve_right (by decide))⟩ _ rfl
      apply RelH.op2
      · intro L f u K hN hS hK
        simp only [puts, Act.put, List.setIfInBounds_toArray, List.set_cons_zero, List.set_cons_succ, upd, Nat.reduceEqDiff, ↓reduceIte, if_true, if_false] at hK ⊢
        have HS9 := Lib.hid hS
        obtain ⟨qB, c0, c1, c2, c3, c4, c5, c6, c7, c8, c9, c10, c11, c12, c13⟩ := hS
        have e0 := c0 (hN.out.2 0 (by decide +kernel))
        have HCON := Lib.hid (SBasin.toS_any P cap l u (rd_keep hr qB.below) (by omega))
        clear c0 c1 c2 c3 c4 c5 c6 c7 c8 c9 c10 c11 c12 c13
        go_simp
        go_at_call 67
        (with_reducible refine HCON.out.mono ?_)
        rintro e uw1 ⟨rfl, ho, hv⟩
        go_wp2_with fail
        obtain ⟨qB, c0, c1, c2, c3, c4, c5, c6, c7, c8, c9, c10, c11, c12, c13⟩ := HS9.out
        exact hK.out _ _ ⟨qB.more hv, fun h => c0 (h.resolve_right (by decide)), fun _ _ => ⟨_, rfl, own_base ho qB.below.size⟩, fun h => c2 (h.resolve_right (by decide)), fun h => c3 (h.resolve_right (by decide)), fun h => c4 (h.resolve_right (by decide)), fun h => (let ⟨A8, k8, e, O8⟩ := (c5 (h.resolve_right (by decide))); ⟨A8, k8, e, own_keep O8 hv⟩), fun h => (let ⟨A8, k8, e, O8⟩ := (c6 (h.resolve_right (by decide))); ⟨A8, k8, e, own_keep O8 hv⟩), fun h => (let ⟨A8, k8, e, O8⟩ := (c7 (h.resolve_right (by decide))); ⟨A8, k8, e, own_keep O8 hv⟩), fun h => c8 (h.resolve_right (by decide)), fun h => c9 (h.resolve_right (by decide)), fun h t0 => (let ⟨g, e, hne, TY, X⟩ := (c10 (h.resolve_right (by decide)) (fun z => t0 (.inl z))); ⟨g, e, hne, TY.keep hv, X.more hv⟩), fun h => (let ⟨A8, k8, e, O8⟩ := (c11 (h.resolve_right (by decide))); ⟨A8, k8, e, own_keep O8 hv⟩), fun h => (let ⟨g, e, X⟩ := (c12 (h.resolve_right (by decide))); ⟨g, e, X.more hv⟩), fun h => c13 (h.resolve_right (by decide))⟩ _ (by simp only [e0])
      apply RelH.op2
      · intro L f u K hN hS hK
        simp only [puts, Act.put, List.setIfInBounds_toArray, List.set_cons_zero, List.set_cons_succ, upd, Nat.reduceEqDiff, ↓reduceIte, if_true, if_false] at hK ⊢
        have HS9 := Lib.hid hS
        obtain ⟨qB, c0, c1, c2, c3, c4, c5, c6, c7, c8, c9, c10, c11, c12, c13⟩ := hS
        have qB_0 := qB.cells 0 _ rfl
        have qB_1 := qB.cells 1 _ rfl
        clear c0 c1 c2 c3 c4 c5 c6 c7 c8 c9 c10 c11 c12 c13
        go_simp
        obtain ⟨qB, c0, c1, c2, c3, c4, c5, c6, c7, c8, c9, c10, c11, c12, c13⟩ := HS9.out
        exact hK.out _ _ ⟨qB, fun h => c0 (h.resolve_right (by decide)), fun h t0 => c1 (h.resolve_right (by decide)) (fun z => t0 (.inl z)), fun _ => rfl, fun h => c3 (h.resolve_right (by decide)), fun h => c4 (h.resolve_right (by decide)), fun h => c5 (h.resolve_right (by decide)), fun h => c6 (h.resolve_right (by decide)), fun h => c7 (h.resolve_right (by decide)), fun h => c8 (h.resolve_right (by decide)), fun h => c9 (h.resolve_right (by decide)), fun h t0 => c10 (h.resolve_right (by decide)) (fun z => t0 (.inl z)), fun h => c11 (h.resolve_right (by decide)), fun h => c12 (h.resolve_right (by decide)), fun h => c13 (h.resolve_right (by decide))⟩ _ rfl
      apply RelH.op2
      · intro L f u K hN hS hK
        simp only [puts, Act.put, List.setIfInBounds_toArray, List.set_cons_zero, List.set_cons_succ, upd, Nat.reduceEqDiff, ↓reduceIte, if_true, if_false] at hK ⊢
        have HS9 := Lib.hid hS
        obtain ⟨qB, c0, c1, c2, c3, c4, c5, c6, c7, c8, c9, c10, c11, c12, c13⟩ := hS
        have e2 := c2 (hN.out.2 2 (by decide +kernel))
        have HCON := Lib.hid (SBrine.to_any ⟨p, q⟩ u)
        clear c0 c1 c2 c3 c4 c5 c6 c7 c8 c9 c10 c11 c12 c13
        go_simp
        go_at_call 70
        (with_reducible refine HCON.out.mono ?_)
        rintro e uw1 ⟨rfl, hv⟩
        unfold SBrine.R.val
        go_wp2_with fail
        obtain ⟨qB, c0, c1, c2, c3, c4, c5, c6, c7, c8, c9, c10, c11, c12, c13⟩ := HS9.out
        exact hK.out _ _ ⟨qB.more hv, fun h => c0 (h.resolve_right (by decide)), fun h t0 => (let ⟨g, e, O⟩ := (c1 (h.resolve_right (by decide)) (fun z => t0 (.inl z))); ⟨g, e, own_keep O hv⟩), fun h => c2 (h.resolve_right (by decide)), fun _ => rfl, fun h => c4 (h.resolve_right (by decide)), fun h => (let ⟨A8, k8, e, O8⟩ := (c5 (h.resolve_right (by decide))); ⟨A8, k8, e, own_keep O8 hv⟩), fun h => (let ⟨A8, k8, e, O8⟩ := (c6 (h.resolve_right (by decide))); ⟨A8, k8, e, own_keep O8 hv⟩), fun h => (let ⟨A8, k8, e, O8⟩ := (c7 (h.resolve_right (by decide))); ⟨A8, k8, e, own_keep O8 hv⟩), fun h => c8 (h.resolve_right (by decide)), fun h => c9 (h.resolve_right (by decide)), fun h t0 => (let ⟨g, e, hne, TY, X⟩ := (c10 (h.resolve_right (by decide)) (fun z => t0 (.inl z))); ⟨g, e, hne, TY.keep hv, X.more hv⟩), fun h => (let ⟨A8, k8, e, O8⟩ := (c11 (h.resolve_right (by decide))); ⟨A8, k8, e, own_keep O8 hv⟩), fun h => (let ⟨g, e, X⟩ := (c12 (h.resolve_right (by decide))); ⟨g, e, X.more hv⟩), fun h => c13 (h.resolve_right (by decide))⟩ _ (by simp only [e2])
      apply RelH.op2
      · intro L f u K hN hS hK
        simp only [puts, Act.put, List.setIfInBounds_toArray, List.set_cons_zero, List.set_cons_succ, upd, Nat.reduceEqDiff, ↓reduceIte, if_true, if_false] at hK ⊢
        have HS9 := Lib.hid hS
        obtain ⟨qB, c0, c1, c2, c3, c4, c5, c6, c7, c8, c9, c10, c11, c12, c13⟩ := hS
        clear c0 c1 c2 c3 c4 c5 c6 c7 c8 c9 c10 c11 c12 c13
        go_simp
        obtain ⟨qB, c0, c1, c2, c3, c4, c5, c6, c7, c8, c9, c10, c11, c12, c13⟩ := HS9.out
        exact hK.out _ _ ⟨qB, fun h => c0 (h.resolve_right (by decide)), fun h t0 => c1 (h.resolve_right (by decide)) (fun z => t0 (.inl z)), fun h => c2 (h.resolve_right (by decide)), fun h => c3 (h.resolve_right (by decide)), fun _ => rfl, fun h => c5 (h.resolve_right (by decide)), fun h => c6 (h.resolve_right (by decide)), fun h => c7 (h.resolve_right (by decide)), fun h => c8 (h.resolve_right (by decide)), fun h => c9 (h.resolve_right (by decide)), fun h t0 => c10 (h.resolve_right (by decide)) (fun z => t0 (.inl z)), fun h => c11 (h.resolve_right (by decide)), fun h => c12 (h.resolve_right (by decide)), fun h => c13 (h.resolve_right (by decide))⟩ _ rfl
      apply RelH.op2
      · intro L f u K hN hS hK
        simp only [puts, Act.put, List.setIfInBounds_toArray, List.set_cons_zero, List.set_cons_succ, upd, Nat.reduceEqDiff, ↓reduceIte, if_true, if_false] at hK ⊢
        have HS9 := Lib.hid hS
        obtain ⟨qB, c0, c1, c2, c3, c4, c5, c6, c7, c8, c9, c10, c11, c12, c13⟩ := hS
        obtain ⟨g, e1, O⟩ := c1 (hN.out.2 1 (by decide +kernel)) (hN.out.1 12 (by decide +kernel))
        have e3 := c3 (hN.out.2 3 (by decide +kernel))
        have e4 := c4 (hN.out.2 4 (by decide +kernel))
        have HCON := Lib.hid (HSP.out (some ⟨g, 0, none⟩) l.length u (Rd.of_own O))
        clear c0 c1 c2 c3 c4 c5 c6 c7 c8 c9 c10 c11 c12 c13
        go_simp
        go_at_call 19
        (with_reducible refine HCON.out.mono ?_)
        rintro e uw1 ⟨A9, k9, rfl, ho, hv⟩
        go_wp2_with fail
        obtain ⟨qB, c0, c1, c2, c3, c4, c5, c6, c7, c8, c9, c10, c11, c12, c13⟩ := HS9.out
        exact hK.out _ _ ⟨qB.more hv, fun h => c0 (h.resolve_right (by decide)), fun h t0 => (let ⟨g, e, O⟩ := (c1 (h.resolve_right (by decide)) (fun z => t0 (.inl z))); ⟨g, e, own_keep O hv⟩), fun h => c2 (h.resolve_right (by decide)), fun h => c3 (h.resolve_right (by decide)), fun h => c4 (h.resolve_right (by decide)), fun _ => ⟨A9, k9, rfl, own_base ho qB.below.size⟩, fun h => (let ⟨A8, k8, e, O8⟩ := (c6 (h.resolve_right (by decide))); ⟨A8, k8, e, own_keep O8 hv⟩), fun h => (let ⟨A8, k8, e, O8⟩ := (c7 (h.resolve_right (by decide))); ⟨A8, k8, e, own_keep O8 hv⟩), fun h => c8 (h.resolve_right (by decide)), fun h => c9 (h.resolve_right (by decide)), fun h t0 => (let ⟨g, e, hne, TY, X⟩ := (c10 (h.resolve_right (by decide)) (fun z => t0 (.inl z))); ⟨g, e, hne, TY.keep hv, X.more hv⟩), fun h => (let ⟨A8, k8, e, O8⟩ := (c11 (h.resolve_right (by decide))); ⟨A8, k8, e, own_keep O8 hv⟩), fun h => (let ⟨g, e, X⟩ := (c12 (h.resolve_right (by decide))); ⟨g, e, X.more hv⟩), fun h => c13 (h.resolve_right (by decide))⟩ _ (by simp only [e1, e3, e4])
      apply RelH.op2
      · intro L f u K hN hS hK
        simp only [puts, Act.put, List.setIfInBounds_toArray, List.set_cons_zero, List.set_cons_succ, upd, Nat.reduceEqDiff, ↓reduceIte, if_true, if_false] at hK ⊢
        have HS9 := Lib.hid hS
        obtain ⟨qB, c0, c1, c2, c3, c4, c5, c6, c7, c8, c9, c10, c11, c12, c13⟩ := hS
        obtain ⟨A9, k9, e5, ho⟩ := c5 (hN.out.2 5 (by decide +kernel))
        clear c0 c1 c2 c3 c4 c5 c6 c7 c8 c9 c10 c11 c12 c13
        go_simp
        obtain ⟨qB, c0, c1, c2, c3, c4, c5, c6, c7, c8, c9, c10, c11, c12, c13⟩ := HS9.out
        exact hK.out _ _ ⟨qB, fun h => c0 (h.resolve_right (by decide)), fun h t0 => c1 (h.resolve_right (by decide)) (fun z => t0 (.inl z)), fun h => c2 (h.resolve_right (by decide)), fun h => c3 (h.resolve_right (by decide)), fun h => c4 (h.resolve_right (by decide)), fun h => c5 (h.resolve_right (by decide)), fun _ => ⟨A9, k9, rfl, ho⟩, fun h => c7 (h.resolve_right (by decide)), fun h => c8 (h.resolve_right (by decide)), fun h => c9 (h.resolve_right (by decide)), fun h t0 => c10 (h.resolve_right (by decide)) (fun z => t0 (.inl z)), fun h => c11 (h.resolve_right (by decide)), fun h => c12 (h.resolve_right (by decide)), fun h => c13 (h.resolve_right (by decide))⟩ _ (by simp only [e5])
      apply RelH.op2
      · intro L f u K hN hS hK
        simp only [puts, Act.put, List.setIfInBounds_toArray, List.set_cons_zero, List.set_cons_succ, upd, Nat.reduceEqDiff, ↓reduceIte, if_true, if_false] at hK ⊢
        have HS9 := Lib.hid hS
        obtain ⟨qB, c0, c1, c2, c3, c4, c5, c6, c7, c8, c9, c10, c11, c12, c13⟩ := hS
        obtain ⟨A9, k9, e6, ho⟩ := c6 (hN.out.2 6 (by decide +kernel))
        clear c0 c1 c2 c3 c4 c5 c6 c7 c8 c9 c10 c11 c12 c13
        go_simp
        obtain ⟨qB, c0, c1, c2, c3, c4, c5, c6, c7, c8, c9, c10, c11, c12, c13⟩ := HS9.out
        exact hK.out _ _ ⟨qB, fun h => c0 (h.resolve_right (by decide)), fun h t0 => c1 (h.resolve_right (by decide)) (fun z => t0 (.inl z)), fun h => c2 (h.resolve_right (by decide)), fun h => c3 (h.resolve_right (by decide)), fun h => c4 (h.resolve_right (by decide)), fun h => c5 (h.resolve_right (by decide)), fun h => c6 (h.resolve_right (by decide)), fun _ => ⟨A9, k9, rfl, ho⟩, fun h => c8 (h.resolve_right (by decide)), fun h => c9 (h.resolve_right (by decide)), fun h t0 => c10 (h.resolve_right (by decide)) (fun z => t0 (.inl z)), fun h => c11 (h.resolve_right (by decide)), fun h => c12 (h.resolve_right (by decide)), fun h => c13 (h.resolve_right (by decide))⟩ _ (by simp only [e6])
      apply RelH.op2
      · intro L f u K hN hS hK
        simp only [puts, Act.put, List.setIfInBounds_toArray, List.set_cons_zero, List.set_cons_succ, upd, Nat.reduceEqDiff, ↓reduceIte, if_true, if_false] at hK ⊢
        have HS9 := Lib.hid hS
        obtain ⟨qB, c0, c1, c2, c3, c4, c5, c6, c7, c8, c9, c10, c11, c12, c13⟩ := hS
        obtain ⟨A9, k9, e6, ho⟩ := c6 (hN.out.2 6 (by decide +kernel))
        clear c0 c1 c2 c3 c4 c5 c6 c7 c8 c9 c10 c11 c12 c13
        go_simp
        obtain ⟨qB, c0, c1, c2, c3, c4, c5, c6, c7, c8, c9, c10, c11, c12, c13⟩ := HS9.out
        exact hK.out _ _ ⟨qB, fun h => c0 (h.resolve_right (by decide)), fun h t0 => c1 (h.resolve_right (by decide)) (fun z => t0 (.inl z)), fun h => c2 (h.resolve_right (by decide)), fun h => c3 (h.resolve_right (by decide)), fun h => c4 (h.resolve_right (by decide)), fun h => c5 (h.resolve_right (by decide)), fun h => c6 (h.resolve_right (by decide)), fun h => c7 (h.resolve_right (by decide)), fun _ => rfl, fun h => c9 (h.resolve_right (by decide)), fun h t0 => c10 (h.resolve_right (by decide)) (fun z => t0 (.inl z)), fun h => c11 (h.resolve_right (by decide)), fun h => c12 (h.resolve_right (by decide)), fun h => c13 (h.resolve_right (by decide))⟩ _ (by simp only [e6])
      apply RelH.op2
      · intro L f u K hN hS hK
        simp only [puts, Act.put, List.setIfInBounds_toArray, List.set_cons_zero, List.set_cons_succ, upd, Nat.reduceEqDiff, ↓reduceIte, if_true, if_false] at hK ⊢
        have HS9 := Lib.hid hS
        obtain ⟨qB, c0, c1, c2, c3, c4, c5, c6, c7, c8, c9, c10, c11, c12, c13⟩ := hS
        obtain ⟨A9, k9, e6, ho⟩ := c6 (hN.out.2 6 (by decide +kernel))
        clear c0 c1 c2 c3 c4 c5 c6 c7 c8 c9 c10 c11 c12 c13
        go_simp
        obtain ⟨qB, c0, c1, c2, c3, c4, c5, c6, c7, c8, c9, c10, c11, c12, c13⟩ := HS9.out
        exact hK.out _ _ ⟨qB, fun h => c0 (h.resolve_right (by decide)), fun h t0 => c1 (h.resolve_right (by decide)) (fun z => t0 (.inl z)), fun h => c2 (h.resolve_right (by decide)), fun h => c3 (h.resolve_right (by decide)), fun h => c4 (h.resolve_right (by decide)), fun h => c5 (h.resolve_right (by decide)), fun h => c6 (h.resolve_right (by decide)), fun h => c7 (h.resolve_right (by decide)), fun h => c8 (h.resolve_right (by decide)), fun _ => rfl, fun h t0 => c10 (h.resolve_right (by decide)) (fun z => t0 (.inl z)), fun h => c11 (h.resolve_right (by decide)), fun h => c12 (h.resolve_right (by decide)), fun h => c13 (h.resolve_right (by decide))⟩ _ (by simp only [e6])
      apply RelH.op2
      · intro L f u K hN hS hK
        simp only [puts, Act.put, List.setIfInBounds_toArray, List.set_cons_zero, List.set_cons_succ, upd, Nat.reduceEqDiff, ↓reduceIte, if_true, if_false] at hK ⊢
        have HS9 := Lib.hid hS
        obtain ⟨qB, c0, c1, c2, c3, c4, c5, c6, c7, c8, c9, c10, c11, c12, c13⟩ := hS
        have hv : Below u.heap.size u (u.alloc (.cells #[.int .i64 0, .int .i64 0] 26)) := al (Below.refl _ _)
        have hX := Box.new qB.below [.int .i64 0, .int .i64 0] 26 (g := u.heap.size) rfl
        have hTB := Tb.new u #[.int .i64 0, .int .i64 0]
        have hne : u.heap.size ≠ w.heap.size := by have := qB.there; omega
        clear c0 c1 c2 c3 c4 c5 c6 c7 c8 c9 c10 c11 c12 c13
        go_simp
        obtain ⟨qB, c0, c1, c2, c3, c4, c5, c6, c7, c8, c9, c10, c11, c12, c13⟩ := HS9.out
        exact hK.out _ _ ⟨qB.more hv, fun h => c0 (h.resolve_right (by decide)), fun h t0 => (let ⟨g, e, O⟩ := (c1 (h.resolve_right (by decide)) (fun z => t0 (.inl z))); ⟨g, e, own_keep O hv⟩), fun h => c2 (h.resolve_right (by decide)), fun h => c3 (h.resolve_right (by decide)), fun h => c4 (h.resolve_right (by decide)), fun h => (let ⟨A8, k8, e, O8⟩ := (c5 (h.resolve_right (by decide))); ⟨A8, k8, e, own_keep O8 hv⟩), fun h => (let ⟨A8, k8, e, O8⟩ := (c6 (h.resolve_right (by decide))); ⟨A8, k8, e, own_keep O8 hv⟩), fun h => (let ⟨A8, k8, e, O8⟩ := (c7 (h.resolve_right (by decide))); ⟨A8, k8, e, own_keep O8 hv⟩), fun h => c8 (h.resolve_right (by decide)), fun h => c9 (h.resolve_right (by decide)), fun _ _ => ⟨_, rfl, hne, hTB, hX⟩, fun h => (let ⟨A8, k8, e, O8⟩ := (c11 (h.resolve_right (by decide))); ⟨A8, k8, e, own_keep O8 hv⟩), fun h => absurd (h.resolve_right (by decide)) (hN.out.1 12 (by decide +kernel)), fun h => c13 (h.resolve_right (by decide))⟩ _ rfl
      apply RelH.op2
      · intro L f u K hN hS hK
        simp only [puts, Act.put, List.setIfInBounds_toArray, List.set_cons_zero, List.set_cons_succ, upd, Nat.reduceEqDiff, ↓reduceIte, if_true, if_false] at hK ⊢
        have HS9 := Lib.hid hS
        obtain ⟨qB, c0, c1, c2, c3, c4, c5, c6, c7, c8, c9, c10, c11, c12, c13⟩ := hS
        obtain ⟨A9, k9, e7, ho⟩ := c7 (hN.out.2 7 (by decide +kernel))
        clear c0 c1 c2 c3 c4 c5 c6 c7 c8 c9 c10 c11 c12 c13
        go_simp
        obtain ⟨qB, c0, c1, c2, c3, c4, c5, c6, c7, c8, c9, c10, c11, c12, c13⟩ := HS9.out
        exact hK.out _ _ ⟨qB, fun h => c0 (h.resolve_right (by decide)), fun h t0 => c1 (h.resolve_right (by decide)) (fun z => t0 (.inl z)), fun h => c2 (h.resolve_right (by decide)), fun h => c3 (h.resolve_right (by decide)), fun h => c4 (h.resolve_right (by decide)), fun h => c5 (h.resolve_right (by decide)), fun h => c6 (h.resolve_right (by decide)), fun h => c7 (h.resolve_right (by decide)), fun h => c8 (h.resolve_right (by decide)), fun h => c9 (h.resolve_right (by decide)), fun h t0 => c10 (h.resolve_right (by decide)) (fun z => t0 (.inl z)), fun _ => ⟨A9, k9, rfl, ho⟩, fun h => c12 (h.resolve_right (by decide)), fun h => c13 (h.resolve_right (by decide))⟩ _ (by simp only [e7])
      apply RelH.op2
      · intro L f u K hN hS hK
        simp only [puts, Act.put, List.setIfInBounds_toArray, List.set_cons_zero, List.set_cons_succ, upd, Nat.reduceEqDiff, ↓reduceIte, if_true, if_false] at hK ⊢
        have HS9 := Lib.hid hS
        obtain ⟨qB, c0, c1, c2, c3, c4, c5, c6, c7, c8, c9, c10, c11, c12, c13⟩ := hS
        obtain ⟨g, e10, hne, TY, X⟩ := c10 (hN.out.2 10 (by decide +kernel)) (hN.out.1 12 (by decide +kernel))
        have e8 := c8 (hN.out.2 8 (by decide +kernel))
        have X_0 := X.cells 0 _ rfl
        have X_1 := X.cells 1 _ rfl
        have X_f0 := X.free 0 (by simp)
        have X_f1 := X.free 1 (by simp)
        clear c0 c1 c2 c3 c4 c5 c6 c7 c8 c9 c10 c11 c12 c13
        go_simp
        obtain ⟨qB, c0, c1, c2, c3, c4, c5, c6, c7, c8, c9, c10, c11, c12, c13⟩ := HS9.out
        exact hK.out undef _ ⟨(qB.far X.base hne 0 _).far X.base hne 1 _, fun h => c0 (h.resolve_right (by decide)), fun h t0 => (t0 (by simp)).elim, fun h => c2 (h.resolve_right (by decide)), fun h => c3 (h.resolve_right (by decide)), fun h => c4 (h.resolve_right (by decide)), fun h => (let ⟨A8, k8, e, O8⟩ := (c5 (h.resolve_right (by decide))); ⟨A8, k8, e, own_tb2 O8 TY _ _⟩), fun h => (let ⟨A8, k8, e, O8⟩ := (c6 (h.resolve_right (by decide))); ⟨A8, k8, e, own_tb2 O8 TY _ _⟩), fun h => (let ⟨A8, k8, e, O8⟩ := (c7 (h.resolve_right (by decide))); ⟨A8, k8, e, own_tb2 O8 TY _ _⟩), fun h => c8 (h.resolve_right (by decide)), fun h => c9 (h.resolve_right (by decide)), fun h t0 => (t0 (by simp)).elim, fun h => (let ⟨A8, k8, e, O8⟩ := (c11 (h.resolve_right (by decide))); ⟨A8, k8, e, own_tb2 O8 TY _ _⟩), fun _ => ⟨g, e10, (X.set 0 (.int .i64 x)).set 1 (.int .i64 y)⟩, fun h => c13 (h.resolve_right (by decide))⟩ _ (by simp only [e10, e8])
      apply RelH.op2
      · intro L f u K hN hS hK
        simp only [puts, Act.put, List.setIfInBounds_toArray, List.set_cons_zero, List.set_cons_succ, upd, Nat.reduceEqDiff, ↓reduceIte, if_true, if_false] at hK ⊢
        have HS9 := Lib.hid hS
        obtain ⟨qB, c0, c1, c2, c3, c4, c5, c6, c7, c8, c9, c10, c11, c12, c13⟩ := hS
        have e9 := c9 (hN.out.2 9 (by decide +kernel))
        clear c0 c1 c2 c3 c4 c5 c6 c7 c8 c9 c10 c11 c12 c13
        go_simp
        obtain ⟨qB, c0, c1, c2, c3, c4, c5, c6, c7, c8, c9, c10, c11, c12, c13⟩ := HS9.out
        exact hK.out _ _ ⟨qB, fun h => c0 (h.resolve_right (by decide)), fun h t0 => c1 (h.resolve_right (by decide)) (fun z => t0 (.inl z)), fun h => c2 (h.resolve_right (by decide)), fun h => c3 (h.resolve_right (by decide)), fun h => c4 (h.resolve_right (by decide)), fun h => c5 (h.resolve_right (by decide)), fun h => c6 (h.resolve_right (by decide)), fun h => c7 (h.resolve_right (by decide)), fun h => c8 (h.resolve_right (by decide)), fun h => c9 (h.resolve_right (by decide)), fun h t0 => c10 (h.resolve_right (by decide)) (fun z => t0 (.inl z)), fun h => c11 (h.resolve_right (by decide)), fun h => c12 (h.resolve_right (by decide)), fun _ => rfl⟩ _ (by simp only [e9])
      exact RelH.done
    intro L f V0 hL hS
    simp only [puts, Act.put, List.setIfInBounds_toArray, List.set_cons_zero, List.set_cons_succ]
    obtain ⟨qB, c0, c1, c2, c3, c4, c5, c6, c7, c8, c9, c10, c11, c12, c13⟩ := hS
    clear B
    have B := qB; clear qB
    obtain ⟨A0, k0, e8, O0⟩ := c11 (hL 11 (by decide))
    obtain ⟨eb, e7, E⟩ := c12 (hL 12 (by decide))
    have e9 := c13 (hL 13 (by decide))
    simp only [e7, e8, e9]
    clear e7 e8 e9
    clear c0 c1 c2 c3 c4 c5 c6 c7 c8 c9 c10 c11 c12 c13 hL
    have RL := RdL.of (Rd.of_own O0); clear O0
    have B_0 := B.cells 0 _ rfl
    have B_1 := B.cells 1 _ rfl
    have B_f0 := B.free 0 (by simp)
    have B_f1 := B.free 1 (by simp)
    have B_t := B.there
    have hXB := B.below.size
    have hBt : w.heap.size < V0.heap.size := B.there
    have hEt : eb < V0.heap.size := E.there
    go_wp2_with fail
    go_wp2_with fail
    refine (SBasin.toS_any P cap l _ ((hr.below B.below (Nat.le_refl _)).mono B.below.size) (by omega)).mono ?_
    rintro e v3 ⟨rfl, OX, hv3⟩
    clear B_0 B_1 B_f0 B_f1 B_t
    replace B := B.more hv3
    replace E := E.more hv3
    replace RL := rdl_keep RL hv3
    have zhv3 := hv3.size
    clear hv3
    have B_0 := B.cells 0 _ rfl
    have B_1 := B.cells 1 _ rfl
    have B_f0 := B.free 0 (by simp)
    have B_f1 := B.free 1 (by simp)
    have B_t := B.there
    go_wp2_with fail
    refine (SBrine.to_any ⟨p, q⟩ _).mono ?_
    rintro e v4 ⟨rfl, hv4⟩
    clear B_0 B_1 B_f0 B_f1 B_t
    replace B := B.more hv4
    replace E := E.more hv4
    replace RL := rdl_keep RL hv4
    replace OX := own_keep OX hv4
    have zhv4 := hv4.size
    clear hv4
    have B_0 := B.cells 0 _ rfl
    have B_1 := B.cells 1 _ rfl
    have B_f0 := B.free 0 (by simp)
    have B_f1 := B.free 1 (by simp)
    have B_t := B.there
    unfold SBrine.R.val
    clear B_0 B_1 B_f0 B_f1 B_t
    have hXG := own_lt OX
    have hXG2 : V0.heap.size ≤ v4.heap.size := by omega
    go_wp2_with fail
    refine (HIM.out _ _ _ (Rd.of_own OX) (Nat.le_refl _)).mono ?_
    rintro e v5 ⟨A1, k1, rfl, O1, hv5⟩
    replace B := B.more hv5
    replace E := E.more hv5
    replace RL := rdl_keep RL hv5
    replace OX := own_keep OX hv5
    have zhv5 := hv5.size
    clear hv5
    have HO1 := own_lt2 O1
    have hGH := (show v4.heap.size ≤ v5.heap.size by omega)
    go_wp2_with fail
    have B_t6 := B.there
    have E_t6 := E.there
    have H := Box.new B.below [.int .i64 x, .int .i64 y] 26 (g := v5.heap.size) rfl
    replace B := (B).alloc (.cells #[.int .i64 x, .int .i64 y] 26)
    replace E := (E).alloc (.cells #[.int .i64 x, .int .i64 y] 26)
    replace RL := rdl_keep RL (al (Below.refl _ _) (o := (.cells #[.int .i64 x, .int .i64 y] 26)))
    replace OX := own_keep OX (al (Below.refl _ _) (o := (.cells #[.int .i64 x, .int .i64 y] 26)))
    replace O1 := own_keep O1 (al (Below.refl _ _) (o := (.cells #[.int .i64 x, .int .i64 y] 26)))
    generalize (v5.alloc (.cells #[.int .i64 x, .int .i64 y] 26)) = W6 at H B E RL OX O1 ⊢
    have B_0 := B.cells 0 _ rfl
    have B_1 := B.cells 1 _ rfl
    have B_f0 := B.free 0 (by simp)
    have B_f1 := B.free 1 (by simp)
    have B_t := B.there
    have E_0 := E.cells 0 _ rfl
    have E_1 := E.cells 1 _ rfl
    have E_f0 := E.free 0 (by simp)
    have E_f1 := E.free 1 (by simp)
    have E_t := E.there
    have H_0 := H.cells 0 _ rfl
    have H_1 := H.cells 1 _ rfl
    have H_f0 := H.free 0 (by simp)
    have H_f1 := H.free 1 (by simp)
    have H_t := H.there
    have E_0 := E.cells 0 _ rfl
    have E_1 := E.cells 1 _ rfl
    have E_f0 := E.free 0 (by simp)
    have E_f1 := E.free 1 (by simp)
    have E_t := E.there
    go_wp2_with fail
    refine (SBasin.eqS_any A1 A0 k1 k0 M M _ (Rd.of_own O1) RL.rd HM.out HM.out).mono ?_
    rintro e v7 ⟨rfl, hv7⟩
    clear B_0 B_1 B_f0 B_f1 B_t
    clear E_0 E_1 E_f0 E_f1 E_t
    clear H_0 H_1 H_f0 H_f1 H_t
    replace B := B.more hv7
    replace E := E.more hv7
    replace H := H.more hv7
    replace RL := rdl_keep RL hv7
    replace OX := own_keep OX hv7
    replace O1 := own_keep O1 hv7
    have zhv7 := hv7.size
    clear hv7
    have B_0 := B.cells 0 _ rfl
    have B_1 := B.cells 1 _ rfl
    have B_f0 := B.free 0 (by simp)
    have B_f1 := B.free 1 (by simp)
    have B_t := B.there
    have E_0 := E.cells 0 _ rfl
    have E_1 := E.cells 1 _ rfl
    have E_f0 := E.free 0 (by simp)
    have E_f1 := E.free 1 (by simp)
    have E_t := E.there
    have H_0 := H.cells 0 _ rfl
    have H_1 := H.cells 1 _ rfl
    have H_f0 := H.free 0 (by simp)
    have H_f1 := H.free 1 (by simp)
    have H_t := H.there
    rw [decide_eq_true rfl]
    go_wp2_with fail
    refine (SBrine.eq_any ⟨x, y⟩ ⟨x, y⟩ _).mono ?_
    rintro e v8 ⟨rfl, hv8⟩
    clear B_0 B_1 B_f0 B_f1 B_t
    clear E_0 E_1 E_f0 E_f1 E_t
    clear H_0 H_1 H_f0 H_f1 H_t
    replace B := B.more hv8
    replace E := E.more hv8
    replace H := H.more hv8
    replace RL := rdl_keep RL hv8
    replace OX := own_keep OX hv8
    replace O1 := own_keep O1 hv8
    have zhv8 := hv8.size
    clear hv8
    have B_0 := B.cells 0 _ rfl
    have B_1 := B.cells 1 _ rfl
    have B_f0 := B.free 0 (by simp)
    have B_f1 := B.free 1 (by simp)
    have B_t := B.there
    have E_0 := E.cells 0 _ rfl
    have E_1 := E.cells 1 _ rfl
    have E_f0 := E.free 0 (by simp)
    have E_f1 := E.free 1 (by simp)
    have E_t := E.there
    have H_0 := H.cells 0 _ rfl
    have H_1 := H.cells 1 _ rfl
    have H_f0 := H.free 0 (by simp)
    have H_f1 := H.free 1 (by simp)
    have H_t := H.there
    rw [SBrine.same_self]
    go_wp2_with fail
    refine (SBasin.toS_any P cap l _ ((hr.below B.below (Nat.le_refl _)).mono B.below.size) (by omega)).mono ?_
    rintro e v9 ⟨rfl, ho2, hv9⟩
    clear B_0 B_1 B_f0 B_f1 B_t
    clear E_0 E_1 E_f0 E_f1 E_t
    clear H_0 H_1 H_f0 H_f1 H_t
    replace B := B.more hv9
    replace E := E.more hv9
    replace H := H.more hv9
    replace RL := rdl_keep RL hv9
    replace OX := own_keep OX hv9
    replace O1 := own_keep O1 hv9
    have zhv9 := hv9.size
    clear hv9
    have B_0 := B.cells 0 _ rfl
    have B_1 := B.cells 1 _ rfl
    have B_f0 := B.free 0 (by simp)
    have B_f1 := B.free 1 (by simp)
    have B_t := B.there
    have E_0 := E.cells 0 _ rfl
    have E_1 := E.cells 1 _ rfl
    have E_f0 := E.free 0 (by simp)
    have E_f1 := E.free 1 (by simp)
    have E_t := E.there
    have H_0 := H.cells 0 _ rfl
    have H_1 := H.cells 1 _ rfl
    have H_f0 := H.free 0 (by simp)
    have H_f1 := H.free 1 (by simp)
    have H_t := H.there
    go_wp2_with fail
    refine (SBasin.eqS_any _ _ _ _ l l _ (Rd.of_own OX) (Rd.of_own ho2) HN.out HN.out).mono ?_
    rintro e v10 ⟨rfl, hv10⟩
    clear B_0 B_1 B_f0 B_f1 B_t
    clear E_0 E_1 E_f0 E_f1 E_t
    clear H_0 H_1 H_f0 H_f1 H_t
    replace B := B.more hv10
    replace E := E.more hv10
    replace H := H.more hv10
    replace RL := rdl_keep RL hv10
    replace OX := own_keep OX hv10
    replace O1 := own_keep O1 hv10
    have zhv10 := hv10.size
    clear hv10
    have B_0 := B.cells 0 _ rfl
    have B_1 := B.cells 1 _ rfl
    have B_f0 := B.free 0 (by simp)
    have B_f1 := B.free 1 (by simp)
    have B_t := B.there
    have E_0 := E.cells 0 _ rfl
    have E_1 := E.cells 1 _ rfl
    have E_f0 := E.free 0 (by simp)
    have E_f1 := E.free 1 (by simp)
    have E_t := E.there
    have H_0 := H.cells 0 _ rfl
    have H_1 := H.cells 1 _ rfl
    have H_f0 := H.free 0 (by simp)
    have H_f1 := H.free 1 (by simp)
    have H_t := H.there
    rw [decide_eq_true rfl]
    clear ho2
    go_wp2_with fail
    refine (SBasin.markS_any _ _ V0.heap.size l 1 _ OX (by omega) (by omega) (by omega)).mono ?_
    rintro e v11 ⟨rfl, om, hg⟩
    clear E_0 E_1 E_f0 E_f1 E_t
    clear H_0 H_1 H_f0 H_f1 H_t
    replace RL := RL.grown hg (fun k hk => by have := row_at hk; omega)
    replace O1 := own_grown O1 hg (fun k hk => by have := row_at hk; omega)
    replace B := B.grown hg (fun k hk => by have := row_at hk; omega)
    replace E := E.grown hg (fun k hk => by have := row_at hk; omega)
    replace H := box_grown H hg (fun k hk => by have := row_at hk; omega)
    have E_0 := E.cells 0 _ rfl
    have E_1 := E.cells 1 _ rfl
    have E_f0 := E.free 0 (by simp)
    have E_f1 := E.free 1 (by simp)
    have E_t := E.there
    have H_0 := H.cells 0 _ rfl
    have H_1 := H.cells 1 _ rfl
    have H_f0 := H.free 0 (by simp)
    have H_f1 := H.free 1 (by simp)
    have H_t := H.there
    clear OX
    clear om hg
    go_wp2_with fail
    refine (SBasin.eqS_any A1 A0 k1 k0 M M _ (Rd.of_own O1) RL.rd HM.out HM.out).mono ?_
    rintro e v12 ⟨rfl, hv12⟩
    clear B_0 B_1 B_f0 B_f1 B_t
    clear E_0 E_1 E_f0 E_f1 E_t
    clear H_0 H_1 H_f0 H_f1 H_t
    replace B := B.more hv12
    replace E := E.more hv12
    replace H := H.more hv12
    replace RL := rdl_keep RL hv12
    replace O1 := own_keep O1 hv12
    have zhv12 := hv12.size
    clear hv12
    have B_0 := B.cells 0 _ rfl
    have B_1 := B.cells 1 _ rfl
    have B_f0 := B.free 0 (by simp)
    have B_f1 := B.free 1 (by simp)
    have B_t := B.there
    have E_0 := E.cells 0 _ rfl
    have E_1 := E.cells 1 _ rfl
    have E_f0 := E.free 0 (by simp)
    have E_f1 := E.free 1 (by simp)
    have E_t := E.there
    have H_0 := H.cells 0 _ rfl
    have H_1 := H.cells 1 _ rfl
    have H_f0 := H.free 0 (by simp)
    have H_f1 := H.free 1 (by simp)
    have H_t := H.there
    rw [decide_eq_true rfl]
    go_wp2_with fail
    refine (SBrine.eq_any ⟨x, y⟩ ⟨x, y⟩ _).mono ?_
    rintro e v13 ⟨rfl, hv13⟩
    clear B_0 B_1 B_f0 B_f1 B_t
    clear E_0 E_1 E_f0 E_f1 E_t
    clear H_0 H_1 H_f0 H_f1 H_t
    replace B := B.more hv13
    replace E := E.more hv13
    replace H := H.more hv13
    replace RL := rdl_keep RL hv13
    replace O1 := own_keep O1 hv13
    have zhv13 := hv13.size
    clear hv13
    have B_0 := B.cells 0 _ rfl
    have B_1 := B.cells 1 _ rfl
    have B_f0 := B.free 0 (by simp)
    have B_f1 := B.free 1 (by simp)
    have B_t := B.there
    have E_0 := E.cells 0 _ rfl
    have E_1 := E.cells 1 _ rfl
    have E_f0 := E.free 0 (by simp)
    have E_f1 := E.free 1 (by simp)
    have E_t := E.there
    have H_0 := H.cells 0 _ rfl
    have H_1 := H.cells 1 _ rfl
    have H_f0 := H.free 0 (by simp)
    have H_f1 := H.free 1 (by simp)
    have H_t := H.there
    rw [SBrine.same_self]
    go_wp2_with fail
    refine (SBasin.markS_any A1 k1 v4.heap.size M 1 _ O1 (by omega) (by omega) (by omega)).mono ?_
    rintro e v14 ⟨rfl, OM, hg⟩
    clear E_0 E_1 E_f0 E_f1 E_t
    clear H_0 H_1 H_f0 H_f1 H_t
    replace RL := RL.grown hg (fun k hk => by have := own_ge OM k hk; omega)
    replace B := B.grown hg (fun k hk => by have := own_ge OM k hk; omega)
    replace E := E.grown hg (fun k hk => by have := own_ge OM k hk; omega)
    replace H := box_grown H hg (fun k hk => by have := own_ge OM k hk; have := HO1 k hk; omega)
    clear O1
    clear hg
    go_wp2_with fail
    refine (SBasin.heldS_any A1 k1 _ 1 M.length _ (Rd.of_own OM) (by omega) (by omega) (by omega)).mono ?_
    rintro e v15 ⟨rfl, hd⟩
    have hd2 := hd.below v14.heap.size; clear hd
    clear B_0 B_1 B_f0 B_f1 B_t
    replace B := B.more hd2
    replace E := E.more hd2
    replace H := H.more hd2
    replace RL := rdl_keep RL hd2
    replace OM := own_keep OM hd2
    clear hd2
    have B_0 := B.cells 0 _ rfl
    have B_1 := B.cells 1 _ rfl
    have B_f0 := B.free 0 (by simp)
    have B_f1 := B.free 1 (by simp)
    have B_t := B.there
    go_wp2_with fail
    clear H
    refine wp_region_rel [101, 102, 103, 104, 105, 106, 100, 107, 108, 109, 19, 18, 20] (fun L f w' => (Box (w.heap.size) [.int .i64 p, .int .i64 q] w w') ∧ (Box eb [.int .i64 x, .int .i64 y] w w') ∧ (RdL w' V0.heap.size A0 (SBasin.flat M)) ∧ (w'.ownsRow v4.heap.size 50 3 (.slice A1 M.length k1) M.length (SBasin.flat (SBasin.marks 1 M.length))) ∧ (L 0 → f 101 = .slice P l.length cap) ∧ (L 1 → ¬ L 12 → ∃ g, f 102 = .slice (some ⟨g, 0, none⟩) l.length l.length ∧ w'.ownsRow w.heap.size 50 3 (.slice (some ⟨g, 0, none⟩) l.length l.length) l.length (SBasin.flat l)) ∧ (L 2 → f 103 = .agg #[.int .i64 p, .int .i64 q]) ∧ (L 3 → f 104 = .agg #[.int .i64 p, .int .i64 q]) ∧ (L 4 → f 105 = .int .i64 n) ∧ (L 5 → ∃ A9 k9, f 106 = .tuple #[.slice A9 M.length k9, .agg #[.int .i64 x, .int .i64 y], .bool z] ∧ w'.ownsRow w.heap.size 50 3 (.slice A9 M.length k9) M.length (SBasin.flat M)) ∧ (L 6 → ∃ A9 k9, f 100 = .tuple #[.slice A9 M.length k9, .agg #[.int .i64 x, .int .i64 y], .bool z] ∧ w'.ownsRow w.heap.size 50 3 (.slice A9 M.length k9) M.length (SBasin.flat M)) ∧ (L 7 → ∃ A9 k9, f 107 = .slice A9 M.length k9 ∧ w'.ownsRow w.heap.size 50 3 (.slice A9 M.length k9) M.length (SBasin.flat M)) ∧ (L 8 → f 108 = .agg #[.int .i64 x, .int .i64 y]) ∧ (L 9 → f 109 = .bool z) ∧ (L 10 → ¬ L 12 → ∃ g, f 19 = .pointer (some ⟨g, 0, none⟩) ∧ g ≠ w.heap.size ∧ g ≠ eb ∧ V0.heap.size ≤ g ∧ Tb g w' ∧ Box g [.int .i64 0, .int .i64 0] w w') ∧ (L 11 → ∃ A9 k9, f 18 = .slice A9 M.length k9 ∧ w'.ownsRow w.heap.size 50 3 (.slice A9 M.length k9) M.length (SBasin.flat M)) ∧ (L 12 → ∃ g, f 19 = .pointer (some ⟨g, 0, none⟩) ∧ Box g [.int .i64 x, .int .i64 y] w w') ∧ (L 13 → f 20 = .bool z)) (by kernel_rfl) (by kernel_rfl) (by kernel_rfl) (fun f => ⟨B.drew, E.drew, rdl_keep RL (Below.refl _ _).drew, own_keep OM (Below.refl _ _).drew, fun h => h.elim, fun h => h.elim, fun h => h.elim, fun h => h.elim, fun h => h.elim, fun h => h.elim, fun h => h.elim, fun h => h.elim, fun h => h.elim, fun h => h.elim, fun h => h.elim, fun h => h.elim, fun h => h.elim, fun h => h.elim⟩) ?_ ?_
    · apply RelH.op2
      · intro L f u K hN hS hK
        simp only [puts, Act.put, List.setIfInBounds_toArray, List.set_cons_zero, List.set_cons_succ, upd, Nat.reduceEqDiff, ↓reduceIte, if_true, if_false] at hK ⊢
        have HS9 := Lib.hid hS
        obtain ⟨qB, qE, qR, qM, c0, c1, c2, c3, c4, c5, c6, c7, c8, c9, c10, c11, c12, c13⟩ := hS
        clear qR c0 c1 c2 c3 c4 c5 c6 c7 c8 c9 c10 c11 c12 c13
        go_simp
        obtain ⟨qB, qE, qR, qM, c0, c1, c2, c3, c4, c5, c6, c7, c8, c9, c10, c11, c12, c13⟩ := HS9.out
        exact hK.out _ _ ⟨qB, qE, qR, qM, fun _ => rfl, fun h t0 => c1 (h.resolve_right (by decide)) (fun z => t0 (.inl z)), fun h => c2 (h.resolve_right (by decide)), fun h => c3 (h.resolve_right (by decide)), fun h => c4 (h.resolve_right (by decide)), fun h => c5 (h.resolve_right (by decide)), fun h => c6 (h.resolve_right (by decide)), fun h => c7 (h.resolve_right (by decide)), fun h => c8 (h.resolve_right (by decide)), fun h => c9 (h.resolve_right (by decide)), fun h t0 => c10 (h.resolve_right (by decide)) (fun z => t0 (.inl z)), fun h => c11 (h.resolve_right (by decide)), fun h => c12 (h.resolve_right (by decide)), fun h => c13 (h.resolve_right (by decide))⟩ _ rfl
      apply RelH.op2
      · intro L f u K hN hS hK
        simp only [puts, Act.put, List.setIfInBounds_toArray, List.set_cons_zero, List.set_cons_succ, upd, Nat.reduceEqDiff, ↓reduceIte, if_true, if_false] at hK ⊢
        have HS9 := Lib.hid hS
        obtain ⟨qB, qE, qR, qM, c0, c1, c2, c3, c4, c5, c6, c7, c8, c9, c10, c11, c12, c13⟩ := hS
        have e0 := c0 (hN.out.2 0 (by decide +kernel))
        have HCON := Lib.hid (SBasin.toS_any P cap l u (rd_keep hr qB.below) (by omega))
        clear qR c0 c1 c2 c3 c4 c5 c6 c7 c8 c9 c10 c11 c12 c13
        go_simp
        go_at_call 67
        (with_reducible refine HCON.out.mono ?_)
        rintro e uw1 ⟨rfl, ho, hv⟩
        go_wp2_with fail
        obtain ⟨qB, qE, qR, qM, c0, c1, c2, c3, c4, c5, c6, c7, c8, c9, c10, c11, c12, c13⟩ := HS9.out
        exact hK.out _ _ ⟨qB.more hv, qE.more hv, rdl_keep qR hv, own_keep qM hv, fun h => c0 (h.resolve_right (by decide)), fun _ _ => ⟨_, rfl, own_base ho qB.below.size⟩, fun h => c2 (h.resolve_right (by decide)), fun h => c3 (h.resolve_right (by decide)), fun h => c4 (h.resolve_right (by decide)), fun h => (let ⟨A8, k8, e, O8⟩ := (c5 (h.resolve_right (by decide))); ⟨A8, k8, e, own_keep O8 hv⟩), fun h => (let ⟨A8, k8, e, O8⟩ := (c6 (h.resolve_right (by decide))); ⟨A8, k8, e, own_keep O8 hv⟩), fun h => (let ⟨A8, k8, e, O8⟩ := (c7 (h.resolve_right (by decide))); ⟨A8, k8, e, own_keep O8 hv⟩), fun h => c8 (h.resolve_right (by decide)), fun h => c9 (h.resolve_right (by decide)), fun h t0 => (let ⟨g, e, hne, hne2, hle, TY, X⟩ := (c10 (h.resolve_right (by decide)) (fun z => t0 (.inl z))); ⟨g, e, hne, hne2, hle, TY.keep hv, X.more hv⟩), fun h => (let ⟨A8, k8, e, O8⟩ := (c11 (h.resolve_right (by decide))); ⟨A8, k8, e, own_keep O8 hv⟩), fun h => (let ⟨g, e, X⟩ := (c12 (h.resolve_right (by decide))); ⟨g, e, X.more hv⟩), fun h => c13 (h.resolve_right (by decide))⟩ _ (by simp only [e0])
      apply RelH.op2
      · intro L f u K hN hS hK
        simp only [puts, Act.put, List.setIfInBounds_toArray, List.set_cons_zero, List.set_cons_succ, upd, Nat.reduceEqDiff, ↓reduceIte, if_true, if_false] at hK ⊢
        have HS9 := Lib.hid hS
        obtain ⟨qB, qE, qR, qM, c0, c1, c2, c3, c4, c5, c6, c7, c8, c9, c10, c11, c12, c13⟩ := hS
        have qB_0 := qB.cells 0 _ rfl
        have qB_1 := qB.cells 1 _ rfl
        clear qR c0 c1 c2 c3 c4 c5 c6 c7 c8 c9 c10 c11 c12 c13
        go_simp
        obtain ⟨qB, qE, qR, qM, c0, c1, c2, c3, c4, c5, c6, c7, c8, c9, c10, c11, c12, c13⟩ := HS9.out
        exact hK.out _ _ ⟨qB, qE, qR, qM, fun h => c0 (h.resolve_right (by decide)), fun h t0 => c1 (h.resolve_right (by decide)) (fun z => t0 (.inl z)), fun _ => rfl, fun h => c3 (h.resolve_right (by decide)), fun h => c4 (h.resolve_right (by decide)), fun h => c5 (h.resolve_right (by decide)), fun h => c6 (h.resolve_right (by decide)), fun h => c7 (h.resolve_right (by decide)), fun h => c8 (h.resolve_right (by decide)), fun h => c9 (h.resolve_right (by decide)), fun h t0 => c10 (h.resolve_right (by decide)) (fun z => t0 (.inl z)), fun h => c11 (h.resolve_right (by decide)), fun h => c12 (h.resolve_right (by decide)), fun h => c13 (h.resolve_right (by decide))⟩ _ rfl
      apply RelH.op2
      · intro L f u K hN hS hK
        simp only [puts, Act.put, List.setIfInBounds_toArray, List.set_cons_zero, List.set_cons_succ, upd, Nat.reduceEqDiff, ↓reduceIte, if_true, if_false] at hK ⊢
        have HS9 := Lib.hid hS
        obtain ⟨qB, qE, qR, qM, c0, c1, c2, c3, c4, c5, c6, c7, c8, c9, c10, c11, c12, c13⟩ := hS
        have e2 := c2 (hN.out.2 2 (by decide +kernel))
        have HCON := Lib.hid (SBrine.to_any ⟨p, q⟩ u)
        clear qR c0 c1 c2 c3 c4 c5 c6 c7 c8 c9 c10 c11 c12 c13
        go_simp
        go_at_call 70
        (with_reducible refine HCON.out.mono ?_)
        rintro e uw1 ⟨rfl, hv⟩
        unfold SBrine.R.val
        go_wp2_with fail
        obtain ⟨qB, qE, qR, qM, c0, c1, c2, c3, c4, c5, c6, c7, c8, c9, c10, c11, c12, c13⟩ := HS9.out
        exact hK.out _ _ ⟨qB.more hv, qE.more hv, rdl_keep qR hv, own_keep qM hv, fun h => c0 (h.resolve_right (by decide)), fun h t0 => (let ⟨g, e, O⟩ := (c1 (h.resolve_right (by decide)) (fun z => t0 (.inl z))); ⟨g, e, own_keep O hv⟩), fun h => c2 (h.resolve_right (by decide)), fun _ => rfl, fun h => c4 (h.resolve_right (by decide)), fun h => (let ⟨A8, k8, e, O8⟩ := (c5 (h.resolve_right (by decide))); ⟨A8, k8, e, own_keep O8 hv⟩), fun h => (let ⟨A8, k8, e, O8⟩ := (c6 (h.resolve_right (by decide))); ⟨A8, k8, e, own_keep O8 hv⟩), fun h => (let ⟨A8, k8, e, O8⟩ := (c7 (h.resolve_right (by decide))); ⟨A8, k8, e, own_keep O8 hv⟩), fun h => c8 (h.resolve_right (by decide)), fun h => c9 (h.resolve_right (by decide)), fun h t0 => (let ⟨g, e, hne, hne2, hle, TY, X⟩ := (c10 (h.resolve_right (by decide)) (fun z => t0 (.inl z))); ⟨g, e, hne, hne2, hle, TY.keep hv, X.more hv⟩), fun h => (let ⟨A8, k8, e, O8⟩ := (c11 (h.resolve_right (by decide))); ⟨A8, k8, e, own_keep O8 hv⟩), fun h => (let ⟨g, e, X⟩ := (c12 (h.resolve_right (by decide))); ⟨g, e, X.more hv⟩), fun h => c13 (h.resolve_right (by decide))⟩ _ (by simp only [e2])
      apply RelH.op2
      · intro L f u K hN hS hK
        simp only [puts, Act.put, List.setIfInBounds_toArray, List.set_cons_zero, List.set_cons_succ, upd, Nat.reduceEqDiff, ↓reduceIte, if_true, if_false] at hK ⊢
        have HS9 := Lib.hid hS
        obtain ⟨qB, qE, qR, qM, c0, c1, c2, c3, c4, c5, c6, c7, c8, c9, c10, c11, c12, c13⟩ := hS
        clear qR c0 c1 c2 c3 c4 c5 c6 c7 c8 c9 c10 c11 c12 c13
        go_simp
        obtain ⟨qB, qE, qR, qM, c0, c1, c2, c3, c4, c5, c6, c7, c8, c9, c10, c11, c12, c13⟩ := HS9.out
        exact hK.out _ _ ⟨qB, qE, qR, qM, fun h => c0 (h.resolve_right (by decide)), fun h t0 => c1 (h.resolve_right (by decide)) (fun z => t0 (.inl z)), fun h => c2 (h.resolve_right (by decide)), fun h => c3 (h.resolve_right (by decide)), fun _ => rfl, fun h => c5 (h.resolve_right (by decide)), fun h => c6 (h.resolve_right (by decide)), fun h => c7 (h.resolve_right (by decide)), fun h => c8 (h.resolve_right (by decide)), fun h => c9 (h.resolve_right (by decide)), fun h t0 => c10 (h.resolve_right (by decide)) (fun z => t0 (.inl z)), fun h => c11 (h.resolve_right (by decide)), fun h => c12 (h.resolve_right (by decide)), fun h => c13 (h.resolve_right (by decide))⟩ _ rfl
      apply RelH.op2
      · intro L f u K hN hS hK
        simp only [puts, Act.put, List.setIfInBounds_toArray, List.set_cons_zero, List.set_cons_succ, upd, Nat.reduceEqDiff, ↓reduceIte, if_true, if_false] at hK ⊢
        have HS9 := Lib.hid hS
        obtain ⟨qB, qE, qR, qM, c0, c1, c2, c3, c4, c5, c6, c7, c8, c9, c10, c11, c12, c13⟩ := hS
        obtain ⟨g, e1, O⟩ := c1 (hN.out.2 1 (by decide +kernel)) (hN.out.1 12 (by decide +kernel))
        have e3 := c3 (hN.out.2 3 (by decide +kernel))
        have e4 := c4 (hN.out.2 4 (by decide +kernel))
        have HCON := Lib.hid (HIM.out (some ⟨g, 0, none⟩) l.length u (Rd.of_own O) (Nat.le_refl _))
        clear qR c0 c1 c2 c3 c4 c5 c6 c7 c8 c9 c10 c11 c12 c13
        go_simp
        go_at_call 18
        (with_reducible refine HCON.out.mono ?_)
        rintro e uw1 ⟨A9, k9, rfl, ho, hv⟩
        go_wp2_with fail
        obtain ⟨qB, qE, qR, qM, c0, c1, c2, c3, c4, c5, c6, c7, c8, c9, c10, c11, c12, c13⟩ := HS9.out
        exact hK.out _ _ ⟨qB.more hv, qE.more hv, rdl_keep qR hv, own_keep qM hv, fun h => c0 (h.resolve_right (by decide)), fun h t0 => (let ⟨g, e, O⟩ := (c1 (h.resolve_right (by decide)) (fun z => t0 (.inl z))); ⟨g, e, own_keep O hv⟩), fun h => c2 (h.resolve_right (by decide)), fun h => c3 (h.resolve_right (by decide)), fun h => c4 (h.resolve_right (by decide)), fun _ => ⟨A9, k9, rfl, own_base ho qB.below.size⟩, fun h => (let ⟨A8, k8, e, O8⟩ := (c6 (h.resolve_right (by decide))); ⟨A8, k8, e, own_keep O8 hv⟩), fun h => (let ⟨A8, k8, e, O8⟩ := (c7 (h.resolve_right (by decide))); ⟨A8, k8, e, own_keep O8 hv⟩), fun h => c8 (h.resolve_right (by decide)), fun h => c9 (h.resolve_right (by decide)), fun h t0 => (let ⟨g, e, hne, hne2, hle, TY, X⟩ := (c10 (h.resolve_right (by decide)) (fun z => t0 (.inl z))); ⟨g, e, hne, hne2, hle, TY.keep hv, X.more hv⟩), fun h => (let ⟨A8, k8, e, O8⟩ := (c11 (h.resolve_right (by decide))); ⟨A8, k8, e, own_keep O8 hv⟩), fun h => (let ⟨g, e, X⟩ := (c12 (h.resolve_right (by decide))); ⟨g, e, X.more hv⟩), fun h => c13 (h.resolve_right (by decide))⟩ _ (by simp only [e1, e3, e4])
      apply RelH.op2
      · intro L f u K hN hS hK
        simp only [puts, Act.put, List.setIfInBounds_toArray, List.set_cons_zero, List.set_cons_succ, upd, Nat.reduceEqDiff, ↓reduceIte, if_true, if_false] at hK ⊢
        have HS9 := Lib.hid hS
        obtain ⟨qB, qE, qR, qM, c0, c1, c2, c3, c4, c5, c6, c7, c8, c9, c10, c11, c12, c13⟩ := hS
        obtain ⟨A9, k9, e5, ho⟩ := c5 (hN.out.2 5 (by decide +kernel))
        clear qR c0 c1 c2 c3 c4 c5 c6 c7 c8 c9 c10 c11 c12 c13
        go_simp
        obtain ⟨qB, qE, qR, qM, c0, c1, c2, c3, c4, c5, c6, c7, c8, c9, c10, c11, c12, c13⟩ := HS9.out
        exact hK.out _ _ ⟨qB, qE, qR, qM, fun h => c0 (h.resolve_right (by decide)), fun h t0 => c1 (h.resolve_right (by decide)) (fun z => t0 (.inl z)), fun h => c2 (h.resolve_right (by decide)), fun h => c3 (h.resolve_right (by decide)), fun h => c4 (h.resolve_right (by decide)), fun h => c5 (h.resolve_right (by decide)), fun _ => ⟨A9, k9, rfl, ho⟩, fun h => c7 (h.resolve_right (by decide)), fun h => c8 (h.resolve_right (by decide)), fun h => c9 (h.resolve_right (by decide)), fun h t0 => c10 (h.resolve_right (by decide)) (fun z => t0 (.inl z)), fun h => c11 (h.resolve_right (by decide)), fun h => c12 (h.resolve_right (by decide)), fun h => c13 (h.resolve_right (by decide))⟩ _ (by simp only [e5])
      apply RelH.op2
      · intro L f u K hN hS hK
        simp only [puts, Act.put, List.setIfInBounds_toArray, List.set_cons_zero, List.set_cons_succ, upd, Nat.reduceEqDiff, ↓reduceIte, if_true, if_false] at hK ⊢
        have HS9 := Lib.hid hS
        obtain ⟨qB, qE, qR, qM, c0, c1, c2, c3, c4, c5, c6, c7, c8, c9, c10, c11, c12, c13⟩ := hS
        obtain ⟨A9, k9, e6, ho⟩ := c6 (hN.out.2 6 (by decide +kernel))
        clear qR c0 c1 c2 c3 c4 c5 c6 c7 c8 c9 c10 c11 c12 c13
        go_simp
        obtain ⟨qB, qE, qR, qM, c0, c1, c2, c3, c4, c5, c6, c7, c8, c9, c10, c11, c12, c13⟩ := HS9.out
        exact hK.out _ _ ⟨qB, qE, qR, qM, fun h => c0 (h.resolve_right (by decide)), fun h t0 => c1 (h.resolve_right (by decide)) (fun z => t0 (.inl z)), fun h => c2 (h.resolve_right (by decide)), fun h => c3 (h.resolve_right (by decide)), fun h => c4 (h.resolve_right (by decide)), fun h => c5 (h.resolve_right (by decide)), fun h => c6 (h.resolve_right (by decide)), fun _ => ⟨A9, k9, rfl, ho⟩, fun h => c8 (h.resolve_right (by decide)), fun h => c9 (h.resolve_right (by decide)), fun h t0 => c10 (h.resolve_right (by decide)) (fun z => t0 (.inl z)), fun h => c11 (h.resolve_right (by decide)), fun h => c12 (h.resolve_right (by decide)), fun h => c13 (h.resolve_right (by decide))⟩ _ (by simp only [e6])
      apply RelH.op2
      · intro L f u K hN hS hK
        simp only [puts, Act.put, List.setIfInBounds_toArray, List.set_cons_zero, List.set_cons_succ, upd, Nat.reduceEqDiff, ↓reduceIte, if_true, if_false] at hK ⊢
        have HS9 := Lib.hid hS
        obtain ⟨qB, qE, qR, qM, c0, c1, c2, c3, c4, c5, c6, c7, c8, c9, c10, c11, c12, c13⟩ := hS
        obtain ⟨A9, k9, e6, ho⟩ := c6 (hN.out.2 6 (by decide +kernel))
        clear qR c0 c1 c2 c3 c4 c5 c6 c7 c8 c9 c10 c11 c12 c13
        go_simp
        obtain ⟨qB, qE, qR, qM, c0, c1, c2, c3, c4, c5, c6, c7, c8, c9, c10, c11, c12, c13⟩ := HS9.out
        exact hK.out _ _ ⟨qB, qE, qR, qM, fun h => c0 (h.resolve_right (by decide)), fun h t0 => c1 (h.resolve_right (by decide)) (fun z => t0 (.inl z)), fun h => c2 (h.resolve_right (by decide)), fun h => c3 (h.resolve_right (by decide)), fun h => c4 (h.resolve_right (by decide)), fun h => c5 (h.resolve_right (by decide)), fun h => c6 (h.resolve_right (by decide)), fun h => c7 (h.resolve_right (by decide)), fun _ => rfl, fun h => c9 (h.resolve_right (by decide)), fun h t0 => c10 (h.resolve_right (by decide)) (fun z => t0 (.inl z)), fun h => c11 (h.resolve_right (by decide)), fun h => c12 (h.resolve_right (by decide)), fun h => c13 (h.resolve_right (by decide))⟩ _ (by simp only [e6])
      apply RelH.op2
      · intro L f u K hN hS hK
        simp only [puts, Act.put, List.setIfInBounds_toArray, List.set_cons_zero, List.set_cons_succ, upd, Nat.reduceEqDiff, ↓reduceIte, if_true, if_false] at hK ⊢
        have HS9 := Lib.hid hS
        obtain ⟨qB, qE, qR, qM, c0, c1, c2, c3, c4, c5, c6, c7, c8, c9, c10, c11, c12, c13⟩ := hS
        obtain ⟨A9, k9, e6, ho⟩ := c6 (hN.out.2 6 (by decide +kernel))
        clear qR c0 c1 c2 c3 c4 c5 c6 c7 c8 c9 c10 c11 c12 c13
        go_simp
        obtain ⟨qB, qE, qR, qM, c0, c1, c2, c3, c4, c5, c6, c7, c8, c9, c10, c11, c12, c13⟩ := HS9.out
        exact hK.out _ _ ⟨qB, qE, qR, qM, fun h => c0 (h.resolve_right (by decide)), fun h t0 => c1 (h.resolve_right (by decide)) (fun z => t0 (.inl z)), fun h => c2 (h.resolve_right (by decide)), fun h => c3 (h.resolve_right (by decide)), fun h => c4 (h.resolve_right (by decide)), fun h => c5 (h.resolve_right (by decide)), fun h => c6 (h.resolve_right (by decide)), fun h => c7 (h.resolve_right (by decide)), fun h => c8 (h.resolve_right (by decide)), fun _ => rfl, fun h t0 => c10 (h.resolve_right (by decide)) (fun z => t0 (.inl z)), fun h => c11 (h.resolve_right (by decide)), fun h => c12 (h.resolve_right (by decide)), fun h => c13 (h.resolve_right (by decide))⟩ _ (by simp only [e6])
      apply RelH.op2
      · intro L f u K hN hS hK
        simp only [puts, Act.put, List.setIfInBounds_toArray, List.set_cons_zero, List.set_cons_succ, upd, Nat.reduceEqDiff, ↓reduceIte, if_true, if_false] at hK ⊢
        have HS9 := Lib.hid hS
        obtain ⟨qB, qE, qR, qM, c0, c1, c2, c3, c4, c5, c6, c7, c8, c9, c10, c11, c12, c13⟩ := hS
        have hv : Below u.heap.size u (u.alloc (.cells #[.int .i64 0, .int .i64 0] 26)) := al (Below.refl _ _)
        have hX := Box.new qB.below [.int .i64 0, .int .i64 0] 26 (g := u.heap.size) rfl
        have hTB := Tb.new u #[.int .i64 0, .int .i64 0]
        have hne : u.heap.size ≠ w.heap.size := by have := qB.there; omega
        have hne2 : u.heap.size ≠ eb := by have := qE.there; omega
        have hle : V0.heap.size ≤ u.heap.size := qR.1
        clear qR c0 c1 c2 c3 c4 c5 c6 c7 c8 c9 c10 c11 c12 c13
        go_simp
        obtain ⟨qB, qE, qR, qM, c0, c1, c2, c3, c4, c5, c6, c7, c8, c9, c10, c11, c12, c13⟩ := HS9.out
        exact hK.out _ _ ⟨qB.more hv, qE.more hv, rdl_keep qR hv, own_keep qM hv, fun h => c0 (h.resolve_right (by decide)), fun h t0 => (let ⟨g, e, O⟩ := (c1 (h.resolve_right (by decide)) (fun z => t0 (.inl z))); ⟨g, e, own_keep O hv⟩), fun h => c2 (h.resolve_right (by decide)), fun h => c3 (h.resolve_right (by decide)), fun h => c4 (h.resolve_right (by decide)), fun h => (let ⟨A8, k8, e, O8⟩ := (c5 (h.resolve_right (by decide))); ⟨A8, k8, e, own_keep O8 hv⟩), fun h => (let ⟨A8, k8, e, O8⟩ := (c6 (h.resolve_right (by decide))); ⟨A8, k8, e, own_keep O8 hv⟩), fun h => (let ⟨A8, k8, e, O8⟩ := (c7 (h.resolve_right (by decide))); ⟨A8, k8, e, own_keep O8 hv⟩), fun h => c8 (h.resolve_right (by decide)), fun h => c9 (h.resolve_right (by decide)), fun _ _ => ⟨_, rfl, hne, hne2, hle, hTB, hX⟩, fun h => (let ⟨A8, k8, e, O8⟩ := (c11 (h.resolve_right (by decide))); ⟨A8, k8, e, own_keep O8 hv⟩), fun h => absurd (h.resolve_right (by decide)) (hN.out.1 12 (by decide +kernel)), fun h => c13 (h.resolve_right (by decide))⟩ _ rfl
      apply RelH.op2
      · intro L f u K hN hS hK
        simp only [puts, Act.put, List.setIfInBounds_toArray, List.set_cons_zero, List.set_cons_succ, upd, Nat.reduceEqDiff, ↓reduceIte, if_true, if_false] at hK ⊢
        have HS9 := Lib.hid hS
        obtain ⟨qB, qE, qR, qM, c0, c1, c2, c3, c4, c5, c6, c7, c8, c9, c10, c11, c12, c13⟩ := hS
        obtain ⟨A9, k9, e7, ho⟩ := c7 (hN.out.2 7 (by decide +kernel))
        clear qR c0 c1 c2 c3 c4 c5 c6 c7 c8 c9 c10 c11 c12 c13
        go_simp
        obtain ⟨qB, qE, qR, qM, c0, c1, c2, c3, c4, c5, c6, c7, c8, c9, c10, c11, c12, c13⟩ := HS9.out
        exact hK.out _ _ ⟨qB, qE, qR, qM, fun h => c0 (h.resolve_right (by decide)), fun h t0 => c1 (h.resolve_right (by decide)) (fun z => t0 (.inl z)), fun h => c2 (h.resolve_right (by decide)), fun h => c3 (h.resolve_right (by decide)), fun h => c4 (h.resolve_right (by decide)), fun h => c5 (h.resolve_right (by decide)), fun h => c6 (h.resolve_right (by decide)), fun h => c7 (h.resolve_right (by decide)), fun h => c8 (h.resolve_right (by decide)), fun h => c9 (h.resolve_right (by decide)), fun h t0 => c10 (h.resolve_right (by decide)) (fun z => t0 (.inl z)), fun _ => ⟨A9, k9, rfl, ho⟩, fun h => c12 (h.resolve_right (by decide)), fun h => c13 (h.resolve_right (by decide))⟩ _ (by simp only [e7])
      apply RelH.op2
      · intro L f u K hN hS hK
        simp only [puts, Act.put, List.setIfInBounds_toArray, List.set_cons_zero, List.set_cons_succ, upd, Nat.reduceEqDiff, ↓reduceIte, if_true, if_false] at hK ⊢
        have HS9 := Lib.hid hS
        obtain ⟨qB, qE, qR, qM, c0, c1, c2, c3, c4, c5, c6, c7, c8, c9, c10, c11, c12, c13⟩ := hS
        obtain ⟨g, e10, hne, hne2, hle, TY, X⟩ := c10 (hN.out.2 10 (by decide +kernel)) (hN.out.1 12 (by decide +kernel))
        have e8 := c8 (hN.out.2 8 (by decide +kernel))
        have X_0 := X.cells 0 _ rfl
        have X_1 := X.cells 1 _ rfl
        have X_f0 := X.free 0 (by simp)
        have X_f1 := X.free 1 (by simp)
        clear qR c0 c1 c2 c3 c4 c5 c6 c7 c8 c9 c10 c11 c12 c13
        go_simp
        obtain ⟨qB, qE, qR, qM, c0, c1, c2, c3, c4, c5, c6, c7, c8, c9, c10, c11, c12, c13⟩ := HS9.out
        exact hK.out undef _ ⟨(qB.far X.base hne 0 _).far X.base hne 1 _, (qE.far X.base hne2 0 _).far X.base hne2 1 _, rdl_far2 qR hle _ _, own_tb2 qM TY _ _, fun h => c0 (h.resolve_right (by decide)), fun h t0 => (t0 (by simp)).elim, fun h => c2 (h.resolve_right (by decide)), fun h => c3 (h.resolve_right (by decide)), fun h => c4 (h.resolve_right (by decide)), fun h => (let ⟨A8, k8, e, O8⟩ := (c5 (h.resolve_right (by decide))); ⟨A8, k8, e, own_tb2 O8 TY _ _⟩), fun h => (let ⟨A8, k8, e, O8⟩ := (c6 (h.resolve_right (by decide))); ⟨A8, k8, e, own_tb2 O8 TY _ _⟩), fun h => (let ⟨A8, k8, e, O8⟩ := (c7 (h.resolve_right (by decide))); ⟨A8, k8, e, own_tb2 O8 TY _ _⟩), fun h => c8 (h.resolve_right (by decide)), fun h => c9 (h.resolve_right (by decide)), fun h t0 => (t0 (by simp)).elim, fun h => (let ⟨A8, k8, e, O8⟩ := (c11 (h.resolve_right (by decide))); ⟨A8, k8, e, own_tb2 O8 TY _ _⟩), fun _ => ⟨g, e10, (X.set 0 (.int .i64 x)).set 1 (.int .i64 y)⟩, fun h => c13 (h.resolve_right (by decide))⟩ _ (by simp only [e10, e8])
      apply RelH.op2
      · intro L f u K hN hS hK
        simp only [puts, Act.put, List.setIfInBounds_toArray, List.set_cons_zero, List.set_cons_succ, upd, Nat.reduceEqDiff, ↓reduceIte, if_true, if_false] at hK ⊢
        have HS9 := Lib.hid hS
        obtain ⟨qB, qE, qR, qM, c0, c1, c2, c3, c4, c5, c6, c7, c8, c9, c10, c11, c12, c13⟩ := hS
        have e9 := c9 (hN.out.2 9 (by decide +kernel))
        clear qR c0 c1 c2 c3 c4 c5 c6 c7 c8 c9 c10 c11 c12 c13
        go_simp
        obtain ⟨qB, qE, qR, qM, c0, c1, c2, c3, c4, c5, c6, c7, c8, c9, c10, c11, c12, c13⟩ := HS9.out
        exact hK.out _ _ ⟨qB, qE, qR, qM, fun h => c0 (h.resolve_right (by decide)), fun h t0 => c1 (h.resolve_right (by decide)) (fun z => t0 (.inl z)), fun h => c2 (h.resolve_right (by decide)), fun h => c3 (h.resolve_right (by decide)), fun h => c4 (h.resolve_right (by decide)), fun h => c5 (h.resolve_right (by decide)), fun h => c6 (h.resolve_right (by decide)), fun h => c7 (h.resolve_right (by decide)), fun h => c8 (h.resolve_right (by decide)), fun h => c9 (h.resolve_right (by decide)), fun h t0 => c10 (h.resolve_right (by decide)) (fun z => t0 (.inl z)), fun h => c11 (h.resolve_right (by decide)), fun h => c12 (h.resolve_right (by decide)), fun _ => rfl⟩ _ (by simp only [e9])
      exact RelH.done
    intro L f V1 hL hS
    simp only [puts, Act.put, List.setIfInBounds_toArray, List.set_cons_zero, List.set_cons_succ]
    obtain ⟨qB, qE, qR, qM, c0, c1, c2, c3, c4, c5, c6, c7, c8, c9, c10, c11, c12, c13⟩ := hS
    clear B RL OM E
    have B := qB; clear qB
    have RL := qR; clear qR
    have OM := qM; clear qM
    have E := qE; clear qE
    obtain ⟨A2, k2, e8, O2⟩ := c11 (hL 11 (by decide))
    obtain ⟨fb, e7, F⟩ := c12 (hL 12 (by decide))
    have e9 := c13 (hL 13 (by decide))
    simp only [e7, e8, e9]
    clear e7 e8 e9
    clear c0 c1 c2 c3 c4 c5 c6 c7 c8 c9 c10 c11 c12 c13 hL
    have E_0 := E.cells 0 _ rfl
    have E_1 := E.cells 1 _ rfl
    have E_f0 := E.free 0 (by simp)
    have E_f1 := E.free 1 (by simp)
    have E_t := E.there
    have F_0 := F.cells 0 _ rfl
    have F_1 := F.cells 1 _ rfl
    have F_f0 := F.free 0 (by simp)
    have F_f1 := F.free 1 (by simp)
    have F_t := F.there
    go_wp2_with fail
    go_wp2_with fail
    refine (SBasin.eqS_any A2 A0 k2 k0 M M _ (Rd.of_own O2) RL.rd HM.out HM.out).mono ?_
    rintro e v16 ⟨rfl, hv16⟩
    clear B_0 B_1 B_f0 B_f1 B_t
    clear E_0 E_1 E_f0 E_f1 E_t
    clear F_0 F_1 F_f0 F_f1 F_t
    replace B := B.more hv16
    replace E := E.more hv16
    replace F := F.more hv16
    replace RL := rdl_keep RL hv16
    replace OM := own_keep OM hv16
    have zhv16 := hv16.size
    clear hv16
    have B_0 := B.cells 0 _ rfl
    have B_1 := B.cells 1 _ rfl
    have B_f0 := B.free 0 (by simp)
    have B_f1 := B.free 1 (by simp)
    have B_t := B.there
    have E_0 := E.cells 0 _ rfl
    have E_1 := E.cells 1 _ rfl
    have E_f0 := E.free 0 (by simp)
    have E_f1 := E.free 1 (by simp)
    have E_t := E.there
    have F_0 := F.cells 0 _ rfl
    have F_1 := F.cells 1 _ rfl
    have F_f0 := F.free 0 (by simp)
    have F_f1 := F.free 1 (by simp)
    have F_t := F.there
    rw [decide_eq_true rfl]
    clear O2
    go_wp2_with fail
    refine (SBrine.eq_any ⟨x, y⟩ ⟨x, y⟩ _).mono ?_
    rintro e v17 ⟨rfl, hv17⟩
    clear B_0 B_1 B_f0 B_f1 B_t
    clear E_0 E_1 E_f0 E_f1 E_t
    clear F_0 F_1 F_f0 F_f1 F_t
    replace B := B.more hv17
    replace E := E.more hv17
    replace F := F.more hv17
    replace RL := rdl_keep RL hv17
    replace OM := own_keep OM hv17
    have zhv17 := hv17.size
    clear hv17
    have B_0 := B.cells 0 _ rfl
    have B_1 := B.cells 1 _ rfl
    have B_f0 := B.free 0 (by simp)
    have B_f1 := B.free 1 (by simp)
    have B_t := B.there
    have E_0 := E.cells 0 _ rfl
    have E_1 := E.cells 1 _ rfl
    have E_f0 := E.free 0 (by simp)
    have E_f1 := E.free 1 (by simp)
    have E_t := E.there
    have F_0 := F.cells 0 _ rfl
    have F_1 := F.cells 1 _ rfl
    have F_f0 := F.free 0 (by simp)
    have F_f1 := F.free 1 (by simp)
    have F_t := F.there
    rw [SBrine.same_self]
    go_wp2_with fail
    refine (SBasin.heldS_any A1 k1 _ 1 M.length _ (Rd.of_own OM) (by omega) (by omega) (by omega)).mono ?_
    rintro e v18 ⟨rfl, hd⟩
    go_wp2
    go_ret
    exact ⟨rfl, be B.below (hd.below _)⟩
set_option maxHeartbeats 8000000 in
theorem run_law (P : Option Addr) (cap : Nat) (l : List SBasin.R) (p q : Int) (n : Int) (t : Int) (w : World) (hr : Rd w w.heap.size P (SBasin.flat l)) (hn : l.length ≤ maxLen) :
    Calls Try.prog 10 #[.slice P l.length cap, .agg #[.int .i64 p, .int .i64 q], .int .i64 n, .int .i64 t] w (Yes w) := by
  have HN := Lib.hid hn
  unfold maxLen at hn
  by_cases hbig : 1048576 < l.length
  · have HS := Lib.hid (show SBasin.szV 1048576 l.length = -1 by unfold SBasin.szV; rw [if_pos (by omega)])
    go_enter Try.func10, Try.ntmps10
    go_wp2_with fail
    have B := Box.new (Below.refl _ w) [.int .i64 p, .int .i64 q] 83 (g := w.heap.size) rfl
    generalize (w.alloc (.cells #[.int .i64 p, .int .i64 q] 83)) = W1 at B ⊢
    have B_0 := B.cells 0 _ rfl
    have B_1 := B.cells 1 _ rfl
    have B_f0 := B.free 0 (by simp)
    have B_f1 := B.free 1 (by simp)
    have B_t := B.there
    go_wp2_with fail
    refine (SBasin.szS_any P cap l.length 1048576 _ (by omega) (by omega) HN.out).mono ?_
    rintro e _ ⟨rfl, rfl⟩
    rw [HS.out]
    go_wp2
    go_ret
    exact ⟨rfl, B.below⟩
  · have HS := Lib.hid (show SBasin.szV 1048576 l.length = 1048576 - l.length by unfold SBasin.szV; rw [if_neg (by omega)])
    have hs := fun P cap w hr => SerA2.run_spec P cap l p q n t w hr (by omega)
    have hi := fun P cap w hr hc => SerA3.run_impl P cap l p q n t w hr hc (by omega)
    have hm : (runS l p q n t).l.length ≤ 100 := run_len l p q n t
    unfold Row3 at hs hi
    generalize (runS l p q n t).l = M at hs hi hm
    generalize (runS l p q n t).p = x at hs hi
    generalize (runS l p q n t).q = y at hs hi
    generalize runOk l p q n t = z at hs hi
    have HSP := Lib.hid hs; clear hs
    have HIM := Lib.hid hi; clear hi
    have HM := Lib.hid (show M.length ≤ maxLen by unfold maxLen; omega)
    have hk1 : decide ((1 : Int) + l.length * 3 < 0) = false := decide_eq_false (by omega)
    go_enter Try.func10, Try.ntmps10
    go_wp2_with fail
    have B := Box.new (Below.refl _ w) [.int .i64 p, .int .i64 q] 83 (g := w.heap.size) rfl
    generalize (w.alloc (.cells #[.int .i64 p, .int .i64 q] 83)) = W1 at B ⊢
    have B_0 := B.cells 0 _ rfl
    have B_1 := B.cells 1 _ rfl
    have B_f0 := B.free 0 (by simp)
    have B_f1 := B.free 1 (by simp)
    have B_t := B.there
    go_wp2_with fail
    refine (SBasin.szS_any P cap l.length 1048576 _ (by omega) (by omega) HN.out).mono ?_
    rintro e _ ⟨rfl, rfl⟩
    rw [HS.out]
    go_wp2
    clear B_0 B_1 B_f0 B_f1 B_t
    refine wp_region_rel [29, 30, 31, 32, 33, 34, 35, 28, 36, 37, 38, 11, 10, 12] (fun L f w' => (Box (w.heap.size) [.int .i64 p, .int .i64 q] w w') ∧ (L 0 → f 29 = .slice P l.length cap) ∧ (L 1 → ¬ L 13 → ∃ g, f 30 = .slice (some ⟨g, 0, none⟩) l.length l.length ∧ w'.ownsRow w.heap.size 50 3 (.slice (some ⟨g, 0, none⟩) l.length l.length) l.length (SBasin.flat l)) ∧ (L 2 → f 31 = .agg #[.int .i64 p, .int .i64 q]) ∧ (L 3 → f 32 = .agg #[.int .i64 p, .int .i64 q]) ∧ (L 4 → f 33 = .int .i64 n) ∧ (L 5 → f 34 = .int .i64 t) ∧ (L 6 → ∃ A9 k9, f 35 = .tuple #[.slice A9 M.length k9, .agg #[.int .i64 x, .int .i64 y], .bool z] ∧ w'.ownsRow w.heap.size 50 3 (.slice A9 M.length k9) M.length (SBasin.flat M)) ∧ (L 7 → ∃ A9 k9, f 28 = .tuple #[.slice A9 M.length k9, .agg #[.int .i64 x, .int .i64 y], .bool z] ∧ w'.ownsRow w.heap.size 50 3 (.slice A9 M.length k9) M.length (SBasin.flat M)) ∧ (L 8 → ∃ A9 k9, f 36 = .slice A9 M.length k9 ∧ w'.ownsRow w.heap.size 50 3 (.slice A9 M.length k9) M.length (SBasin.flat M)) ∧ (L 9 → f 37 = .agg #[.int .i64 x, .int .i64 y]) ∧ (L 10 → f 38 = .bool z) ∧ (L 11 → ¬ L 13 → ∃ g, f 11 = .pointer (some ⟨g, 0, none⟩) ∧ g ≠ w.heap.size ∧ Tb g w' ∧ Box g [.int .i64 0, .int .i64 0] w w') ∧ (L 12 → ∃ A9 k9, f 10 = .slice A9 M.length k9 ∧ w'.ownsRow w.heap.size 50 3 (.slice A9 M.length k9) M.length (SBasin.flat M)) ∧ (L 13 → ∃ g, f 11 = .pointer (some ⟨g, 0, none⟩) ∧ Box g [.int .i64 x, .int .i64 y] w w') ∧ (L 14 → f 12 = .bool z)) (by kernel_rfl) (by kernel_rfl) (by kernel_rfl) (fun f => ⟨B.drew, fun h => h.elim, fun h => h.elim, fun h => h.elim, fun h => h.elim, fun h => h.elim, fun h => h.elim, fun h => h.elim, fun h => h.elim, fun h => h.elim, fun h => h.elim, fun h => h.elim, fun h => h.elim, fun h => h.elim, fun h => h.elim, fun h => h.elim⟩) ?_ ?_
    · apply RelH.op2
      · intro L f u K hN hS hK
        simp only [puts, Act.put, List.setIfInBounds_toArray, List.set_cons_zero, List.set_cons_succ, upd, Nat.reduceEqDiff, ↓reduceIte, if_true, if_false] at hK ⊢
        have HS9 := Lib.hid hS
        obtain ⟨qB, c0, c1, c2, c3, c4, c5, c6, c7, c8, c9, c10, c11, c12, c13, c14⟩ := hS
        clear c0 c1 c2 c3 c4 c5 c6 c7 c8 c9 c10 c11 c12 c13 c14
        go_simp
        obtain ⟨qB, c0, c1, c2, c3, c4, c5, c6, c7, c8, c9, c10, c11, c12, c13, c14⟩ := HS9.out
        exact hK.out _ _ ⟨qB, fun _ => rfl, fun h t0 => c1 (h.resolve_right (by decide)) (fun z => t0 (.inl z)), fun h => c2 (h.resolve_right (by decide)), fun h => c3 (h.resolve_right (by decide)), fun h => c4 (h.resolve_right (by decide)), fun h => c5 (h.resolve_right (by decide)), fun h => c6 (h.resolve_right (by decide)), fun h => c7 (h.resolve_right (by decide)), fun h => c8 (h.resolve_right (by decide)), fun h => c9 (h.resolve_right (by decide)), fun h => c10 (h.resolve_right (by decide)), fun h t0 => c11 (h.resolve_right (by decide)) (fun z => t0 (.inl z)), fun h => c12 (h.resolve_right (by decide)), fun h => c13 (h.resolve_right (by decide)), fun h => c14 (h.resolve_right (by decide))⟩ _ rfl
      apply RelH.op2
      · intro L f u K hN hS hK
        simp only [puts, Act.put, List.setIfInBounds_toArray, List.set_cons_zero, List.set_cons_succ, upd, Nat.reduceEqDiff, ↓reduceIte, if_true, if_false] at hK ⊢
        have HS9 := Lib.hid hS
        obtain ⟨qB, c0, c1, c2, c3, c4, c5, c6, c7, c8, c9, c10, c11, c12, c13, c14⟩ := hS
        have e0 := c0 (hN.out.2 0 (by decide +kernel))
        have HCON := Lib.hid (SBasin.toS_any P cap l u (rd_keep hr qB.below) (by omega))
        clear c0 c1 c2 c3 c4 c5 c6 c7 c8 c9 c10 c11 c12 c13 c14
        go_simp
        go_at_call 67
        (with_reducible refine HCON.out.mono ?_)
        rintro e uw1 ⟨rfl, ho, hv⟩
        go_wp2_with fail
        obtain ⟨qB, c0, c1, c2, c3, c4, c5, c6, c7, c8, c9, c10, c11, c12, c13, c14⟩ := HS9.out
        exact hK.out _ _ ⟨qB.more hv, fun h => c0 (h.resolve_right (by decide)), fun _ _ => ⟨_, rfl, own_base ho qB.below.size⟩, fun h => c2 (h.resolve_right (by decide)), fun h => c3 (h.resolve_right (by decide)), fun h => c4 (h.resolve_right (by decide)), fun h => c5 (h.resolve_right (by decide)), fun h => (let ⟨A8, k8, e, O8⟩ := (c6 (h.resolve_right (by decide))); ⟨A8, k8, e, own_keep O8 hv⟩), fun h => (let ⟨A8, k8, e, O8⟩ := (c7 (h.resolve_right (by decide))); ⟨A8, k8, e, own_keep O8 hv⟩), fun h => (let ⟨A8, k8, e, O8⟩ := (c8 (h.resolve_right (by decide))); ⟨A8, k8, e, own_keep O8 hv⟩), fun h => c9 (h.resolve_right (by decide)), fun h => c10 (h.resolve_right (by decide)), fun h t0 => (let ⟨g, e, hne, TY, X⟩ := (c11 (h.resolve_right (by decide)) (fun z => t0 (.inl z))); ⟨g, e, hne, TY.keep hv, X.more hv⟩), fun h => (let ⟨A8, k8, e, O8⟩ := (c12 (h.resolve_right (by decide))); ⟨A8, k8, e, own_keep O8 hv⟩), fun h => (let ⟨g, e, X⟩ := (c13 (h.resolve_right (by decide))); ⟨g, e, X.more hv⟩), fun h => c14 (h.resolve_right (by decide))⟩ _ (by simp only [e0])
      apply RelH.op2
      · intro L f u K hN hS hK
        simp only [puts, Act.put, List.setIfInBounds_toArray, List.set_cons_zero, List.set_cons_succ, upd, Nat.reduceEqDiff, ↓reduceIte, if_true, if_false] at hK ⊢
        have HS9 := Lib.hid hS
        obtain ⟨qB, c0, c1, c2, c3, c4, c5, c6, c7, c8, c9, c10, c11, c12, c13, c14⟩ := hS
        have qB_0 := qB.cells 0 _ rfl
        have qB_1 := qB.cells 1 _ rfl
        clear c0 c1 c2 c3 c4 c5 c6 c7 c8 c9 c10 c11 c12 c13 c14
        go_simp
        obtain ⟨qB, c0, c1, c2, c3, c4, c5, c6, c7, c8, c9, c10, c11, c12, c13, c14⟩ := HS9.out
        exact hK.out _ _ ⟨qB, fun h => c0 (h.resolve_right (by decide)), fun h t0 => c1 (h.resolve_right (by decide)) (fun z => t0 (.inl z)), fun _ => rfl, fun h => c3 (h.resolve_right (by decide)), fun h => c4 (h.resolve_right (by decide)), fun h => c5 (h.resolve_right (by decide)), fun h => c6 (h.resolve_right (by decide)), fun h => c7 (h.resolve_right (by decide)), fun h => c8 (h.resolve_right (by decide)), fun h => c9 (h.resolve_right (by decide)), fun h => c10 (h.resolve_right (by decide)), fun h t0 => c11 (h.resolve_right (by decide)) (fun z => t0 (.inl z)), fun h => c12 (h.resolve_right (by decide)), fun h => c13 (h.resolve_right (by decide)), fun h => c14 (h.resolve_right (by decide))⟩ _ rfl
      apply RelH.op2
      · intro L f u K hN hS hK
        simp only [puts, Act.put, List.setIfInBounds_toArray, List.set_cons_zero, List.set_cons_succ, upd, Nat.reduceEqDiff, ↓reduceIte, if_true, if_false] at hK ⊢
        have HS9 := Lib.hid hS
        obtain ⟨qB, c0, c1, c2, c3, c4, c5, c6, c7, c8, c9, c10, c11, c12, c13, c14⟩ := hS
        have e2 := c2 (hN.out.2 2 (by decide +kernel))
        have HCON := Lib.hid (SBrine.to_any ⟨p, q⟩ u)
        clear c0 c1 c2 c3 c4 c5 c6 c7 c8 c9 c10 c11 c12 c13 c14
        go_simp
        go_at_call 70
        (with_reducible refine HCON.out.mono ?_)
        rintro e uw1 ⟨rfl, hv⟩
        unfold SBrine.R.val
        go_wp2_with fail
        obtain ⟨qB, c0, c1, c2, c3, c4, c5, c6, c7, c8, c9, c10, c11, c12, c13, c14⟩ := HS9.out
        exact hK.out _ _ ⟨qB.more hv, fun h => c0 (h.resolve_right (by decide)), fun h t0 => (let ⟨g, e, O⟩ := (c1 (h.resolve_right (by decide)) (fun z => t0 (.inl z))); ⟨g, e, own_keep O hv⟩), fun h => c2 (h.resolve_right (by decide)), fun _ => rfl, fun h => c4 (h.resolve_right (by decide)), fun h => c5 (h.resolve_right (by decide)), fun h => (let ⟨A8, k8, e, O8⟩ := (c6 (h.resolve_right (by decide))); ⟨A8, k8, e, own_keep O8 hv⟩), fun h => (let ⟨A8, k8, e, O8⟩ := (c7 (h.resolve_right (by decide))); ⟨A8, k8, e, own_keep O8 hv⟩), fun h => (let ⟨A8, k8, e, O8⟩ := (c8 (h.resolve_right (by decide))); ⟨A8, k8, e, own_keep O8 hv⟩), fun h => c9 (h.resolve_right (by decide)), fun h => c10 (h.resolve_right (by decide)), fun h t0 => (let ⟨g, e, hne, TY, X⟩ := (c11 (h.resolve_right (by decide)) (fun z => t0 (.inl z))); ⟨g, e, hne, TY.keep hv, X.more hv⟩), fun h => (let ⟨A8, k8, e, O8⟩ := (c12 (h.resolve_right (by decide))); ⟨A8, k8, e, own_keep O8 hv⟩), fun h => (let ⟨g, e, X⟩ := (c13 (h.resolve_right (by decide))); ⟨g, e, X.more hv⟩), fun h => c14 (h.resolve_right (by decide))⟩ _ (by simp only [e2])
      apply RelH.op2
      · intro L f u K hN hS hK
        simp only [puts, Act.put, List.setIfInBounds_toArray, List.set_cons_zero, List.set_cons_succ, upd, Nat.reduceEqDiff, ↓reduceIte, if_true, if_false] at hK ⊢
        have HS9 := Lib.hid hS
        obtain ⟨qB, c0, c1, c2, c3, c4, c5, c6, c7, c8, c9, c10, c11, c12, c13, c14⟩ := hS
        clear c0 c1 c2 c3 c4 c5 c6 c7 c8 c9 c10 c11 c12 c13 c14
        go_simp
        obtain ⟨qB, c0, c1, c2, c3, c4, c5, c6, c7, c8, c9, c10, c11, c12, c13, c14⟩ := HS9.out
        exact hK.out _ _ ⟨qB, fun h => c0 (h.resolve_right (by decide)), fun h t0 => c1 (h.resolve_right (by decide)) (fun z => t0 (.inl z)), fun h => c2 (h.resolve_right (by decide)), fun h => c3 (h.resolve_right (by decide)), fun _ => rfl, fun h => c5 (h.resolve_right (by decide)), fun h => c6 (h.resolve_right (by decide)), fun h => c7 (h.resolve_right (by decide)), fun h => c8 (h.resolve_right (by decide)), fun h => c9 (h.resolve_right (by decide)), fun h => c10 (h.resolve_right (by decide)), fun h t0 => c11 (h.resolve_right (by decide)) (fun z => t0 (.inl z)), fun h => c12 (h.resolve_right (by decide)), fun h => c13 (h.resolve_right (by decide)), fun h => c14 (h.resolve_right (by decide))⟩ _ rfl
      apply RelH.op2
      · intro L f u K hN hS hK
        simp only [puts, Act.put, List.setIfInBounds_toArray, List.set_cons_zero, List.set_cons_succ, upd, Nat.reduceEqDiff, ↓reduceIte, if_true, if_false] at hK ⊢
        have HS9 := Lib.hid hS
        obtain ⟨qB, c0, c1, c2, c3, c4, c5, c6, c7, c8, c9, c10, c11, c12, c13, c14⟩ := hS
        clear c0 c1 c2 c3 c4 c5 c6 c7 c8 c9 c10 c11 c12 c13 c14
        go_simp
        obtain ⟨qB, c0, c1, c2, c3, c4, c5, c6, c7, c8, c9, c10, c11, c12, c13, c14⟩ := HS9.out
        exact hK.out _ _ ⟨qB, fun h => c0 (h.resolve_right (by decide)), fun h t0 => c1 (h.resolve_right (by decide)) (fun z => t0 (.inl z)), fun h => c2 (h.resolve_right (by decide)), fun h => c3 (h.resolve_right (by decide)), fun h => c4 (h.resolve_right (by decide)), fun _ => rfl, fun h => c6 (h.resolve_right (by decide)), fun h => c7 (h.resolve_right (by decide)), fun h => c8 (h.resolve_right (by decide)), fun h => c9 (h.resolve_right (by decide)), fun h => c10 (h.resolve_right (by decide)), fun h t0 => c11 (h.resolve_right (by decide)) (fun z => t0 (.inl z)), fun h => c12 (h.resolve_right (by decide)), fun h => c13 (h.resolve_right (by decide)), fun h => c14 (h.resolve_right (by decide))⟩ _ rfl
      apply RelH.op2
      · intro L f u K hN hS hK
        simp only [puts, Act.put, List.setIfInBounds_toArray, List.set_cons_zero, List.set_cons_succ, upd, Nat.reduceEqDiff, ↓reduceIte, if_true, if_false] at hK ⊢
        have HS9 := Lib.hid hS
        obtain ⟨qB, c0, c1, c2, c3, c4, c5, c6, c7, c8, c9, c10, c11, c12, c13, c14⟩ := hS
        obtain ⟨g, e1, O⟩ := c1 (hN.out.2 1 (by decide +kernel)) (hN.out.1 13 (by decide +kernel))
        have e3 := c3 (hN.out.2 3 (by decide +kernel))
        have e4 := c4 (hN.out.2 4 (by decide +kernel))
        have e5 := c5 (hN.out.2 5 (by decide +kernel))
        have HCON := Lib.hid (HSP.out (some ⟨g, 0, none⟩) l.length u (Rd.of_own O))
        clear c0 c1 c2 c3 c4 c5 c6 c7 c8 c9 c10 c11 c12 c13 c14
        go_simp
        go_at_call 26
        (with_reducible refine HCON.out.mono ?_)
        rintro e uw1 ⟨A9, k9, rfl, ho, hv⟩
        go_wp2_with fail
        obtain ⟨qB, c0, c1, c2, c3, c4, c5, c6, c7, c8, c9, c10, c11, c12, c13, c14⟩ := HS9.out
        exact hK.out _ _ ⟨qB.more hv, fun h => c0 (h.resolve_right (by decide)), fun h t0 => (let ⟨g, e, O⟩ := (c1 (h.resolve_right (by decide)) (fun z => t0 (.inl z))); ⟨g, e, own_keep O hv⟩), fun h => c2 (h.resolve_right (by decide)), fun h => c3 (h.resolve_right (by decide)), fun h => c4 (h.resolve_right (by decide)), fun h => c5 (h.resolve_right (by decide)), fun _ => ⟨A9, k9, rfl, own_base ho qB.below.size⟩, fun h => (let ⟨A8, k8, e, O8⟩ := (c7 (h.resolve_right (by decide))); ⟨A8, k8, e, own_keep O8 hv⟩), fun h => (let ⟨A8, k8, e, O8⟩ := (c8 (h.resolve_right (by decide))); ⟨A8, k8, e, own_keep O8 hv⟩), fun h => c9 (h.resolve_right (by decide)), fun h => c10 (h.resolve_right (by decide)), fun h t0 => (let ⟨g, e, hne, TY, X⟩ := (c11 (h.resolve_right (by decide)) (fun z => t0 (.inl z))); ⟨g, e, hne, TY.keep hv, X.more hv⟩), fun h => (let ⟨A8, k8, e, O8⟩ := (c12 (h.resolve_right (by decide))); ⟨A8, k8, e, own_keep O8 hv⟩), fun h => (let ⟨g, e, X⟩ := (c13 (h.resolve_right (by decide))); ⟨g, e, X.more hv⟩), fun h => c14 (h.resolve_right (by decide))⟩ _ (by simp only [e1, e3, e4, e5])
      apply RelH.op2
      · intro L f u K hN hS hK
        simp only [puts, Act.put, List.setIfInBounds_toArray, List.set_cons_zero, List.set_cons_succ, upd, Nat.reduceEqDiff, ↓reduceIte, if_true, if_false] at hK ⊢
        have HS9 := Lib.hid hS
        obtain ⟨qB, c0, c1, c2, c3, c4, c5, c6, c7, c8, c9, c10, c11, c12, c13, c14⟩ := hS
        obtain ⟨A9, k9, e6, ho⟩ := c6 (hN.out.2 6 (by decide +kernel))
        clear c0 c1 c2 c3 c4 c5 c6 c7 c8 c9 c10 c11 c12 c13 c14
        go_simp
        obtain ⟨qB, c0, c1, c2, c3, c4, c5, c6, c7, c8, c9, c10, c11, c12, c13, c14⟩ := HS9.out
        exact hK.out _ _ ⟨qB, fun h => c0 (h.resolve_right (by decide)), fun h t0 => c1 (h.resolve_right (by decide)) (fun z => t0 (.inl z)), fun h => c2 (h.resolve_right (by decide)), fun h => c3 (h.resolve_right (by decide)), fun h => c4 (h.resolve_right (by decide)), fun h => c5 (h.resolve_right (by decide)), fun h => c6 (h.resolve_right (by decide)), fun _ => ⟨A9, k9, rfl, ho⟩, fun h => c8 (h.resolve_right (by decide)), fun h => c9 (h.resolve_right (by decide)), fun h => c10 (h.resolve_right (by decide)), fun h t0 => c11 (h.resolve_right (by decide)) (fun z => t0 (.inl z)), fun h => c12 (h.resolve_right (by decide)), fun h => c13 (h.resolve_right (by decide)), fun h => c14 (h.resolve_right (by decide))⟩ _ (by simp only [e6])
      apply RelH.op2
      · intro L f u K hN hS hK
        simp only [puts, Act.put, List.setIfInBounds_toArray, List.set_cons_zero, List.set_cons_succ, upd, Nat.reduceEqDiff, ↓reduceIte, if_true, if_false] at hK ⊢
        have HS9 := Lib.hid hS
        obtain ⟨qB, c0, c1, c2, c3, c4, c5, c6, c7, c8, c9, c10, c11, c12, c13, c14⟩ := hS
        obtain ⟨A9, k9, e7, ho⟩ := c7 (hN.out.2 7 (by decide +kernel))
        clear c0 c1 c2 c3 c4 c5 c6 c7 c8 c9 c10 c11 c12 c13 c14
        go_simp
        obtain ⟨qB, c0, c1, c2, c3, c4, c5, c6, c7, c8, c9, c10, c11, c12, c13, c14⟩ := HS9.out
        exact hK.out _ _ ⟨qB, fun h => c0 (h.resolve_right (by decide)), fun h t0 => c1 (h.resolve_right (by decide)) (fun z => t0 (.inl z)), fun h => c2 (h.resolve_right (by decide)), fun h => c3 (h.resolve_right (by decide)), fun h => c4 (h.resolve_right (by decide)), fun h => c5 (h.resolve_right (by decide)), fun h => c6 (h.resolve_right (by decide)), fun h => c7 (h.resolve_right (by decide)), fun _ => ⟨A9, k9, rfl, ho⟩, fun h => c9 (h.resolve_right (by decide)), fun h => c10 (h.resolve_right (by decide)), fun h t0 => c11 (h.resolve_right (by decide)) (fun z => t0 (.inl z)), fun h => c12 (h.resolve_right (by decide)), fun h => c13 (h.resolve_right (by decide)), fun h => c14 (h.resolve_right (by decide))⟩ _ (by simp only [e7])
      apply RelH.op2
      · intro L f u K hN hS hK
        simp only [puts, Act.put, List.setIfInBounds_toArray, List.set_cons_zero, List.set_cons_succ, upd, Nat.reduceEqDiff, ↓reduceIte, if_true, if_false] at hK ⊢
        have HS9 := Lib.hid hS
        obtain ⟨qB, c0, c1, c2, c3, c4, c5, c6, c7, c8, c9, c10, c11, c12, c13, c14⟩ := hS
        obtain ⟨A9, k9, e7, ho⟩ := c7 (hN.out.2 7 (by decide +kernel))
        clear c0 c1 c2 c3 c4 c5 c6 c7 c8 c9 c10 c11 c12 c13 c14
        go_simp
        obtain ⟨qB, c0, c1, c2, c3, c4, c5, c6, c7, c8, c9, c10, c11, c12, c13, c14⟩ := HS9.out
        exact hK.out _ _ ⟨qB, fun h => c0 (h.resolve_right (by decide)), fun h t0 => c1 (h.resolve_right (by decide)) (fun z => t0 (.inl z)), fun h => c2 (h.resolve_right (by decide)), fun h => c3 (h.resolve_right (by decide)), fun h => c4 (h.resolve_right (by decide)), fun h => c5 (h.resolve_right (by decide)), fun h => c6 (h.resolve_right (by decide)), fun h => c7 (h.resolve_right (by decide)), fun h => c8 (h.resolve_right (by decide)), fun _ => rfl, fun h => c10 (h.resolve_right (by decide)), fun h t0 => c11 (h.resolve_right (by decide)) (fun z => t0 (.inl z)), fun h => c12 (h.resolve_right (by decide)), fun h => c13 (h.resolve_right (by decide)), fun h => c14 (h.resolve_right (by decide))⟩ _ (by simp only [e7])
      apply RelH.op2
      · intro L f u K hN hS hK
        simp only [puts, Act.put, List.setIfInBounds_toArray, List.set_cons_zero, List.set_cons_succ, upd, Nat.reduceEqDiff, ↓reduceIte, if_true, if_false] at hK ⊢
        have HS9 := Lib.hid hS
        obtain ⟨qB, c0, c1, c2, c3, c4, c5, c6, c7, c8, c9, c10, c11, c12, c13, c14⟩ := hS
        obtain ⟨A9, k9, e7, ho⟩ := c7 (hN.out.2 7 (by decide +kernel))
        clear c0 c1 c2 c3 c4 c5 c6 c7 c8 c9 c10 c11 c12 c13 c14
        go_simp
        obtain ⟨qB, c0, c1, c2, c3, c4, c5, c6, c7, c8, c9, c10, c11, c12, c13, c14⟩ := HS9.out
        exact hK.out _ _ ⟨qB, fun h => c0 (h.resolve_right (by decide)), fun h t0 => c1 (h.resolve_right (by decide)) (fun z => t0 (.inl z)), fun h => c2 (h.resolve_right (by decide)), fun h => c3 (h.resolve_right (by decide)), fun h => c4 (h.resolve_right (by decide)), fun h => c5 (h.resolve_right (by decide)), fun h => c6 (h.resolve_right (by decide)), fun h => c7 (h.resolve_right (by decide)), fun h => c8 (h.resolve_right (by decide)), fun h => c9 (h.resolve_right (by decide)), fun _ => rfl, fun h t0 => c11 (h.resolve_right (by decide)) (fun z => t0 (.inl z)), fun h => c12 (h.resolve_right (by decide)), fun h => c13 (h.resolve_right (by decide)), fun h => c14 (h.resolve_right (by decide))⟩ _ (by simp only [e7])
      apply RelH.op2
      · intro L f u K hN hS hK
        simp only [puts, Act.put, List.setIfInBounds_toArray, List.set_cons_zero, List.set_cons_succ, upd, Nat.reduceEqDiff, ↓reduceIte, if_true, if_false] at hK ⊢
        have HS9 := Lib.hid hS
        obtain ⟨qB, c0, c1, c2, c3, c4, c5, c6, c7, c8, c9, c10, c11, c12, c13, c14⟩ := hS
        have hv : Below u.heap.size u (u.alloc (.cells #[.int .i64 0, .int .i64 0] 26)) := al (Below.refl _ _)
        have hX := Box.new qB.below [.int .i64 0, .int .i64 0] 26 (g := u.heap.size) rfl
        have hTB := Tb.new u #[.int .i64 0, .int .i64 0]
        have hne : u.heap.size ≠ w.heap.size := by have := qB.there; omega
        clear c0 c1 c2 c3 c4 c5 c6 c7 c8 c9 c10 c11 c12 c13 c14
        go_simp
        obtain ⟨qB, c0, c1, c2, c3, c4, c5, c6, c7, c8, c9, c10, c11, c12, c13, c14⟩ := HS9.out
        exact hK.out _ _ ⟨qB.more hv, fun h => c0 (h.resolve_right (by decide)), fun h t0 => (let ⟨g, e, O⟩ := (c1 (h.resolve_right (by decide)) (fun z => t0 (.inl z))); ⟨g, e, own_keep O hv⟩), fun h => c2 (h.resolve_right (by decide)), fun h => c3 (h.resolve_right (by decide)), fun h => c4 (h.resolve_right (by decide)), fun h => c5 (h.resolve_right (by decide)), fun h => (let ⟨A8, k8, e, O8⟩ := (c6 (h.resolve_right (by decide))); ⟨A8, k8, e, own_keep O8 hv⟩), fun h => (let ⟨A8, k8, e, O8⟩ := (c7 (h.resolve_right (by decide))); ⟨A8, k8, e, own_keep O8 hv⟩), fun h => (let ⟨A8, k8, e, O8⟩ := (c8 (h.resolve_right (by decide))); ⟨A8, k8, e, own_keep O8 hv⟩), fun h => c9 (h.resolve_right (by decide)), fun h => c10 (h.resolve_right (by decide)), fun _ _ => ⟨_, rfl, hne, hTB, hX⟩, fun h => (let ⟨A8, k8, e, O8⟩ := (c12 (h.resolve_right (by decide))); ⟨A8, k8, e, own_keep O8 hv⟩), fun h => absurd (h.resolve_right (by decide)) (hN.out.1 13 (by decide +kernel)), fun h => c14 (h.resolve_right (by decide))⟩ _ rfl
      apply RelH.op2
      · intro L f u K hN hS hK
        simp only [puts, Act.put, List.setIfInBounds_toArray, List.set_cons_zero, List.set_cons_succ, upd, Nat.reduceEqDiff, ↓reduceIte, if_true, if_false] at hK ⊢
        have HS9 := Lib.hid hS
        obtain ⟨qB, c0, c1, c2, c3, c4, c5, c6, c7, c8, c9, c10, c11, c12, c13, c14⟩ := hS
        obtain ⟨A9, k9, e8, ho⟩ := c8 (hN.out.2 8 (by decide +kernel))
        clear c0 c1 c2 c3 c4 c5 c6 c7 c8 c9 c10 c11 c12 c13 c14
        go_simp
        obtain ⟨qB, c0, c1, c2, c3, c4, c5, c6, c7, c8, c9, c10, c11, c12, c13, c14⟩ := HS9.out
        exact hK.out _ _ ⟨qB, fun h => c0 (h.resolve_right (by decide)), fun h t0 => c1 (h.resolve_right (by decide)) (fun z => t0 (.inl z)), fun h => c2 (h.resolve_right (by decide)), fun h => c3 (h.resolve_right (by decide)), fun h => c4 (h.resolve_right (by decide)), fun h => c5 (h.resolve_right (by decide)), fun h => c6 (h.resolve_right (by decide)), fun h => c7 (h.resolve_right (by decide)), fun h => c8 (h.resolve_right (by decide)), fun h => c9 (h.resolve_right (by decide)), fun h => c10 (h.resolve_right (by decide)), fun h t0 => c11 (h.resolve_right (by decide)) (fun z => t0 (.inl z)), fun _ => ⟨A9, k9, rfl, ho⟩, fun h => c13 (h.resolve_right (by decide)), fun h => c14 (h.resolve_right (by decide))⟩ _ (by simp only [e8])
      apply RelH.op2
      · intro L f u K hN hS hK
        simp only [puts, Act.put, List.setIfInBounds_toArray, List.set_cons_zero, List.set_cons_succ, upd, Nat.reduceEqDiff, ↓reduceIte, if_true, if_false] at hK ⊢
        have HS9 := Lib.hid hS
        obtain ⟨qB, c0, c1, c2, c3, c4, c5, c6, c7, c8, c9, c10, c11, c12, c13, c14⟩ := hS
        obtain ⟨g, e11, hne, TY, X⟩ := c11 (hN.out.2 11 (by decide +kernel)) (hN.out.1 13 (by decide +kernel))
        have e9 := c9 (hN.out.2 9 (by decide +kernel))
        have X_0 := X.cells 0 _ rfl
        have X_1 := X.cells 1 _ rfl
        have X_f0 := X.free 0 (by simp)
        have X_f1 := X.free 1 (by simp)
        clear c0 c1 c2 c3 c4 c5 c6 c7 c8 c9 c10 c11 c12 c13 c14
        go_simp
        obtain ⟨qB, c0, c1, c2, c3, c4, c5, c6, c7, c8, c9, c10, c11, c12, c13, c14⟩ := HS9.out
        exact hK.out undef _ ⟨(qB.far X.base hne 0 _).far X.base hne 1 _, fun h => c0 (h.resolve_right (by decide)), fun h t0 => (t0 (by simp)).elim, fun h => c2 (h.resolve_right (by decide)), fun h => c3 (h.resolve_right (by decide)), fun h => c4 (h.resolve_right (by decide)), fun h => c5 (h.resolve_right (by decide)), fun h => (let ⟨A8, k8, e, O8⟩ := (c6 (h.resolve_right (by decide))); ⟨A8, k8, e, own_tb2 O8 TY _ _⟩), fun h => (let ⟨A8, k8, e, O8⟩ := (c7 (h.resolve_right (by decide))); ⟨A8, k8, e, own_tb2 O8 TY _ _⟩), fun h => (let ⟨A8, k8, e, O8⟩ := (c8 (h.resolve_right (by decide))); ⟨A8, k8, e, own_tb2 O8 TY _ _⟩), fun h => c9 (h.resolve_right (by decide)), fun h => c10 (h.resolve_right (by decide)), fun h t0 => (t0 (by simp)).elim, fun h => (let ⟨A8, k8, e, O8⟩ := (c12 (h.resolve_right (by decide))); ⟨A8, k8, e, own_tb2 O8 TY _ _⟩), fun _ => ⟨g, e11, (X.set 0 (.int .i64 x)).set 1 (.int .i64 y)⟩, fun h => c14 (h.resolve_right (by decide))⟩ _ (by simp only [e11, e9])
      apply RelH.op2
      · intro L f u K hN hS hK
        simp only [puts, Act.put, List.setIfInBounds_toArray, List.set_cons_zero, List.set_cons_succ, upd, Nat.reduceEqDiff, ↓reduceIte, if_true, if_false] at hK ⊢
        have HS9 := Lib.hid hS
        obtain ⟨qB, c0, c1, c2, c3, c4, c5, c6, c7, c8, c9, c10, c11, c12, c13, c14⟩ := hS
        have e10 := c10 (hN.out.2 10 (by decide +kernel))
        clear c0 c1 c2 c3 c4 c5 c6 c7 c8 c9 c10 c11 c12 c13 c14
        go_simp
        obtain ⟨qB, c0, c1, c2, c3, c4, c5, c6, c7, c8, c9, c10, c11, c12, c13, c14⟩ := HS9.out
        exact hK.out _ _ ⟨qB, fun h => c0 (h.resolve_right (by decide)), fun h t0 => c1 (h.resolve_right (by decide)) (fun z => t0 (.inl z)), fun h => c2 (h.resolve_right (by decide)), fun h => c3 (h.resolve_right (by decide)), fun h => c4 (h.resolve_right (by decide)), fun h => c5 (h.resolve_right (by decide)), fun h => c6 (h.resolve_right (by decide)), fun h => c7 (h.resolve_right (by decide)), fun h => c8 (h.resolve_right (by decide)), fun h => c9 (h.resolve_right (by decide)), fun h => c10 (h.resolve_right (by decide)), fun h t0 => c11 (h.resolve_right (by decide)) (fun z => t0 (.inl z)), fun h => c12 (h.resolve_right (by decide)), fun h => c13 (h.resolve_right (by decide)), fun _ => rfl⟩ _ (by simp only [e10])
      exact RelH.done
    intro L f V0 hL hS
    simp only [puts, Act.put, List.setIfInBounds_toArray, List.set_cons_zero, List.set_cons_succ]
    obtain ⟨qB, c0, c1, c2, c3, c4, c5, c6, c7, c8, c9, c10, c11, c12, c13, c14⟩ := hS
    clear B
    have B := qB; clear qB
    obtain ⟨A0, k0, e8, O0⟩ := c12 (hL 12 (by decide))
    obtain ⟨eb, e7, E⟩ := c13 (hL 13 (by decide))
    have e9 := c14 (hL 14 (by decide))
    simp only [e7, e8, e9]
    clear e7 e8 e9
    clear c0 c1 c2 c3 c4 c5 c6 c7 c8 c9 c10 c11 c12 c13 c14 hL
    have RL := RdL.of (Rd.of_own O0); clear O0
    have B_0 := B.cells 0 _ rfl
    have B_1 := B.cells 1 _ rfl
    have B_f0 := B.free 0 (by simp)
    have B_f1 := B.free 1 (by simp)
    have B_t := B.there
    have hXB := B.below.size
    have hBt : w.heap.size < V0.heap.size := B.there
    have hEt : eb < V0.heap.size := E.there
    go_wp2_with fail
    go_wp2_with fail
    refine (SBasin.toS_any P cap l _ ((hr.below B.below (Nat.le_refl _)).mono B.below.size) (by omega)).mono ?_
    rintro e v3 ⟨rfl, OX, hv3⟩
    clear B_0 B_1 B_f0 B_f1 B_t
    replace B := B.more hv3
    replace E := E.more hv3
    replace RL := rdl_keep RL hv3
    have zhv3 := hv3.size
    clear hv3
    have B_0 := B.cells 0 _ rfl
    have B_1 := B.cells 1 _ rfl
    have B_f0 := B.free 0 (by simp)
    have B_f1 := B.free 1 (by simp)
    have B_t := B.there
    go_wp2_with fail
    refine (SBrine.to_any ⟨p, q⟩ _).mono ?_
    rintro e v4 ⟨rfl, hv4⟩
    clear B_0 B_1 B_f0 B_f1 B_t
    replace B := B.more hv4
    replace E := E.more hv4
    replace RL := rdl_keep RL hv4
    replace OX := own_keep OX hv4
    have zhv4 := hv4.size
    clear hv4
    have B_0 := B.cells 0 _ rfl
    have B_1 := B.cells 1 _ rfl
    have B_f0 := B.free 0 (by simp)
    have B_f1 := B.free 1 (by simp)
    have B_t := B.there
    unfold SBrine.R.val
    clear B_0 B_1 B_f0 B_f1 B_t
    have hXG := own_lt OX
    have hXG2 : V0.heap.size ≤ v4.heap.size := by omega
    go_wp2_with fail
    refine (HIM.out _ _ _ (Rd.of_own OX) (Nat.le_refl _)).mono ?_
    rintro e v5 ⟨A1, k1, rfl, O1, hv5⟩
    replace B := B.more hv5
    replace E := E.more hv5
    replace RL := rdl_keep RL hv5
    replace OX := own_keep OX hv5
    have zhv5 := hv5.size
    clear hv5
    have HO1 := own_lt2 O1
    have hGH := (show v4.heap.size ≤ v5.heap.size by omega)
    go_wp2_with fail
    have B_t6 := B.there
    have E_t6 := E.there
    have H := Box.new B.below [.int .i64 x, .int .i64 y] 26 (g := v5.heap.size) rfl
    replace B := (B).alloc (.cells #[.int .i64 x, .int .i64 y] 26)
    replace E := (E).alloc (.cells #[.int .i64 x, .int .i64 y] 26)
    replace RL := rdl_keep RL (al (Below.refl _ _) (o := (.cells #[.int .i64 x, .int .i64 y] 26)))
    replace OX := own_keep OX (al (Below.refl _ _) (o := (.cells #[.int .i64 x, .int .i64 y] 26)))
    replace O1 := own_keep O1 (al (Below.refl _ _) (o := (.cells #[.int .i64 x, .int .i64 y] 26)))
    generalize (v5.alloc (.cells #[.int .i64 x, .int .i64 y] 26)) = W6 at H B E RL OX O1 ⊢
    have B_0 := B.cells 0 _ rfl
    have B_1 := B.cells 1 _ rfl
    have B_f0 := B.free 0 (by simp)
    have B_f1 := B.free 1 (by simp)
    have B_t := B.there
    have E_0 := E.cells 0 _ rfl
    have E_1 := E.cells 1 _ rfl
    have E_f0 := E.free 0 (by simp)
    have E_f1 := E.free 1 (by simp)
    have E_t := E.there
    have H_0 := H.cells 0 _ rfl
    have H_1 := H.cells 1 _ rfl
    have H_f0 := H.free 0 (by simp)
    have H_f1 := H.free 1 (by simp)
    have H_t := H.there
    have E_0 := E.cells 0 _ rfl
    have E_1 := E.cells 1 _ rfl
    have E_f0 := E.free 0 (by simp)
    have E_f1 := E.free 1 (by simp)
    have E_t := E.there
    go_wp2_with fail
    refine (SBasin.eqS_any A1 A0 k1 k0 M M _ (Rd.of_own O1) RL.rd HM.out HM.out).mono ?_
    rintro e v7 ⟨rfl, hv7⟩
    clear B_0 B_1 B_f0 B_f1 B_t
    clear E_0 E_1 E_f0 E_f1 E_t
    clear H_0 H_1 H_f0 H_f1 H_t
    replace B := B.more hv7
    replace E := E.more hv7
    replace H := H.more hv7
    replace RL := rdl_keep RL hv7
    replace OX := own_keep OX hv7
    replace O1 := own_keep O1 hv7
    have zhv7 := hv7.size
    clear hv7
    have B_0 := B.cells 0 _ rfl
    have B_1 := B.cells 1 _ rfl
    have B_f0 := B.free 0 (by simp)
    have B_f1 := B.free 1 (by simp)
    have B_t := B.there
    have E_0 := E.cells 0 _ rfl
    have E_1 := E.cells 1 _ rfl
    have E_f0 := E.free 0 (by simp)
    have E_f1 := E.free 1 (by simp)
    have E_t := E.there
    have H_0 := H.cells 0 _ rfl
    have H_1 := H.cells 1 _ rfl
    have H_f0 := H.free 0 (by simp)
    have H_f1 := H.free 1 (by simp)
    have H_t := H.there
    rw [decide_eq_true rfl]
    go_wp2_with fail
    refine (SBrine.eq_any ⟨x, y⟩ ⟨x, y⟩ _).mono ?_
    rintro e v8 ⟨rfl, hv8⟩
    clear B_0 B_1 B_f0 B_f1 B_t
    clear E_0 E_1 E_f0 E_f1 E_t
    clear H_0 H_1 H_f0 H_f1 H_t
    replace B := B.more hv8
    replace E := E.more hv8
    replace H := H.more hv8
    replace RL := rdl_keep RL hv8
    replace OX := own_keep OX hv8
    replace O1 := own_keep O1 hv8
    have zhv8 := hv8.size
    clear hv8
    have B_0 := B.cells 0 _ rfl
    have B_1 := B.cells 1 _ rfl
    have B_f0 := B.free 0 (by simp)
    have B_f1 := B.free 1 (by simp)
    have B_t := B.there
    have E_0 := E.cells 0 _ rfl
    have E_1 := E.cells 1 _ rfl
    have E_f0 := E.free 0 (by simp)
    have E_f1 := E.free 1 (by simp)
    have E_t := E.there
    have H_0 := H.cells 0 _ rfl
    have H_1 := H.cells 1 _ rfl
    have H_f0 := H.free 0 (by simp)
    have H_f1 := H.free 1 (by simp)
    have H_t := H.there
    rw [SBrine.same_self]
    go_wp2_with fail
    refine (SBasin.toS_any P cap l _ ((hr.below B.below (Nat.le_refl _)).mono B.below.size) (by omega)).mono ?_
    rintro e v9 ⟨rfl, ho2, hv9⟩
    clear B_0 B_1 B_f0 B_f1 B_t
    clear E_0 E_1 E_f0 E_f1 E_t
    clear H_0 H_1 H_f0 H_f1 H_t
    replace B := B.more hv9
    replace E := E.more hv9
    replace H := H.more hv9
    replace RL := rdl_keep RL hv9
    replace OX := own_keep OX hv9
    replace O1 := own_keep O1 hv9
    have zhv9 := hv9.size
    clear hv9
    have B_0 := B.cells 0 _ rfl
    have B_1 := B.cells 1 _ rfl
    have B_f0 := B.free 0 (by simp)
    have B_f1 := B.free 1 (by simp)
    have B_t := B.there
    have E_0 := E.cells 0 _ rfl
    have E_1 := E.cells 1 _ rfl
    have E_f0 := E.free 0 (by simp)
    have E_f1 := E.free 1 (by simp)
    have E_t := E.there
    have H_0 := H.cells 0 _ rfl
    have H_1 := H.cells 1 _ rfl
    have H_f0 := H.free 0 (by simp)
    have H_f1 := H.free 1 (by simp)
    have H_t := H.there
    go_wp2_with fail
    refine (SBasin.eqS_any _ _ _ _ l l _ (Rd.of_own OX) (Rd.of_own ho2) HN.out HN.out).mono ?_
    rintro e v10 ⟨rfl, hv10⟩
    clear B_0 B_1 B_f0 B_f1 B_t
    clear E_0 E_1 E_f0 E_f1 E_t
    clear H_0 H_1 H_f0 H_f1 H_t
    replace B := B.more hv10
    replace E := E.more hv10
    replace H := H.more hv10
    replace RL := rdl_keep RL hv10
    replace OX := own_keep OX hv10
    replace O1 := own_keep O1 hv10
    have zhv10 := hv10.size
    clear hv10
    have B_0 := B.cells 0 _ rfl
    have B_1 := B.cells 1 _ rfl
    have B_f0 := B.free 0 (by simp)
    have B_f1 := B.free 1 (by simp)
    have B_t := B.there
    have E_0 := E.cells 0 _ rfl
    have E_1 := E.cells 1 _ rfl
    have E_f0 := E.free 0 (by simp)
    have E_f1 := E.free 1 (by simp)
    have E_t := E.there
    have H_0 := H.cells 0 _ rfl
    have H_1 := H.cells 1 _ rfl
    have H_f0 := H.free 0 (by simp)
    have H_f1 := H.free 1 (by simp)
    have H_t := H.there
    rw [decide_eq_true rfl]
    clear ho2
    go_wp2_with fail
    refine (SBasin.markS_any _ _ V0.heap.size l 1 _ OX (by omega) (by omega) (by omega)).mono ?_
    rintro e v11 ⟨rfl, om, hg⟩
    clear E_0 E_1 E_f0 E_f1 E_t
    clear H_0 H_1 H_f0 H_f1 H_t
    replace RL := RL.grown hg (fun k hk => by have := row_at hk; omega)
    replace O1 := own_grown O1 hg (fun k hk => by have := row_at hk; omega)
    replace B := B.grown hg (fun k hk => by have := row_at hk; omega)
    replace E := E.grown hg (fun k hk => by have := row_at hk; omega)
    replace H := box_grown H hg (fun k hk => by have := row_at hk; omega)
    have E_0 := E.cells 0 _ rfl
    have E_1 := E.cells 1 _ rfl
    have E_f0 := E.free 0 (by simp)
    have E_f1 := E.free 1 (by simp)
    have E_t := E.there
    have H_0 := H.cells 0 _ rfl
    have H_1 := H.cells 1 _ rfl
    have H_f0 := H.free 0 (by simp)
    have H_f1 := H.free 1 (by simp)
    have H_t := H.there
    clear OX
    clear om hg
    go_wp2_with fail
    refine (SBasin.eqS_any A1 A0 k1 k0 M M _ (Rd.of_own O1) RL.rd HM.out HM.out).mono ?_
    rintro e v12 ⟨rfl, hv12⟩
    clear B_0 B_1 B_f0 B_f1 B_t
    clear E_0 E_1 E_f0 E_f1 E_t
    clear H_0 H_1 H_f0 H_f1 H_t
    replace B := B.more hv12
    replace E := E.more hv12
    replace H := H.more hv12
    replace RL := rdl_keep RL hv12
    replace O1 := own_keep O1 hv12
    have zhv12 := hv12.size
    clear hv12
    have B_0 := B.cells 0 _ rfl
    have B_1 := B.cells 1 _ rfl
    have B_f0 := B.free 0 (by simp)
    have B_f1 := B.free 1 (by simp)
    have B_t := B.there
    have E_0 := E.cells 0 _ rfl
    have E_1 := E.cells 1 _ rfl
    have E_f0 := E.free 0 (by simp)
    have E_f1 := E.free 1 (by simp)
    have E_t := E.there
    have H_0 := H.cells 0 _ rfl
    have H_1 := H.cells 1 _ rfl
    have H_f0 := H.free 0 (by simp)
    have H_f1 := H.free 1 (by simp)
    have H_t := H.there
    rw [decide_eq_true rfl]
    go_wp2_with fail
    refine (SBrine.eq_any ⟨x, y⟩ ⟨x, y⟩ _).mono ?_
    rintro e v13 ⟨rfl, hv13⟩
    clear B_0 B_1 B_f0 B_f1 B_t
    clear E_0 E_1 E_f0 E_f1 E_t
    clear H_0 H_1 H_f0 H_f1 H_t
    replace B := B.more hv13
    replace E := E.more hv13
    replace H := H.more hv13
    replace RL := rdl_keep RL hv13
    replace O1 := own_keep O1 hv13
    have zhv13 := hv13.size
    clear hv13
    have B_0 := B.cells 0 _ rfl
    have B_1 := B.cells 1 _ rfl
    have B_f0 := B.free 0 (by simp)
    have B_f1 := B.free 1 (by simp)
    have B_t := B.there
    have E_0 := E.cells 0 _ rfl
    have E_1 := E.cells 1 _ rfl
    have E_f0 := E.free 0 (by simp)
    have E_f1 := E.free 1 (by simp)
    have E_t := E.there
    have H_0 := H.cells 0 _ rfl
    have H_1 := H.cells 1 _ rfl
    have H_f0 := H.free 0 (by simp)
    have H_f1 := H.free 1 (by simp)
    have H_t := H.there
    rw [SBrine.same_self]
    go_wp2_with fail
    refine (SBasin.markS_any A1 k1 v4.heap.size M 1 _ O1 (by omega) (by omega) (by omega)).mono ?_
    rintro e v14 ⟨rfl, OM, hg⟩
    clear E_0 E_1 E_f0 E_f1 E_t
    clear H_0 H_1 H_f0 H_f1 H_t
    replace RL := RL.grown hg (fun k hk => by have := own_ge OM k hk; omega)
    replace B := B.grown hg (fun k hk => by have := own_ge OM k hk; omega)
    replace E := E.grown hg (fun k hk => by have := own_ge OM k hk; omega)
    replace H := box_grown H hg (fun k hk => by have := own_ge OM k hk; have := HO1 k hk; omega)
    clear O1
    clear hg
    go_wp2_with fail
    refine (SBasin.heldS_any A1 k1 _ 1 M.length _ (Rd.of_own OM) (by omega) (by omega) (by omega)).mono ?_
    rintro e v15 ⟨rfl, hd⟩
    have hd2 := hd.below v14.heap.size; clear hd
    clear B_0 B_1 B_f0 B_f1 B_t
    replace B := B.more hd2
    replace E := E.more hd2
    replace H := H.more hd2
    replace RL := rdl_keep RL hd2
    replace OM := own_keep OM hd2
    clear hd2
    have B_0 := B.cells 0 _ rfl
    have B_1 := B.cells 1 _ rfl
    have B_f0 := B.free 0 (by simp)
    have B_f1 := B.free 1 (by simp)
    have B_t := B.there
    go_wp2_with fail
    clear H
    refine wp_region_rel [105, 106, 107, 108, 109, 110, 111, 104, 112, 113, 114, 21, 20, 22] (fun L f w' => (Box (w.heap.size) [.int .i64 p, .int .i64 q] w w') ∧ (Box eb [.int .i64 x, .int .i64 y] w w') ∧ (RdL w' V0.heap.size A0 (SBasin.flat M)) ∧ (w'.ownsRow v4.heap.size 50 3 (.slice A1 M.length k1) M.length (SBasin.flat (SBasin.marks 1 M.length))) ∧ (L 0 → f 105 = .slice P l.length cap) ∧ (L 1 → ¬ L 13 → ∃ g, f 106 = .slice (some ⟨g, 0, none⟩) l.length l.length ∧ w'.ownsRow w.heap.size 50 3 (.slice (some ⟨g, 0, none⟩) l.length l.length) l.length (SBasin.flat l)) ∧ (L 2 → f 107 = .agg #[.int .i64 p, .int .i64 q]) ∧ (L 3 → f 108 = .agg #[.int .i64 p, .int .i64 q]) ∧ (L 4 → f 109 = .int .i64 n) ∧ (L 5 → f 110 = .int .i64 t) ∧ (L 6 → ∃ A9 k9, f 111 = .tuple #[.slice A9 M.length k9, .agg #[.int .i64 x, .int .i64 y], .bool z] ∧ w'.ownsRow w.heap.size 50 3 (.slice A9 M.length k9) M.length (SBasin.flat M)) ∧ (L 7 → ∃ A9 k9, f 104 = .tuple #[.slice A9 M.length k9, .agg #[.int .i64 x, .int .i64 y], .bool z] ∧ w'.ownsRow w.heap.size 50 3 (.slice A9 M.length k9) M.length (SBasin.flat M)) ∧ (L 8 → ∃ A9 k9, f 112 = .slice A9 M.length k9 ∧ w'.ownsRow w.heap.size 50 3 (.slice A9 M.length k9) M.length (SBasin.flat M)) ∧ (L 9 → f 113 = .agg #[.int .i64 x, .int .i64 y]) ∧ (L 10 → f 114 = .bool z) ∧ (L 11 → ¬ L 13 → ∃ g, f 21 = .pointer (some ⟨g, 0, none⟩) ∧ g ≠ w.heap.size ∧ g ≠ eb ∧ V0.heap.size ≤ g ∧ Tb g w' ∧ Box g [.int .i64 0, .int .i64 0] w w') ∧ (L 12 → ∃ A9 k9, f 20 = .slice A9 M.length k9 ∧ w'.ownsRow w.heap.size 50 3 (.slice A9 M.length k9) M.length (SBasin.flat M)) ∧ (L 13 → ∃ g, f 21 = .pointer (some ⟨g, 0, none⟩) ∧ Box g [.int .i64 x, .int .i64 y] w w') ∧ (L 14 → f 22 = .bool z)) (by kernel_rfl) (by kernel_rfl) (by kernel_rfl) (fun f => ⟨B.drew, E.drew, rdl_keep RL (Below.refl _ _).drew, own_keep OM (Below.refl _ _).drew, fun h => h.elim, fun h => h.elim, fun h => h.elim, fun h => h.elim, fun h => h.elim, fun h => h.elim, fun h => h.elim, fun h => h.elim, fun h => h.elim, fun h => h.elim, fun h => h.elim, fun h => h.elim, fun h => h.elim, fun h => h.elim, fun h => h.elim⟩) ?_ ?_
    · apply RelH.op2
      · intro L f u K hN hS hK
        simp only [puts, Act.put, List.setIfInBounds_toArray, List.set_cons_zero, List.set_cons_succ, upd, Nat.reduceEqDiff, ↓reduceIte, if_true, if_false] at hK ⊢
        have HS9 := Lib.hid hS
        obtain ⟨qB, qE, qR, qM, c0, c1, c2, c3, c4, c5, c6, c7, c8, c9, c10, c11, c12, c13, c14⟩ := hS
        clear qR c0 c1 c2 c3 c4 c5 c6 c7 c8 c9 c10 c11 c12 c13 c14
        go_simp
        obtain ⟨qB, qE, qR, qM, c0, c1, c2, c3, c4, c5, c6, c7, c8, c9, c10, c11, c12, c13, c14⟩ := HS9.out
        exact hK.out _ _ ⟨qB, qE, qR, qM, fun _ => rfl, fun h t0 => c1 (h.resolve_right (by decide)) (fun z => t0 (.inl z)), fun h => c2 (h.resolve_right (by decide)), fun h => c3 (h.resolve_right (by decide)), fun h => c4 (h.resolve_right (by decide)), fun h => c5 (h.resolve_right (by decide)), fun h => c6 (h.resolve_right (by decide)), fun h => c7 (h.resolve_right (by decide)), fun h => c8 (h.resolve_right (by decide)), fun h => c9 (h.resolve_right (by decide)), fun h => c10 (h.resolve_right (by decide)), fun h t0 => c11 (h.resolve_right (by decide)) (fun z => t0 (.inl z)), fun h => c12 (h.resolve_right (by decide)), fun h => c13 (h.resolve_right (by decide)), fun h => c14 (h.resolve_right (by decide))⟩ _ rfl
      apply RelH.op2
      · intro L f u K hN hS hK
        simp only [puts, Act.put, List.setIfInBounds_toArray, List.set_cons_zero, List.set_cons_succ, upd, Nat.reduceEqDiff, ↓reduceIte, if_true, if_false] at hK ⊢
        have HS9 := Lib.hid hS
        obtain ⟨qB, qE, qR, qM, c0, c1, c2, c3, c4, c5, c6, c7, c8, c9, c10, c11, c12, c13, c14⟩ := hS
        have e0 := c0 (hN.out.2 0 (by decide +kernel))
        have HCON := Lib.hid (SBasin.toS_any P cap l u (rd_keep hr qB.below) (by omega))
        clear qR c0 c1 c2 c3 c4 c5 c6 c7 c8 c9 c10 c11 c12 c13 c14
        go_simp
        go_at_call 67
        (with_reducible refine HCON.out.mono ?_)
        rintro e uw1 ⟨rfl, ho, hv⟩
        go_wp2_with fail
        obtain ⟨qB, qE, qR, qM, c0, c1, c2, c3, c4, c5, c6, c7, c8, c9, c10, c11, c12, c13, c14⟩ := HS9.out
        exact hK.out _ _ ⟨qB.more hv, qE.more hv, rdl_keep qR hv, own_keep qM hv, fun h => c0 (h.resolve_right (by decide)), fun _ _ => ⟨_, rfl, own_base ho qB.below.size⟩, fun h => c2 (h.resolve_right (by decide)), fun h => c3 (h.resolve_right (by decide)), fun h => c4 (h.resolve_right (by decide)), fun h => c5 (h.resolve_right (by decide)), fun h => (let ⟨A8, k8, e, O8⟩ := (c6 (h.resolve_right (by decide))); ⟨A8, k8, e, own_keep O8 hv⟩), fun h => (let ⟨A8, k8, e, O8⟩ := (c7 (h.resolve_right (by decide))); ⟨A8, k8, e, own_keep O8 hv⟩), fun h => (let ⟨A8, k8, e, O8⟩ := (c8 (h.resolve_right (by decide))); ⟨A8, k8, e, own_keep O8 hv⟩), fun h => c9 (h.resolve_right (by decide)), fun h => c10 (h.resolve_right (by decide)), fun h t0 => (let ⟨g, e, hne, hne2, hle, TY, X⟩ := (c11 (h.resolve_right (by decide)) (fun z => t0 (.inl z))); ⟨g, e, hne, hne2, hle, TY.keep hv, X.more hv⟩), fun h => (let ⟨A8, k8, e, O8⟩ := (c12 (h.resolve_right (by decide))); ⟨A8, k8, e, own_keep O8 hv⟩), fun h => (let ⟨g, e, X⟩ := (c13 (h.resolve_right (by decide))); ⟨g, e, X.more hv⟩), fun h => c14 (h.resolve_right (by decide))⟩ _ (by simp only [e0])
      apply RelH.op2
      · intro L f u K hN hS hK
        simp only [puts, Act.put, List.setIfInBounds_toArray, List.set_cons_zero, List.set_cons_succ, upd, Nat.reduceEqDiff, ↓reduceIte, if_true, if_false] at hK ⊢
        have HS9 := Lib.hid hS
        obtain ⟨qB, qE, qR, qM, c0, c1, c2, c3, c4, c5, c6, c7, c8, c9, c10, c11, c12, c13, c14⟩ := hS
        have qB_0 := qB.cells 0 _ rfl
        have qB_1 := qB.cells 1 _ rfl
        clear qR c0 c1 c2 c3 c4 c5 c6 c7 c8 c9 c10 c11 c12 c13 c14
        go_simp
        obtain ⟨qB, qE, qR, qM, c0, c1, c2, c3, c4, c5, c6, c7, c8, c9, c10, c11, c12, c13, c14⟩ := HS9.out
        exact hK.out _ _ ⟨qB, qE, qR, qM, fun h => c0 (h.resolve_right (by decide)), fun h t0 => c1 (h.resolve_right (by decide)) (fun z => t0 (.inl z)), fun _ => rfl, fun h => c3 (h.resolve_right (by decide)), fun h => c4 (h.resolve_right (by decide)), fun h => c5 (h.resolve_right (by decide)), fun h => c6 (h.resolve_right (by decide)), fun h => c7 (h.resolve_right (by decide)), fun h => c8 (h.resolve_right (by decide)), fun h => c9 (h.resolve_right (by decide)), fun h => c10 (h.resolve_right (by decide)), fun h t0 => c11 (h.resolve_right (by decide)) (fun z => t0 (.inl z)), fun h => c12 (h.resolve_right (by decide)), fun h => c13 (h.resolve_right (by decide)), fun h => c14 (h.resolve_right (by decide))⟩ _ rfl
      apply RelH.op2
      · intro L f u K hN hS hK
        simp only [puts, Act.put, List.setIfInBounds_toArray, List.set_cons_zero, List.set_cons_succ, upd, Nat.reduceEqDiff, ↓reduceIte, if_true, if_false] at hK ⊢
        have HS9 := Lib.hid hS
        obtain ⟨qB, qE, qR, qM, c0, c1, c2, c3, c4, c5, c6, c7, c8, c9, c10, c11, c12, c13, c14⟩ := hS
        have e2 := c2 (hN.out.2 2 (by decide +kernel))
        have HCON := Lib.hid (SBrine.to_any ⟨p, q⟩ u)
        clear qR c0 c1 c2 c3 c4 c5 c6 c7 c8 c9 c10 c11 c12 c13 c14
        go_simp
        go_at_call 70
        (with_reducible refine HCON.out.mono ?_)
        rintro e uw1 ⟨rfl, hv⟩
        unfold SBrine.R.val
        go_wp2_with fail
        obtain ⟨qB, qE, qR, qM, c0, c1, c2, c3, c4, c5, c6, c7, c8, c9, c10, c11, c12, c13, c14⟩ := HS9.out
        exact hK.out _ _ ⟨qB.more hv, qE.more hv, rdl_keep qR hv, own_keep qM hv, fun h => c0 (h.resolve_right (by decide)), fun h t0 => (let ⟨g, e, O⟩ := (c1 (h.resolve_right (by decide)) (fun z => t0 (.inl z))); ⟨g, e, own_keep O hv⟩), fun h => c2 (h.resolve_right (by decide)), fun _ => rfl, fun h => c4 (h.resolve_right (by decide)), fun h => c5 (h.resolve_right (by decide)), fun h => (let ⟨A8, k8, e, O8⟩ := (c6 (h.resolve_right (by decide))); ⟨A8, k8, e, own_keep O8 hv⟩), fun h => (let ⟨A8, k8, e, O8⟩ := (c7 (h.resolve_right (by decide))); ⟨A8, k8, e, own_keep O8 hv⟩), fun h => (let ⟨A8, k8, e, O8⟩ := (c8 (h.resolve_right (by decide))); ⟨A8, k8, e, own_keep O8 hv⟩), fun h => c9 (h.resolve_right (by decide)), fun h => c10 (h.resolve_right (by decide)), fun h t0 => (let ⟨g, e, hne, hne2, hle, TY, X⟩ := (c11 (h.resolve_right (by decide)) (fun z => t0 (.inl z))); ⟨g, e, hne, hne2, hle, TY.keep hv, X.more hv⟩), fun h => (let ⟨A8, k8, e, O8⟩ := (c12 (h.resolve_right (by decide))); ⟨A8, k8, e, own_keep O8 hv⟩), fun h => (let ⟨g, e, X⟩ := (c13 (h.resolve_right (by decide))); ⟨g, e, X.more hv⟩), fun h => c14 (h.resolve_right (by decide))⟩ _ (by simp only [e2])
      apply RelH.op2
      · intro L f u K hN hS hK
        simp only [puts, Act.put, List.setIfInBounds_toArray, List.set_cons_zero, List.set_cons_succ, upd, Nat.reduceEqDiff, ↓reduceIte, if_true, if_false] at hK ⊢
        have HS9 := Lib.hid hS
        obtain ⟨qB, qE, qR, qM, c0, c1, c2, c3, c4, c5, c6, c7, c8, c9, c10, c11, c12, c13, c14⟩ := hS
        clear qR c0 c1 c2 c3 c4 c5 c6 c7 c8 c9 c10 c11 c12 c13 c14
        go_simp
        obtain ⟨qB, qE, qR, qM, c0, c1, c2, c3, c4, c5, c6, c7, c8, c9, c10, c11, c12, c13, c14⟩ := HS9.out
        exact hK.out _ _ ⟨qB, qE, qR, qM, fun h => c0 (h.resolve_right (by decide)), fun h t0 => c1 (h.resolve_right (by decide)) (fun z => t0 (.inl z)), fun h => c2 (h.resolve_right (by decide)), fun h => c3 (h.resolve_right (by decide)), fun _ => rfl, fun h => c5 (h.resolve_right (by decide)), fun h => c6 (h.resolve_right (by decide)), fun h => c7 (h.resolve_right (by decide)), fun h => c8 (h.resolve_right (by decide)), fun h => c9 (h.resolve_right (by decide)), fun h => c10 (h.resolve_right (by decide)), fun h t0 => c11 (h.resolve_right (by decide)) (fun z => t0 (.inl z)), fun h => c12 (h.resolve_right (by decide)), fun h => c13 (h.resolve_right (by decide)), fun h => c14 (h.resolve_right (by decide))⟩ _ rfl
      apply RelH.op2
      · intro L f u K hN hS hK
        simp only [puts, Act.put, List.setIfInBounds_toArray, List.set_cons_zero, List.set_cons_succ, upd, Nat.reduceEqDiff, ↓reduceIte, if_true, if_false] at hK ⊢
        have HS9 := Lib.hid hS
        obtain ⟨qB, qE, qR, qM, c0, c1, c2, c3, c4, c5, c6, c7, c8, c9, c10, c11, c12, c13, c14⟩ := hS
        clear qR c0 c1 c2 c3 c4 c5 c6 c7 c8 c9 c10 c11 c12 c13 c14
        go_simp
        obtain ⟨qB, qE, qR, qM, c0, c1, c2, c3, c4, c5, c6, c7, c8, c9, c10, c11, c12, c13, c14⟩ := HS9.out
        exact hK.out _ _ ⟨qB, qE, qR, qM, fun h => c0 (h.resolve_right (by decide)), fun h t0 => c1 (h.resolve_right (by decide)) (fun z => t0 (.inl z)), fun h => c2 (h.resolve_right (by decide)), fun h => c3 (h.resolve_right (by decide)), fun h => c4 (h.resolve_right (by decide)), fun _ => rfl, fun h => c6 (h.resolve_right (by decide)), fun h => c7 (h.resolve_right (by decide)), fun h => c8 (h.resolve_right (by decide)), fun h => c9 (h.resolve_right (by decide)), fun h => c10 (h.resolve_right (by decide)), fun h t0 => c11 (h.resolve_right (by decide)) (fun z => t0 (.inl z)), fun h => c12 (h.resolve_right (by decide)), fun h => c13 (h.resolve_right (by decide)), fun h => c14 (h.resolve_right (by decide))⟩ _ rfl
      apply RelH.op2
      · intro L f u K hN hS hK
        simp only [puts, Act.put, List.setIfInBounds_toArray, List.set_cons_zero, List.set_cons_succ, upd, Nat.reduceEqDiff, ↓reduceIte, if_true, if_false] at hK ⊢
        have HS9 := Lib.hid hS
        obtain ⟨qB, qE, qR, qM, c0, c1, c2, c3, c4, c5, c6, c7, c8, c9, c10, c11, c12, c13, c14⟩ := hS
        obtain ⟨g, e1, O⟩ := c1 (hN.out.2 1 (by decide +kernel)) (hN.out.1 13 (by decide +kernel))
        have e3 := c3 (hN.out.2 3 (by decide +kernel))
        have e4 := c4 (hN.out.2 4 (by decide +kernel))
        have e5 := c5 (hN.out.2 5 (by decide +kernel))
        have HCON := Lib.hid (HIM.out (some ⟨g, 0, none⟩) l.length u (Rd.of_own O) (Nat.le_refl _))
        clear qR c0 c1 c2 c3 c4 c5 c6 c7 c8 c9 c10 c11 c12 c13 c14
        go_simp
        go_at_call 25
        (with_reducible refine HCON.out.mono ?_)
        rintro e uw1 ⟨A9, k9, rfl, ho, hv⟩
        go_wp2_with fail
        obtain ⟨qB, qE, qR, qM, c0, c1, c2, c3, c4, c5, c6, c7, c8, c9, c10, c11, c12, c13, c14⟩ := HS9.out
        exact hK.out _ _ ⟨qB.more hv, qE.more hv, rdl_keep qR hv, own_keep qM hv, fun h => c0 (h.resolve_right (by decide)), fun h t0 => (let ⟨g, e, O⟩ := (c1 (h.resolve_right (by decide)) (fun z => t0 (.inl z))); ⟨g, e, own_keep O hv⟩), fun h => c2 (h.resolve_right (by decide)), fun h => c3 (h.resolve_right (by decide)), fun h => c4 (h.resolve_right (by decide)), fun h => c5 (h.resolve_right (by decide)), fun _ => ⟨A9, k9, rfl, own_base ho qB.below.size⟩, fun h => (let ⟨A8, k8, e, O8⟩ := (c7 (h.resolve_right (by decide))); ⟨A8, k8, e, own_keep O8 hv⟩), fun h => (let ⟨A8, k8, e, O8⟩ := (c8 (h.resolve_right (by decide))); ⟨A8, k8, e, own_keep O8 hv⟩), fun h => c9 (h.resolve_right (by decide)), fun h => c10 (h.resolve_right (by decide)), fun h t0 => (let ⟨g, e, hne, hne2, hle, TY, X⟩ := (c11 (h.resolve_right (by decide)) (fun z => t0 (.inl z))); ⟨g, e, hne, hne2, hle, TY.keep hv, X.more hv⟩), fun h => (let ⟨A8, k8, e, O8⟩ := (c12 (h.resolve_right (by decide))); ⟨A8, k8, e, own_keep O8 hv⟩), fun h => (let ⟨g, e, X⟩ := (c13 (h.resolve_right (by decide))); ⟨g, e, X.more hv⟩), fun h => c14 (h.resolve_right (by decide))⟩ _ (by simp only [e1, e3, e4, e5])
      apply RelH.op2
      · intro L f u K hN hS hK
        simp only [puts, Act.put, List.setIfInBounds_toArray, List.set_cons_zero, List.set_cons_succ, upd, Nat.reduceEqDiff, ↓reduceIte, if_true, if_false] at hK ⊢
        have HS9 := Lib.hid hS
        obtain ⟨qB, qE, qR, qM, c0, c1, c2, c3, c4, c5, c6, c7, c8, c9, c10, c11, c12, c13, c14⟩ := hS
        obtain ⟨A9, k9, e6, ho⟩ := c6 (hN.out.2 6 (by decide +kernel))
        clear qR c0 c1 c2 c3 c4 c5 c6 c7 c8 c9 c10 c11 c12 c13 c14
        go_simp
        obtain ⟨qB, qE, qR, qM, c0, c1, c2, c3, c4, c5, c6, c7, c8, c9, c10, c11, c12, c13, c14⟩ := HS9.out
        exact hK.out _ _ ⟨qB, qE, qR, qM, fun h => c0 (h.resolve_right (by decide)), fun h t0 => c1 (h.resolve_right (by decide)) (fun z => t0 (.inl z)), fun h => c2 (h.resolve_right (by decide)), fun h => c3 (h.resolve_right (by decide)), fun h => c4 (h.resolve_right (by decide)), fun h => c5 (h.resolve_right (by decide)), fun h => c6 (h.resolve_right (by decide)), fun _ => ⟨A9, k9, rfl, ho⟩, fun h => c8 (h.resolve_right (by decide)), fun h => c9 (h.resolve_right (by decide)), fun h => c10 (h.resolve_right (by decide)), fun h t0 => c11 (h.resolve_right (by decide)) (fun z => t0 (.inl z)), fun h => c12 (h.resolve_right (by decide)), fun h => c13 (h.resolve_right (by decide)), fun h => c14 (h.resolve_right (by decide))⟩ _ (by simp only [e6])
      apply RelH.op2
      · intro L f u K hN hS hK
        simp only [puts, Act.put, List.setIfInBounds_toArray, List.set_cons_zero, List.set_cons_succ, upd, Nat.reduceEqDiff, ↓reduceIte, if_true, if_false] at hK ⊢
        have HS9 := Lib.hid hS
        obtain ⟨qB, qE, qR, qM, c0, c1, c2, c3, c4, c5, c6, c7, c8, c9, c10, c11, c12, c13, c14⟩ := hS
        obtain ⟨A9, k9, e7, ho⟩ := c7 (hN.out.2 7 (by decide +kernel))
        clear qR c0 c1 c2 c3 c4 c5 c6 c7 c8 c9 c10 c11 c12 c13 c14
        go_simp
        obtain ⟨qB, qE, qR, qM, c0, c1, c2, c3, c4, c5, c6, c7, c8, c9, c10, c11, c12, c13, c14⟩ := HS9.out
        exact hK.out _ _ ⟨qB, qE, qR, qM, fun h => c0 (h.resolve_right (by decide)), fun h t0 => c1 (h.resolve_right (by decide)) (fun z => t0 (.inl z)), fun h => c2 (h.resolve_right (by decide)), fun h => c3 (h.resolve_right (by decide)), fun h => c4 (h.resolve_right (by decide)), fun h => c5 (h.resolve_right (by decide)), fun h => c6 (h.resolve_right (by decide)), fun h => c7 (h.resolve_right (by decide)), fun _ => ⟨A9, k9, rfl, ho⟩, fun h => c9 (h.resolve_right (by decide)), fun h => c10 (h.resolve_right (by decide)), fun h t0 => c11 (h.resolve_right (by decide)) (fun z => t0 (.inl z)), fun h => c12 (h.resolve_right (by decide)), fun h => c13 (h.resolve_right (by decide)), fun h => c14 (h.resolve_right (by decide))⟩ _ (by simp only [e7])
      apply RelH.op2
      · intro L f u K hN hS hK
        simp only [puts, Act.put, List.setIfInBounds_toArray, List.set_cons_zero, List.set_cons_succ, upd, Nat.reduceEqDiff, ↓reduceIte, if_true, if_false] at hK ⊢
        have HS9 := Lib.hid hS
        obtain ⟨qB, qE, qR, qM, c0, c1, c2, c3, c4, c5, c6, c7, c8, c9, c10, c11, c12, c13, c14⟩ := hS
        obtain ⟨A9, k9, e7, ho⟩ := c7 (hN.out.2 7 (by decide +kernel))
        clear qR c0 c1 c2 c3 c4 c5 c6 c7 c8 c9 c10 c11 c12 c13 c14
        go_simp
        obtain ⟨qB, qE, qR, qM, c0, c1, c2, c3, c4, c5, c6, c7, c8, c9, c10, c11, c12, c13, c14⟩ := HS9.out
        exact hK.out _ _ ⟨qB, qE, qR, qM, fun h => c0 (h.resolve_right (by decide)), fun h t0 => c1 (h.resolve_right (by decide)) (fun z => t0 (.inl z)), fun h => c2 (h.resolve_right (by decide)), fun h => c3 (h.resolve_right (by decide)), fun h => c4 (h.resolve_right (by decide)), fun h => c5 (h.resolve_right (by decide)), fun h => c6 (h.resolve_right (by decide)), fun h => c7 (h.resolve_right (by decide)), fun h => c8 (h.resolve_right (by decide)), fun _ => rfl, fun h => c10 (h.resolve_right (by decide)), fun h t0 => c11 (h.resolve_right (by decide)) (fun z => t0 (.inl z)), fun h => c12 (h.resolve_right (by decide)), fun h => c13 (h.resolve_right (by decide)), fun h => c14 (h.resolve_right (by decide))⟩ _ (by simp only [e7])
      apply RelH.op2
      · intro L f u K hN hS hK
        simp only [puts, Act.put, List.setIfInBounds_toArray, List.set_cons_zero, List.set_cons_succ, upd, Nat.reduceEqDiff, ↓reduceIte, if_true, if_false] at hK ⊢
        have HS9 := Lib.hid hS
        obtain ⟨qB, qE, qR, qM, c0, c1, c2, c3, c4, c5, c6, c7, c8, c9, c10, c11, c12, c13, c14⟩ := hS
        obtain ⟨A9, k9, e7, ho⟩ := c7 (hN.out.2 7 (by decide +kernel))
        clear qR c0 c1 c2 c3 c4 c5 c6 c7 c8 c9 c10 c11 c12 c13 c14
        go_simp
        obtain ⟨qB, qE, qR, qM, c0, c1, c2, c3, c4, c5, c6, c7, c8, c9, c10, c11, c12, c13, c14⟩ := HS9.out
        exact hK.out _ _ ⟨qB, qE, qR, qM, fun h => c0 (h.resolve_right (by decide)), fun h t0 => c1 (h.resolve_right (by decide)) (fun z => t0 (.inl z)), fun h => c2 (h.resolve_right (by decide)), fun h => c3 (h.resolve_right (by decide)), fun h => c4 (h.resolve_right (by decide)), fun h => c5 (h.resolve_right (by decide)), fun h => c6 (h.resolve_right (by decide)), fun h => c7 (h.resolve_right (by decide)), fun h => c8 (h.resolve_right (by decide)), fun h => c9 (h.resolve_right (by decide)), fun _ => rfl, fun h t0 => c11 (h.resolve_right (by decide)) (fun z => t0 (.inl z)), fun h => c12 (h.resolve_right (by decide)), fun h => c13 (h.resolve_right (by decide)), fun h => c14 (h.resolve_right (by decide))⟩ _ (by simp only [e7])
      apply RelH.op2
      · intro L f u K hN hS hK
        simp only [puts, Act.put, List.setIfInBounds_toArray, List.set_cons_zero, List.set_cons_succ, upd, Nat.reduceEqDiff, ↓reduceIte, if_true, if_false] at hK ⊢
        have HS9 := Lib.hid hS
        obtain ⟨qB, qE, qR, qM, c0, c1, c2, c3, c4, c5, c6, c7, c8, c9, c10, c11, c12, c13, c14⟩ := hS
        have hv : Below u.heap.size u (u.alloc (.cells #[.int .i64 0, .int .i64 0] 26)) := al (Below.refl _ _)
        have hX := Box.new qB.below [.int .i64 0, .int .i64 0] 26 (g := u.heap.size) rfl
        have hTB := Tb.new u #[.int .i64 0, .int .i64 0]
        have hne : u.heap.size ≠ w.heap.size := by have := qB.there; omega
        have hne2 : u.heap.size ≠ eb := by have := qE.there; omega
        have hle : V0.heap.size ≤ u.heap.size := qR.1
        clear qR c0 c1 c2 c3 c4 c5 c6 c7 c8 c9 c10 c11 c12 c13 c14
        go_simp
        obtain ⟨qB, qE, qR, qM, c0, c1, c2, c3, c4, c5, c6, c7, c8, c9, c10, c11, c12, c13, c14⟩ := HS9.out
        exact hK.out _ _ ⟨qB.more hv, qE.more hv, rdl_keep qR hv, own_keep qM hv, fun h => c0 (h.resolve_right (by decide)), fun h t0 => (let ⟨g, e, O⟩ := (c1 (h.resolve_right (by decide)) (fun z => t0 (.inl z))); ⟨g, e, own_keep O hv⟩), fun h => c2 (h.resolve_right (by decide)), fun h => c3 (h.resolve_right (by decide)), fun h => c4 (h.resolve_right (by decide)), fun h => c5 (h.resolve_right (by decide)), fun h => (let ⟨A8, k8, e, O8⟩ := (c6 (h.resolve_right (by decide))); ⟨A8, k8, e, own_keep O8 hv⟩), fun h => (let ⟨A8, k8, e, O8⟩ := (c7 (h.resolve_right (by decide))); ⟨A8, k8, e, own_keep O8 hv⟩), fun h => (let ⟨A8, k8, e, O8⟩ := (c8 (h.resolve_right (by decide))); ⟨A8, k8, e, own_keep O8 hv⟩), fun h => c9 (h.resolve_right (by decide)), fun h => c10 (h.resolve_right (by decide)), fun _ _ => ⟨_, rfl, hne, hne2, hle, hTB, hX⟩, fun h => (let ⟨A8, k8, e, O8⟩ := (c12 (h.resolve_right (by decide))); ⟨A8, k8, e, own_keep O8 hv⟩), fun h => absurd (h.resolve_right (by decide)) (hN.out.1 13 (by decide +kernel)), fun h => c14 (h.resolve_right (by decide))⟩ _ rfl
      apply RelH.op2
      · intro L f u K hN hS hK
        simp only [puts, Act.put, List.setIfInBounds_toArray, List.set_cons_zero, List.set_cons_succ, upd, Nat.reduceEqDiff, ↓reduceIte, if_true, if_false] at hK ⊢
        have HS9 := Lib.hid hS
        obtain ⟨qB, qE, qR, qM, c0, c1, c2, c3, c4, c5, c6, c7, c8, c9, c10, c11, c12, c13, c14⟩ := hS
        obtain ⟨A9, k9, e8, ho⟩ := c8 (hN.out.2 8 (by decide +kernel))
        clear qR c0 c1 c2 c3 c4 c5 c6 c7 c8 c9 c10 c11 c12 c13 c14
        go_simp
        obtain ⟨qB, qE, qR, qM, c0, c1, c2, c3, c4, c5, c6, c7, c8, c9, c10, c11, c12, c13, c14⟩ := HS9.out
        exact hK.out _ _ ⟨qB, qE, qR, qM, fun h => c0 (h.resolve_right (by decide)), fun h t0 => c1 (h.resolve_right (by decide)) (fun z => t0 (.inl z)), fun h => c2 (h.resolve_right (by decide)), fun h => c3 (h.resolve_right (by decide)), fun h => c4 (h.resolve_right (by decide)), fun h => c5 (h.resolve_right (by decide)), fun h => c6 (h.resolve_right (by decide)), fun h => c7 (h.resolve_right (by decide)), fun h => c8 (h.resolve_right (by decide)), fun h => c9 (h.resolve_right (by decide)), fun h => c10 (h.resolve_right (by decide)), fun h t0 => c11 (h.resolve_right (by decide)) (fun z => t0 (.inl z)), fun _ => ⟨A9, k9, rfl, ho⟩, fun h => c13 (h.resolve_right (by decide)), fun h => c14 (h.resolve_right (by decide))⟩ _ (by simp only [e8])
      apply RelH.op2
      · intro L f u K hN hS hK
        simp only [puts, Act.put, List.setIfInBounds_toArray, List.set_cons_zero, List.set_cons_succ, upd, Nat.reduceEqDiff, ↓reduceIte, if_true, if_false] at hK ⊢
        have HS9 := Lib.hid hS
        obtain ⟨qB, qE, qR, qM, c0, c1, c2, c3, c4, c5, c6, c7, c8, c9, c10, c11, c12, c13, c14⟩ := hS
        obtain ⟨g, e11, hne, hne2, hle, TY, X⟩ := c11 (hN.out.2 11 (by decide +kernel)) (hN.out.1 13 (by decide +kernel))
        have e9 := c9 (hN.out.2 9 (by decide +kernel))
        have X_0 := X.cells 0 _ rfl
        have X_1 := X.cells 1 _ rfl
        have X_f0 := X.free 0 (by simp)
        have X_f1 := X.free 1 (by simp)
        clear qR c0 c1 c2 c3 c4 c5 c6 c7 c8 c9 c10 c11 c12 c13 c14
        go_simp
        obtain ⟨qB, qE, qR, qM, c0, c1, c2, c3, c4, c5, c6, c7, c8, c9, c10, c11, c12, c13, c14⟩ := HS9.out
        exact hK.out undef _ ⟨(qB.far X.base hne 0 _).far X.base hne 1 _, (qE.far X.base hne2 0 _).far X.base hne2 1 _, rdl_far2 qR hle _ _, own_tb2 qM TY _ _, fun h => c0 (h.resolve_right (by decide)), fun h t0 => (t0 (by simp)).elim, fun h => c2 (h.resolve_right (by decide)), fun h => c3 (h.resolve_right (by decide)), fun h => c4 (h.resolve_right (by decide)), fun h => c5 (h.resolve_right (by decide)), fun h => (let ⟨A8, k8, e, O8⟩ := (c6 (h.resolve_right (by decide))); ⟨A8, k8, e, own_tb2 O8 TY _ _⟩), fun h => (let ⟨A8, k8, e, O8⟩ := (c7 (h.resolve_right (by decide))); ⟨A8, k8, e, own_tb2 O8 TY _ _⟩), fun h => (let ⟨A8, k8, e, O8⟩ := (c8 (h.resolve_right (by decide))); ⟨A8, k8, e, own_tb2 O8 TY _ _⟩), fun h => c9 (h.resolve_right (by decide)), fun h => c10 (h.resolve_right (by decide)), fun h t0 => (t0 (by simp)).elim, fun h => (let ⟨A8, k8, e, O8⟩ := (c12 (h.resolve_right (by decide))); ⟨A8, k8, e, own_tb2 O8 TY _ _⟩), fun _ => ⟨g, e11, (X.set 0 (.int .i64 x)).set 1 (.int .i64 y)⟩, fun h => c14 (h.resolve_right (by decide))⟩ _ (by simp only [e11, e9])
      apply RelH.op2
      · intro L f u K hN hS hK
        simp only [puts, Act.put, List.setIfInBounds_toArray, List.set_cons_zero, List.set_cons_succ, upd, Nat.reduceEqDiff, ↓reduceIte, if_true, if_false] at hK ⊢
        have HS9 := Lib.hid hS
        obtain ⟨qB, qE, qR, qM, c0, c1, c2, c3, c4, c5, c6, c7, c8, c9, c10, c11, c12, c13, c14⟩ := hS
        have e10 := c10 (hN.out.2 10 (by decide +kernel))
        clear qR c0 c1 c2 c3 c4 c5 c6 c7 c8 c9 c10 c11 c12 c13 c14
        go_simp
        obtain ⟨qB, qE, qR, qM, c0, c1, c2, c3, c4, c5, c6, c7, c8, c9, c10, c11, c12, c13, c14⟩ := HS9.out
        exact hK.out _ _ ⟨qB, qE, qR, qM, fun h => c0 (h.resolve_right (by decide)), fun h t0 => c1 (h.resolve_right (by decide)) (fun z => t0 (.inl z)), fun h => c2 (h.resolve_right (by decide)), fun h => c3 (h.resolve_right (by decide)), fun h => c4 (h.resolve_right (by decide)), fun h => c5 (h.resolve_right (by decide)), fun h => c6 (h.resolve_right (by decide)), fun h => c7 (h.resolve_right (by decide)), fun h => c8 (h.resolve_right (by decide)), fun h => c9 (h.resolve_right (by decide)), fun h => c10 (h.resolve_right (by decide)), fun h t0 => c11 (h.resolve_right (by decide)) (fun z => t0 (.inl z)), fun h => c12 (h.resolve_right (by decide)), fun h => c13 (h.resolve_right (by decide)), fun _ => rfl⟩ _ (by simp only [e10])
      exact RelH.done
    intro L f V1 hL hS
    simp only [puts, Act.put, List.setIfInBounds_toArray, List.set_cons_zero, List.set_cons_succ]
    obtain ⟨qB, qE, qR, qM, c0, c1, c2, c3, c4, c5, c6, c7, c8, c9, c10, c11, c12, c13, c14⟩ := hS
    clear B RL OM E
    have B := qB; clear qB
    have RL := qR; clear qR
    have OM := qM; clear qM
    have E := qE; clear qE
    obtain ⟨A2, k2, e8, O2⟩ := c12 (hL 12 (by decide))
    obtain ⟨fb, e7, F⟩ := c13 (hL 13 (by decide))
    have e9 := c14 (hL 14 (by decide))
    simp only [e7, e8, e9]
    clear e7 e8 e9
    clear c0 c1 c2 c3 c4 c5 c6 c7 c8 c9 c10 c11 c12 c13 c14 hL
    have E_0 := E.cells 0 _ rfl
    have E_1 := E.cells 1 _ rfl
    have E_f0 := E.free 0 (by simp)
    have E_f1 := E.free 1 (by simp)
    have E_t := E.there
    have F_0 := F.cells 0 _ rfl
    have F_1 := F.cells 1 _ rfl
    have F_f0 := F.free 0 (by simp)
    have F_f1 := F.free 1 (by simp)
    have F_t := F.there
    go_wp2_with fail
    go_wp2_with fail
    refine (SBasin.eqS_any A2 A0 k2 k0 M M _ (Rd.of_own O2) RL.rd HM.out HM.out).mono ?_
    rintro e v16 ⟨rfl, hv16⟩
    clear B_0 B_1 B_f0 B_f1 B_t
    clear E_0 E_1 E_f0 E_f1 E_t
    clear F_0 F_1 F_f0 F_f1 F_t
    replace B := B.more hv16
    replace E := E.more hv16
    replace F := F.more hv16
    replace RL := rdl_keep RL hv16
    replace OM := own_keep OM hv16
    have zhv16 := hv16.size
    clear hv16
    have B_0 := B.cells 0 _ rfl
    have B_1 := B.cells 1 _ rfl
    have B_f0 := B.free 0 (by simp)
    have B_f1 := B.free 1 (by simp)
    have B_t := B.there
    have E_0 := E.cells 0 _ rfl
    have E_1 := E.cells 1 _ rfl
    have E_f0 := E.free 0 (by simp)
    have E_f1 := E.free 1 (by simp)
    have E_t := E.there
    have F_0 := F.cells 0 _ rfl
    have F_1 := F.cells 1 _ rfl
    have F_f0 := F.free 0 (by simp)
    have F_f1 := F.free 1 (by simp)
    have F_t := F.there
    rw [decide_eq_true rfl]
    clear O2
    go_wp2_with fail
    refine (SBrine.eq_any ⟨x, y⟩ ⟨x, y⟩ _).mono ?_
    rintro e v17 ⟨rfl, hv17⟩
    clear B_0 B_1 B_f0 B_f1 B_t
    clear E_0 E_1 E_f0 E_f1 E_t
    clear F_0 F_1 F_f0 F_f1 F_t
    replace B := B.more hv17
    replace E := E.more hv17
    replace F := F.more hv17
    replace RL := rdl_keep RL hv17
    replace OM := own_keep OM hv17
    have zhv17 := hv17.size
    clear hv17
    have B_0 := B.cells 0 _ rfl
    have B_1 := B.cells 1 _ rfl
    have B_f0 := B.free 0 (by simp)
    have B_f1 := B.free 1 (by simp)
    have B_t := B.there
    have E_0 := E.cells 0 _ rfl
    have E_1 := E.cells 1 _ rfl
    have E_f0 := E.free 0 (by simp)
    have E_f1 := E.free 1 (by simp)
    have E_t := E.there
    have F_0 := F.cells 0 _ rfl
    have F_1 := F.cells 1 _ rfl
    have F_f0 := F.free 0 (by simp)
    have F_f1 := F.free 1 (by simp)
    have F_t := F.there
    rw [SBrine.same_self]
    go_wp2_with fail
    refine (SBasin.heldS_any A1 k1 _ 1 M.length _ (Rd.of_own OM) (by omega) (by omega) (by omega)).mono ?_
    rintro e v18 ⟨rfl, hd⟩
    go_wp2
    go_ret
    exact ⟨rfl, be B.below (hd.below _)⟩
end Go.Proofs.Ytciohcipmkhneaa.Laws8b
