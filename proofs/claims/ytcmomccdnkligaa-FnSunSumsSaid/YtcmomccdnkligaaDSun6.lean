/- The draw of PutSun. -/
import Derived.Test.YtcmomccdnkligaaDSun2
import Derived.Laws.OwnMore
namespace Go.Proofs.Ytcmomccdnkligaa.DSun6
open Go.RowKit Go.Proofs.Ytcmomccdnkligaa.Mem Go.Proofs.Ytcmomccdnkligaa.Base Go.Proofs.Ytcmomccdnkligaa.Draw Go.Proofs.Ytcmomccdnkligaa.Boxes Go.Proofs.Ytcmomccdnkligaa.Keep Go.Proofs.Ytcmomccdnkligaa.Dr Go.Proofs.Ytcmomccdnkligaa.Regn Go.Proofs.Ytcmomccdnkligaa.SSun Go.Proofs.Ytcmomccdnkligaa.DSun Go.Proofs.Ytcmomccdnkligaa.DSun2
set_option linter.unusedVariables false
set_option linter.unusedSimpArgs false
set_option maxRecDepth 100000
def DP (w : World) (e : Ending) (w' : World) : Prop :=
  ∃ (M : List R) (g c : Nat) (x y : Int), M.length ≤ 25 ∧ e = .returned (.tuple #[.slice (some ⟨g, 0, none⟩) M.length c, .agg #[.int .i64 x, .int .i64 y]]) ∧ w'.ownsRow w.heap.size 42 2 (.slice (some ⟨g, 0, none⟩) M.length c) M.length (flat M) ∧ Below w.heap.size w w'
set_option maxHeartbeats 1600000 in
theorem drawPut (A : Option Addr) (cap : Nat) (zs : List Int) (w : World) (h : Draw.Src w A zs) : Calls Try.prog 33 #[.slice A zs.length cap] w (DP w) := by
  have C0 := cu_at (h.below (al (Below.refl _ w) (o := .cells #[.int .i64 0, .int .i64 0] 42))) cap (p := w.heap.size + 1) (by rw [size_alloc'])
  have R0 := (Cb.new w [.int .i64 0, .int .i64 0] 42 (g := w.heap.size) rfl).alloc (.cells #[.slice A zs.length cap, .int .i64 0, .int .u64 0] 68)
  have G0 : w.grownBy ((w.alloc (.cells #[.int .i64 0, .int .i64 0] 42)).alloc (.cells #[.slice A zs.length cap, .int .i64 0, .int .u64 0] 68)) (some (w.heap.size + 1)) := grown_trans (grown_alloc w _ _) (grown_alloc _ _ _)
  have S0 : ((w.alloc (.cells #[.int .i64 0, .int .i64 0] 42)).alloc (.cells #[.slice A zs.length cap, .int .i64 0, .int .u64 0] 68)).heap.size = w.heap.size + 1 + 1 := by rw [size_alloc', size_alloc']
  have H0 := Lib.hid (And.intro C0 (And.intro R0 (And.intro G0 S0))); clear C0 R0 G0 S0
  go_enter Try.func33, Try.ntmps33
  go_wp2_with fail
  obtain ⟨C0, R, GW, sv⟩ := H0.out
  obtain ⟨B, C⟩ : ∃ B, Cu B zs (w.heap.size + 1) 0 ((w.alloc (.cells #[.int .i64 0, .int .i64 0] 42)).alloc (.cells #[.slice A zs.length cap, .int .i64 0, .int .u64 0] 68)) := ⟨_, C0⟩
  clear C0 H0
  generalize (w.alloc (.cells #[.int .i64 0, .int .i64 0] 42)).alloc (.cells #[.slice A zs.length cap, .int .i64 0, .int .u64 0] 68) = v at C R GW sv ⊢
  have zw : w.heap.size < w.heap.size + 1 := Nat.lt_succ_self _
  have zv := GW.size
  have hp := C.lt
  have hB := C.base
  generalize w.heap.size + 1 = p at *
  try go_wp2_with fail
  refine (suns_d B zs p (0) _ C (by omega)).mono ?_
  rintro e u121 ⟨M, g, c, hl, rfl, O, C1, G⟩
  have yu121 : v.heap.size ≤ u121.heap.size := G.size
  replace R := (R).went G (by omega)
  replace GW := grown_trans GW G
  replace C := C1
  clear C1 G
  have zu121 := GW.size
  have hg0 := own_ge O g (by simp [Value.ownBlock])
  have hgl := own_lt O
  try go_wp2_with fail
  refine (among_d B zs p (0 + 500) _ _ 6 [0, 1, 3, 101, 4000, 4001] (C.alloc (.cells #[.int .i64 0, .int .i64 1, .int .i64 3, .int .i64 101, .int .i64 4000, .int .i64 4001] 3)) (by omega) (lst_at u121 _ _ (by omega)) (by omega) (by simp) (by simp)).mono ?_
  rintro e u122 ⟨x, hx, rfl, C1, G⟩
  have x_r : 0 ≤ x ∧ x ≤ 4001 := by simp at hx; omega
  clear hx
  have yu122 : u121.heap.size ≤ u122.heap.size := (by have := G.size; simp only [size_alloc'] at this; omega)
  replace R := (R.alloc (.cells #[.int .i64 0, .int .i64 1, .int .i64 3, .int .i64 101, .int .i64 4000, .int .i64 4001] 3)).went G (by omega)
  replace O := own_grown (own_keep O (al (Below.refl _ _) (o := (.cells #[.int .i64 0, .int .i64 1, .int .i64 3, .int .i64 101, .int .i64 4000, .int .i64 4001] 3)))) G (fun k hk => by injection hk with hk; omega)
  replace GW := grown_trans (grown_trans GW (grown_alloc _ (.cells #[.int .i64 0, .int .i64 1, .int .i64 3, .int .i64 101, .int .i64 4000, .int .i64 4001] 3) _)) G
  replace C := C1
  clear C1 G
  have zu122 := GW.size
  try go_wp2_with fail
  refine (among_d B zs p (0 + 500 + 2) _ _ 4 [0, 500, 20000, 20001] (C.alloc (.cells #[.int .i64 0, .int .i64 500, .int .i64 20000, .int .i64 20001] 3)) (by omega) (lst_at u122 _ _ (by omega)) (by omega) (by simp) (by simp)).mono ?_
  rintro e u123 ⟨y, hx, rfl, C1, G⟩
  have y_r : 0 ≤ y ∧ y ≤ 20001 := by simp at hx; omega
  clear hx
  have yu123 : u122.heap.size ≤ u123.heap.size := (by have := G.size; simp only [size_alloc'] at this; omega)
  replace R := (R.alloc (.cells #[.int .i64 0, .int .i64 500, .int .i64 20000, .int .i64 20001] 3)).went G (by omega)
  replace O := own_grown (own_keep O (al (Below.refl _ _) (o := (.cells #[.int .i64 0, .int .i64 500, .int .i64 20000, .int .i64 20001] 3)))) G (fun k hk => by injection hk with hk; omega)
  replace GW := grown_trans (grown_trans GW (grown_alloc _ (.cells #[.int .i64 0, .int .i64 500, .int .i64 20000, .int .i64 20001] 3) _)) G
  replace C := C1
  clear C1 G
  have zu123 := GW.size
  by_cases h0 : M.length = 0
  · have hq : decide ((0 : Int) < M.length) = false := decide_eq_false (by omega)
    have hq2 : decide (0 < M.length) = false := decide_eq_false (by omega)
    have HL0 := Lib.hid h0; clear h0
    go_wp2_with fail
    have S := Cb.new u123 [.int .i64 x, .int .i64 y] 42 (g := u123.heap.size) rfl
    replace R := (R.alloc (.cells #[.int .i64 x, .int .i64 y] 42))
    replace C := (C.alloc (.cells #[.int .i64 x, .int .i64 y] 42))
    replace GW := (grown_trans GW (grown_alloc _ (.cells #[.int .i64 x, .int .i64 y] 42) _))
    replace O := own_keep O (al (Below.refl _ _) (o := (.cells #[.int .i64 x, .int .i64 y] 42)))
    have su124 : (u123.alloc (.cells #[.int .i64 x, .int .i64 y] 42)).heap.size = u123.heap.size + 1 := by simp only [size_alloc']
    generalize (u123.alloc (.cells #[.int .i64 x, .int .i64 y] 42)) = u124 at S R O GW C su124 ⊢
    have zu124 := GW.size
    clear C
    refine wp_region_rel [35, 36, 2] (fun L f w' => (w'.ownsRow v.heap.size 42 2 (.slice (some ⟨g, 0, none⟩) M.length c) M.length (flat M)) ∧ (Cb u123.heap.size [.int .i64 x, .int .i64 y] w') ∧ (w.grownBy w' (some p)) ∧ (¬ L 3 → Cb w.heap.size [.int .i64 0, .int .i64 0] w') ∧ (L 0 → f 35 = .slice (some ⟨g, 0, none⟩) M.length c) ∧ (L 1 → f 36 = .agg #[.int .i64 x, .int .i64 y]) ∧ (L 2 → f 2 = .slice (some ⟨g, 0, none⟩) M.length c) ∧ (L 3 → Cb w.heap.size [.int .i64 x, .int .i64 y] w')) (by kernel_rfl) (by kernel_rfl) (by kernel_rfl) (fun f => ⟨own_keep O (Below.refl _ _).drew, S.more (Below.refl _ _).drew, grown_more GW (Below.refl _ _).drew, fun _ => R.more (Below.refl _ _).drew, fun h => h.elim, fun h => h.elim, fun h => h.elim, fun h => h.elim⟩) ?_ ?_
    · apply RelH.op2
      · intro L f u K hN hS hK
        simp only [puts, Act.put, List.setIfInBounds_toArray, List.set_cons_zero, List.set_cons_succ, upd, Nat.reduceEqDiff, ↓reduceIte, if_true, if_false] at hK ⊢
        have HS9 := Lib.hid hS
        obtain ⟨qO, qS, qG, qR, c0, c1, c2, c3⟩ := hS
        clear qR c0 c1 c2 c3
        go_simp
        obtain ⟨qO, qS, qG, qR, c0, c1, c2, c3⟩ := HS9.out
        exact hK.out _ _ ⟨qO, qS, qG, fun z9 => qR (fun z => z9 (.inl z)), fun _ => rfl, fun h => c1 (h.resolve_right (by decide)), fun h => c2 (h.resolve_right (by decide)), fun h => c3 (h.resolve_right (by decide))⟩ _ rfl
      apply RelH.op2
      · intro L f u K hN hS hK
        simp only [puts, Act.put, List.setIfInBounds_toArray, List.set_cons_zero, List.set_cons_succ, upd, Nat.reduceEqDiff, ↓reduceIte, if_true, if_false] at hK ⊢
        have HS9 := Lib.hid hS
        obtain ⟨qO, qS, qG, qR, c0, c1, c2, c3⟩ := hS
        have qS_0 := qS.cells 0 _ rfl
        have qS_1 := qS.cells 1 _ rfl
        clear qR c0 c1 c2 c3
        go_simp
        obtain ⟨qO, qS, qG, qR, c0, c1, c2, c3⟩ := HS9.out
        exact hK.out _ _ ⟨qO, qS, qG, fun z9 => qR (fun z => z9 (.inl z)), fun h => c0 (h.resolve_right (by decide)), fun _ => rfl, fun h => c2 (h.resolve_right (by decide)), fun h => c3 (h.resolve_right (by decide))⟩ _ rfl
      apply RelH.op2
      · intro L f u K hN hS hK
        simp only [puts, Act.put, List.setIfInBounds_toArray, List.set_cons_zero, List.set_cons_succ, upd, Nat.reduceEqDiff, ↓reduceIte, if_true, if_false] at hK ⊢
        have HS9 := Lib.hid hS
        obtain ⟨qO, qS, qG, qR, c0, c1, c2, c3⟩ := hS
        have e0 := c0 (hN.out.2 0 (by decide +kernel))
        clear qR c0 c1 c2 c3
        go_simp
        obtain ⟨qO, qS, qG, qR, c0, c1, c2, c3⟩ := HS9.out
        exact hK.out _ _ ⟨qO, qS, qG, fun z9 => qR (fun z => z9 (.inl z)), fun h => c0 (h.resolve_right (by decide)), fun h => c1 (h.resolve_right (by decide)), fun _ => rfl, fun h => c3 (h.resolve_right (by decide))⟩ _ (by simp only [e0])
      apply RelH.op2
      · intro L f u K hN hS hK
        simp only [puts, Act.put, List.setIfInBounds_toArray, List.set_cons_zero, List.set_cons_succ, upd, Nat.reduceEqDiff, ↓reduceIte, if_true, if_false] at hK ⊢
        have HS9 := Lib.hid hS
        obtain ⟨qO, qS, qG, qR, c0, c1, c2, c3⟩ := hS
        have e1 := c1 (hN.out.2 1 (by decide +kernel))
        have qR1 := qR (hN.out.1 3 (by decide +kernel))
        have R_0 := qR1.cells 0 _ rfl
        have R_1 := qR1.cells 1 _ rfl
        have R_f0 := qR1.free 0 (by simp)
        have R_f1 := qR1.free 1 (by simp)
        clear qR c0 c1 c2 c3
        go_simp
        obtain ⟨qO, qS, qG, qR, c0, c1, c2, c3⟩ := HS9.out
        exact hK.out undef _ ⟨own_far (own_far qO (k := w.heap.size) (by omega) 0 (.int .i64 (x))) (k := w.heap.size) (by omega) 1 (.int .i64 y), (qS.far (k := w.heap.size) (by omega) 0 (.int .i64 (x))).far (k := w.heap.size) (by omega) 1 (.int .i64 y), grown_set (grown_set qG (Nat.le_refl _) 0 (.int .i64 (x))) (Nat.le_refl _) 1 (.int .i64 y), fun z9 => (z9 (by simp)).elim, fun h => c0 (h.resolve_right (by decide)), fun h => c1 (h.resolve_right (by decide)), fun h => c2 (h.resolve_right (by decide)), fun _ => (qR1.set 0 (.int .i64 (x))).set 1 (.int .i64 y)⟩ _ (by simp only [e1])
      exact RelH.done
    intro L f V0 hL hS
    simp only [puts, Act.put, List.setIfInBounds_toArray, List.set_cons_zero, List.set_cons_succ]
    obtain ⟨qO, qS, qG, qR, c0, c1, c2, c3⟩ := hS
    have Q := c3 (hL 3 (by decide))
    have e2 := c2 (hL 2 (by decide))
    simp only [e2]
    clear e2 c0 c1 c2 c3 hL qR R S O GW
    have q0 := Q.cells 0 _ rfl
    have q1 := Q.cells 1 _ rfl
    have HB := Lib.hid (below_of (Below.refl w.heap.size w) qG (fun k hk => by injection hk with hk; omega))
    have HO := Lib.hid (own_base qO (base' := w.heap.size) (by omega))
    clear qG qO qS
    go_wp2
    exact bodyPost_ret (v := .tuple #[.slice (some ⟨g, 0, none⟩) M.length c, .agg #[.int .i64 (x), .int .i64 y]]) (by simp [results, Try.results33, go_sem, q0, q1]) rfl ⟨M, g, c, x, y, hl, rfl, HO.out, HB.out⟩
  · have hq : decide ((0 : Int) < M.length) = true := decide_eq_true (by omega)
    have hq2 : decide (0 < M.length) = true := decide_eq_true (by omega)
    go_wp2_with fail
    have S := Cb.new u123 [.int .i64 x, .int .i64 y] 42 (g := u123.heap.size) rfl
    replace R := (R.alloc (.cells #[.int .i64 x, .int .i64 y] 42))
    replace C := (C.alloc (.cells #[.int .i64 x, .int .i64 y] 42))
    replace GW := (grown_trans GW (grown_alloc _ (.cells #[.int .i64 x, .int .i64 y] 42) _))
    replace O := own_keep O (al (Below.refl _ _) (o := (.cells #[.int .i64 x, .int .i64 y] 42)))
    have su124 : (u123.alloc (.cells #[.int .i64 x, .int .i64 y] 42)).heap.size = u123.heap.size + 1 := by simp only [size_alloc']
    generalize (u123.alloc (.cells #[.int .i64 x, .int .i64 y] 42)) = u124 at S R O GW C su124 ⊢
    have zu124 := GW.size
    try go_wp2_with fail
    refine (one_d B zs p (0 + 500 + 2 + 2) _ 3 C (by omega) (by omega) (by omega)).mono ?_
    rintro e u125 ⟨q, rfl, C1, G⟩
    have yu125 : u124.heap.size ≤ u125.heap.size := G.size
    replace R := (R).went G (by omega)
    replace S := (S).went G (by omega)
    replace O := own_grown O G (fun k hk => by injection hk with hk; omega)
    replace GW := grown_trans GW G
    replace C := C1
    clear C1 G
    have zu125 := GW.size
    cases q
    · go_wp2_with fail
      clear C
      refine wp_region_rel [35, 36, 2] (fun L f w' => (w'.ownsRow v.heap.size 42 2 (.slice (some ⟨g, 0, none⟩) M.length c) M.length (flat M)) ∧ (Cb u123.heap.size [.int .i64 x, .int .i64 y] w') ∧ (w.grownBy w' (some p)) ∧ (¬ L 3 → Cb w.heap.size [.int .i64 0, .int .i64 0] w') ∧ (L 0 → f 35 = .slice (some ⟨g, 0, none⟩) M.length c) ∧ (L 1 → f 36 = .agg #[.int .i64 x, .int .i64 y]) ∧ (L 2 → f 2 = .slice (some ⟨g, 0, none⟩) M.length c) ∧ (L 3 → Cb w.heap.size [.int .i64 x, .int .i64 y] w')) (by kernel_rfl) (by kernel_rfl) (by kernel_rfl) (fun f => ⟨own_keep O (Below.refl _ _).drew, S.more (Below.refl _ _).drew, grown_more GW (Below.refl _ _).drew, fun _ => R.more (Below.refl _ _).drew, fun h => h.elim, fun h => h.elim, fun h => h.elim, fun h => h.elim⟩) ?_ ?_
      · apply RelH.op2
        · intro L f u K hN hS hK
          simp only [puts, Act.put, List.setIfInBounds_toArray, List.set_cons_zero, List.set_cons_succ, upd, Nat.reduceEqDiff, ↓reduceIte, if_true, if_false] at hK ⊢
          have HS9 := Lib.hid hS
          obtain ⟨qO, qS, qG, qR, c0, c1, c2, c3⟩ := hS
          clear qR c0 c1 c2 c3
          go_simp
          obtain ⟨qO, qS, qG, qR, c0, c1, c2, c3⟩ := HS9.out
          exact hK.out _ _ ⟨qO, qS, qG, fun z9 => qR (fun z => z9 (.inl z)), fun _ => rfl, fun h => c1 (h.resolve_right (by decide)), fun h => c2 (h.resolve_right (by decide)), fun h => c3 (h.resolve_right (by decide))⟩ _ rfl
        apply RelH.op2
        · intro L f u K hN hS hK
          simp only [puts, Act.put, List.setIfInBounds_toArray, List.set_cons_zero, List.set_cons_succ, upd, Nat.reduceEqDiff, ↓reduceIte, if_true, if_false] at hK ⊢
          have HS9 := Lib.hid hS
          obtain ⟨qO, qS, qG, qR, c0, c1, c2, c3⟩ := hS
          have qS_0 := qS.cells 0 _ rfl
          have qS_1 := qS.cells 1 _ rfl
          clear qR c0 c1 c2 c3
          go_simp
          obtain ⟨qO, qS, qG, qR, c0, c1, c2, c3⟩ := HS9.out
          exact hK.out _ _ ⟨qO, qS, qG, fun z9 => qR (fun z => z9 (.inl z)), fun h => c0 (h.resolve_right (by decide)), fun _ => rfl, fun h => c2 (h.resolve_right (by decide)), fun h => c3 (h.resolve_right (by decide))⟩ _ rfl
        apply RelH.op2
        · intro L f u K hN hS hK
          simp only [puts, Act.put, List.setIfInBounds_toArray, List.set_cons_zero, List.set_cons_succ, upd, Nat.reduceEqDiff, ↓reduceIte, if_true, if_false] at hK ⊢
          have HS9 := Lib.hid hS
          obtain ⟨qO, qS, qG, qR, c0, c1, c2, c3⟩ := hS
          have e0 := c0 (hN.out.2 0 (by decide +kernel))
          clear qR c0 c1 c2 c3
          go_simp
          obtain ⟨qO, qS, qG, qR, c0, c1, c2, c3⟩ := HS9.out
          exact hK.out _ _ ⟨qO, qS, qG, fun z9 => qR (fun z => z9 (.inl z)), fun h => c0 (h.resolve_right (by decide)), fun h => c1 (h.resolve_right (by decide)), fun _ => rfl, fun h => c3 (h.resolve_right (by decide))⟩ _ (by simp only [e0])
        apply RelH.op2
        · intro L f u K hN hS hK
          simp only [puts, Act.put, List.setIfInBounds_toArray, List.set_cons_zero, List.set_cons_succ, upd, Nat.reduceEqDiff, ↓reduceIte, if_true, if_false] at hK ⊢
          have HS9 := Lib.hid hS
          obtain ⟨qO, qS, qG, qR, c0, c1, c2, c3⟩ := hS
          have e1 := c1 (hN.out.2 1 (by decide +kernel))
          have qR1 := qR (hN.out.1 3 (by decide +kernel))
          have R_0 := qR1.cells 0 _ rfl
          have R_1 := qR1.cells 1 _ rfl
          have R_f0 := qR1.free 0 (by simp)
          have R_f1 := qR1.free 1 (by simp)
          clear qR c0 c1 c2 c3
          go_simp
          obtain ⟨qO, qS, qG, qR, c0, c1, c2, c3⟩ := HS9.out
          exact hK.out undef _ ⟨own_far (own_far qO (k := w.heap.size) (by omega) 0 (.int .i64 (x))) (k := w.heap.size) (by omega) 1 (.int .i64 y), (qS.far (k := w.heap.size) (by omega) 0 (.int .i64 (x))).far (k := w.heap.size) (by omega) 1 (.int .i64 y), grown_set (grown_set qG (Nat.le_refl _) 0 (.int .i64 (x))) (Nat.le_refl _) 1 (.int .i64 y), fun z9 => (z9 (by simp)).elim, fun h => c0 (h.resolve_right (by decide)), fun h => c1 (h.resolve_right (by decide)), fun h => c2 (h.resolve_right (by decide)), fun _ => (qR1.set 0 (.int .i64 (x))).set 1 (.int .i64 y)⟩ _ (by simp only [e1])
        exact RelH.done
      intro L f V1 hL hS
      simp only [puts, Act.put, List.setIfInBounds_toArray, List.set_cons_zero, List.set_cons_succ]
      obtain ⟨qO, qS, qG, qR, c0, c1, c2, c3⟩ := hS
      have Q := c3 (hL 3 (by decide))
      have e2 := c2 (hL 2 (by decide))
      simp only [e2]
      clear e2 c0 c1 c2 c3 hL qR R S O GW
      have q0 := Q.cells 0 _ rfl
      have q1 := Q.cells 1 _ rfl
      have HB := Lib.hid (below_of (Below.refl w.heap.size w) qG (fun k hk => by injection hk with hk; omega))
      have HO := Lib.hid (own_base qO (base' := w.heap.size) (by omega))
      clear qG qO qS
      go_wp2
      exact bodyPost_ret (v := .tuple #[.slice (some ⟨g, 0, none⟩) M.length c, .agg #[.int .i64 (x), .int .i64 y]]) (by simp [results, Try.results33, go_sem, q0, q1]) rfl ⟨M, g, c, x, y, hl, rfl, HO.out, HB.out⟩
    · try go_wp2_with fail
      refine (pick_d B zs p (0 + 500 + 2 + 2 + 2) _ (M.length : Int) C (by omega) (by omega) (by omega)).mono ?_
      rintro e u126 ⟨k0, k0_r, rfl, C1, G⟩
      have yu126 : u125.heap.size ≤ u126.heap.size := G.size
      replace R := (R).went G (by omega)
      replace S := (S).went G (by omega)
      replace O := own_grown O G (fun k hk => by injection hk with hk; omega)
      replace GW := grown_trans GW G
      replace C := C1
      clear C1 G
      have zu126 := GW.size
      obtain ⟨k, rfl⟩ : ∃ k : Nat, k0 = k := ⟨k0.toNat, by omega⟩
      have hk : k < M.length := by omega
      obtain ⟨r, hr⟩ : ∃ r, M[k] = r := ⟨_, rfl⟩
      obtain ⟨l0, l1⟩ := own2 O hk hr
      clear l1 hr
      have S_0 := S.cells 0 _ rfl
      have S_1 := S.cells 1 _ rfl
      have S_f0 := S.free 0 (by simp)
      have S_f1 := S.free 1 (by simp)
      have S_t := S.there
      go_wp2_with fail
      clear l0
      clear S_0 S_1 S_f0 S_f1 S_t
      have R' : Cb (w.heap.size) [.int .i64 0, .int .i64 0] _ := (R.far (k := u123.heap.size) (by omega) 0 (.int .i64 r.f0))
      have S' : Cb (u123.heap.size) [.int .i64 r.f0, .int .i64 y] _ := (S.set 0 (.int .i64 r.f0))
      replace O := (own_far O (k := u123.heap.size) (by omega) 0 (.int .i64 r.f0))
      clear R; have R := R'; clear R'
      clear S; have S := S'; clear S'
      replace C := (C.set (g := u123.heap.size) (by omega) (by omega) 0 (.int .i64 r.f0))
      replace GW := (grown_set GW (g := u123.heap.size) (by omega) 0 (.int .i64 r.f0))
      generalize (u126.setCell ⟨u123.heap.size, 0, none⟩ (.int .i64 r.f0)) = u127 at R S O GW C ⊢
      have zu127 := GW.size
      clear C
      refine wp_region_rel [35, 36, 2] (fun L f w' => (w'.ownsRow v.heap.size 42 2 (.slice (some ⟨g, 0, none⟩) M.length c) M.length (flat M)) ∧ (Cb u123.heap.size [.int .i64 r.f0, .int .i64 y] w') ∧ (w.grownBy w' (some p)) ∧ (¬ L 3 → Cb w.heap.size [.int .i64 0, .int .i64 0] w') ∧ (L 0 → f 35 = .slice (some ⟨g, 0, none⟩) M.length c) ∧ (L 1 → f 36 = .agg #[.int .i64 r.f0, .int .i64 y]) ∧ (L 2 → f 2 = .slice (some ⟨g, 0, none⟩) M.length c) ∧ (L 3 → Cb w.heap.size [.int .i64 r.f0, .int .i64 y] w')) (by kernel_rfl) (by kernel_rfl) (by kernel_rfl) (fun f => ⟨own_keep O (Below.refl _ _).drew, S.more (Below.refl _ _).drew, grown_more GW (Below.refl _ _).drew, fun _ => R.more (Below.refl _ _).drew, fun h => h.elim, fun h => h.elim, fun h => h.elim, fun h => h.elim⟩) ?_ ?_
      · apply RelH.op2
        · intro L f u K hN hS hK
          simp only [puts, Act.put, List.setIfInBounds_toArray, List.set_cons_zero, List.set_cons_succ, upd, Nat.reduceEqDiff, ↓reduceIte, if_true, if_false] at hK ⊢
          have HS9 := Lib.hid hS
          obtain ⟨qO, qS, qG, qR, c0, c1, c2, c3⟩ := hS
          clear qR c0 c1 c2 c3
          go_simp
          obtain ⟨qO, qS, qG, qR, c0, c1, c2, c3⟩ := HS9.out
          exact hK.out _ _ ⟨qO, qS, qG, fun z9 => qR (fun z => z9 (.inl z)), fun _ => rfl, fun h => c1 (h.resolve_right (by decide)), fun h => c2 (h.resolve_right (by decide)), fun h => c3 (h.resolve_right (by decide))⟩ _ rfl
        apply RelH.op2
        · intro L f u K hN hS hK
          simp only [puts, Act.put, List.setIfInBounds_toArray, List.set_cons_zero, List.set_cons_succ, upd, Nat.reduceEqDiff, ↓reduceIte, if_true, if_false] at hK ⊢
          have HS9 := Lib.hid hS
          obtain ⟨qO, qS, qG, qR, c0, c1, c2, c3⟩ := hS
          have qS_0 := qS.cells 0 _ rfl
          have qS_1 := qS.cells 1 _ rfl
          clear qR c0 c1 c2 c3
          go_simp
          obtain ⟨qO, qS, qG, qR, c0, c1, c2, c3⟩ := HS9.out
          exact hK.out _ _ ⟨qO, qS, qG, fun z9 => qR (fun z => z9 (.inl z)), fun h => c0 (h.resolve_right (by decide)), fun _ => rfl, fun h => c2 (h.resolve_right (by decide)), fun h => c3 (h.resolve_right (by decide))⟩ _ rfl
        apply RelH.op2
        · intro L f u K hN hS hK
          simp only [puts, Act.put, List.setIfInBounds_toArray, List.set_cons_zero, List.set_cons_succ, upd, Nat.reduceEqDiff, ↓reduceIte, if_true, if_false] at hK ⊢
          have HS9 := Lib.hid hS
          obtain ⟨qO, qS, qG, qR, c0, c1, c2, c3⟩ := hS
          have e0 := c0 (hN.out.2 0 (by decide +kernel))
          clear qR c0 c1 c2 c3
          go_simp
          obtain ⟨qO, qS, qG, qR, c0, c1, c2, c3⟩ := HS9.out
          exact hK.out _ _ ⟨qO, qS, qG, fun z9 => qR (fun z => z9 (.inl z)), fun h => c0 (h.resolve_right (by decide)), fun h => c1 (h.resolve_right (by decide)), fun _ => rfl, fun h => c3 (h.resolve_right (by decide))⟩ _ (by simp only [e0])
        apply RelH.op2
        · intro L f u K hN hS hK
          simp only [puts, Act.put, List.setIfInBounds_toArray, List.set_cons_zero, List.set_cons_succ, upd, Nat.reduceEqDiff, ↓reduceIte, if_true, if_false] at hK ⊢
          have HS9 := Lib.hid hS
          obtain ⟨qO, qS, qG, qR, c0, c1, c2, c3⟩ := hS
          have e1 := c1 (hN.out.2 1 (by decide +kernel))
          have qR1 := qR (hN.out.1 3 (by decide +kernel))
          have R_0 := qR1.cells 0 _ rfl
          have R_1 := qR1.cells 1 _ rfl
          have R_f0 := qR1.free 0 (by simp)
          have R_f1 := qR1.free 1 (by simp)
          clear qR c0 c1 c2 c3
          go_simp
          obtain ⟨qO, qS, qG, qR, c0, c1, c2, c3⟩ := HS9.out
          exact hK.out undef _ ⟨own_far (own_far qO (k := w.heap.size) (by omega) 0 (.int .i64 (r.f0))) (k := w.heap.size) (by omega) 1 (.int .i64 y), (qS.far (k := w.heap.size) (by omega) 0 (.int .i64 (r.f0))).far (k := w.heap.size) (by omega) 1 (.int .i64 y), grown_set (grown_set qG (Nat.le_refl _) 0 (.int .i64 (r.f0))) (Nat.le_refl _) 1 (.int .i64 y), fun z9 => (z9 (by simp)).elim, fun h => c0 (h.resolve_right (by decide)), fun h => c1 (h.resolve_right (by decide)), fun h => c2 (h.resolve_right (by decide)), fun _ => (qR1.set 0 (.int .i64 (r.f0))).set 1 (.int .i64 y)⟩ _ (by simp only [e1])
        exact RelH.done
      intro L f V2 hL hS
      simp only [puts, Act.put, List.setIfInBounds_toArray, List.set_cons_zero, List.set_cons_succ]
      obtain ⟨qO, qS, qG, qR, c0, c1, c2, c3⟩ := hS
      have Q := c3 (hL 3 (by decide))
      have e2 := c2 (hL 2 (by decide))
      simp only [e2]
      clear e2 c0 c1 c2 c3 hL qR R S O GW
      have q0 := Q.cells 0 _ rfl
      have q1 := Q.cells 1 _ rfl
      have HB := Lib.hid (below_of (Below.refl w.heap.size w) qG (fun k hk => by injection hk with hk; omega))
      have HO := Lib.hid (own_base qO (base' := w.heap.size) (by omega))
      clear qG qO qS
      go_wp2
      exact bodyPost_ret (v := .tuple #[.slice (some ⟨g, 0, none⟩) M.length c, .agg #[.int .i64 (r.f0), .int .i64 y]]) (by simp [results, Try.results33, go_sem, q0, q1]) rfl ⟨M, g, c, r.f0, y, hl, rfl, HO.out, HB.out⟩
end Go.Proofs.Ytcmomccdnkligaa.DSun6
