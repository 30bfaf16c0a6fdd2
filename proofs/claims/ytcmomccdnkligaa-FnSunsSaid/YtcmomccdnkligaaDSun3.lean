/- The draw of DrawSmallestArea. -/
import Derived.Test.YtcmomccdnkligaaDSun2
namespace Go.Proofs.Ytcmomccdnkligaa.DSun3
open Go.RowKit Go.Proofs.Ytcmomccdnkligaa.Mem Go.Proofs.Ytcmomccdnkligaa.Base Go.Proofs.Ytcmomccdnkligaa.Draw Go.Proofs.Ytcmomccdnkligaa.Boxes Go.Proofs.Ytcmomccdnkligaa.Keep Go.Proofs.Ytcmomccdnkligaa.Dr Go.Proofs.Ytcmomccdnkligaa.Regn Go.Proofs.Ytcmomccdnkligaa.SSun Go.Proofs.Ytcmomccdnkligaa.DSun Go.Proofs.Ytcmomccdnkligaa.DSun2
set_option linter.unusedVariables false
set_option maxRecDepth 100000
abbrev R := SSun.R
theorem tdiv_bd (n : Int) (x : Nat) : -(n.natAbs : Int) ≤ n.tdiv x ∧ n.tdiv x ≤ n.natAbs := by
  have h1 : (n.tdiv x).natAbs = n.natAbs / x := by rw [Int.natAbs_tdiv]; simp; rfl
  have h2 := Nat.div_le_self n.natAbs x
  omega
def DA (w : World) (e : Ending) (w' : World) : Prop :=
  ∃ (L : List R) (g c : Nat) (x y f t m : Int), L.length ≤ 25 ∧ e = .returned (.tuple #[.slice (some ⟨g, 0, none⟩) L.length c, .agg #[.int .i64 x, .int .i64 y], .int .i64 f, .int .i64 t, .int .i64 m]) ∧ w'.ownsRow w.heap.size 42 2 (.slice (some ⟨g, 0, none⟩) L.length c) L.length (flat L) ∧ Below w.heap.size w w'
set_option maxHeartbeats 8000000 in
theorem drawArea (A : Option Addr) (cap : Nat) (zs : List Int) (w : World) (h : Draw.Src w A zs) : Calls Try.prog 23 #[.slice A zs.length cap] w (DA w) := by
  have C0 := cu_at (h.below (al (Below.refl _ w) (o := .cells #[.int .i64 0, .int .i64 0] 26))) cap (p := w.heap.size + 1) (by rw [size_alloc'])
  have R0 := (Cb.new w [.int .i64 0, .int .i64 0] 26 (g := w.heap.size) rfl).alloc (.cells #[.slice A zs.length cap, .int .i64 0, .int .u64 0] 68)
  have G0 : w.grownBy ((w.alloc (.cells #[.int .i64 0, .int .i64 0] 26)).alloc (.cells #[.slice A zs.length cap, .int .i64 0, .int .u64 0] 68)) (some (w.heap.size + 1)) := grown_trans (grown_alloc w _ _) (grown_alloc _ _ _)
  have S0 : ((w.alloc (.cells #[.int .i64 0, .int .i64 0] 26)).alloc (.cells #[.slice A zs.length cap, .int .i64 0, .int .u64 0] 68)).heap.size = w.heap.size + 1 + 1 := by rw [size_alloc', size_alloc']
  have H0 := Lib.hid (And.intro C0 (And.intro R0 (And.intro G0 S0))); clear C0 R0 G0 S0
  go_enter Try.func23, Try.ntmps23
  go_wp2_with fail
  obtain ⟨C0, R, GW, sv⟩ := H0.out
  obtain ⟨B, C⟩ : ∃ B, Cu B zs (w.heap.size + 1) 0 ((w.alloc (.cells #[.int .i64 0, .int .i64 0] 26)).alloc (.cells #[.slice A zs.length cap, .int .i64 0, .int .u64 0] 68)) := ⟨_, C0⟩
  clear C0 H0
  generalize (w.alloc (.cells #[.int .i64 0, .int .i64 0] 26)).alloc (.cells #[.slice A zs.length cap, .int .i64 0, .int .u64 0] 68) = v at C R GW sv ⊢
  have zw : w.heap.size < w.heap.size + 1 := Nat.lt_succ_self _
  have zv := GW.size
  have hp := C.lt
  have hB := C.base
  generalize w.heap.size + 1 = p at *
  try go_wp2_with fail
  refine (span_d B zs p (0) _ C (by omega)).mono ?_
  rintro e u121 ⟨f1, t, rfl, C1, G⟩
  have yu121 : v.heap.size ≤ u121.heap.size := G.size
  replace R := (R).went G (by omega)
  replace GW := grown_trans GW G
  replace C := C1
  clear C1 G
  have zu121 := GW.size
  try go_wp2_with fail
  refine (brine_d B zs p (0 + 4) _ C (by omega)).mono ?_
  rintro e u122 ⟨x, y, xy_r, rfl, C1, G⟩
  have yu122 : u121.heap.size ≤ u122.heap.size := G.size
  replace R := (R).went G (by omega)
  replace GW := grown_trans GW G
  replace C := C1
  clear C1 G
  have zu122 := GW.size
  go_wp2_with fail
  have X := Cb.new u122 [.int .i64 x, .int .i64 y] 26 (g := u122.heap.size) rfl
  replace R := (R.alloc (.cells #[.int .i64 x, .int .i64 y] 26))
  replace C := (C.alloc (.cells #[.int .i64 x, .int .i64 y] 26))
  replace GW := (grown_trans GW (grown_alloc _ (.cells #[.int .i64 x, .int .i64 y] 26) _))
  have su123 : (u122.alloc (.cells #[.int .i64 x, .int .i64 y] 26)).heap.size = u122.heap.size + 1 := by simp only [size_alloc']
  generalize (u122.alloc (.cells #[.int .i64 x, .int .i64 y] 26)) = u123 at X R GW C su123 ⊢
  have zu123 := GW.size
  have hgx : p < u122.heap.size ∧ u122.heap.size ≠ w.heap.size := by omega
  generalize u122.heap.size = gx at *
  obtain ⟨hgx1, hgx2⟩ := hgx
  have hb2 : -(x.natAbs : Int) ≤ x.tdiv 2 ∧ x.tdiv 2 ≤ x.natAbs := tdiv_bd x 2
  have y0 : IntKind.i64.wrap (x.tdiv 2) = x.tdiv 2 := IntWalk.i64_in _ (by omega)
  have y1 : IntKind.i64.wrap (x - 1) = x - 1 := IntWalk.i64_in _ (by omega)
  obtain ⟨K0, hK0, hK1⟩ : ∃ K0 : Nat, K0 ≤ 700000000 ∧ 0 + 4 + 8 = K0 := ⟨_, by omega, rfl⟩
  rw [hK1] at C
  clear hK1
  refine wp_region_rel [21, 22, 23, 24, 25, 26, 27, 28, 29, 30, 31, 32, 33, 34, 35, 36, 2, 4, 5, 6] (fun L f w' => (¬ L 17 → Cb w.heap.size [.int .i64 0, .int .i64 0] w') ∧ (Cb gx [.int .i64 x, .int .i64 y] w') ∧ (¬ L 1 → Cu B zs p K0 w') ∧ (w.grownBy w' (some p)) ∧ (L 1 → ¬ L 15 → Cu B zs p (K0 + 500) w') ∧ (L 0 → f 21 = .pointer (some ⟨p, 0, none⟩)) ∧ (L 1 → ∃ (L9 : List SSun.R) (g c : Nat), L9.length ≤ 25 ∧ f 22 = .slice (some ⟨g, 0, none⟩) L9.length c ∧ g ≠ w.heap.size ∧ g ≠ p ∧ w'.ownsRow w.heap.size 42 2 (.slice (some ⟨g, 0, none⟩) L9.length c) L9.length (flat L9)) ∧ (L 2 → f 23 = .agg #[.int .i64 x, .int .i64 y]) ∧ (L 3 → f 24 = .int .i64 f1) ∧ (L 4 → f 25 = .int .i64 t) ∧ (L 5 → f 26 = .pointer (some ⟨p, 0, none⟩)) ∧ (L 6 → f 27 = .pointer (some ⟨gx, 0, none⟩)) ∧ (L 7 → f 28 = .int .i64 x) ∧ (L 8 → f 29 = .pointer (some ⟨gx, 0, none⟩)) ∧ (L 9 → f 30 = .int .i64 x) ∧ (L 10 → f 31 = .int .i64 (x.tdiv 2)) ∧ (L 11 → f 32 = .pointer (some ⟨gx, 0, none⟩)) ∧ (L 12 → f 33 = .int .i64 x) ∧ (L 13 → f 34 = .int .i64 (x - 1)) ∧ (L 14 → ¬ L 15 → ∃ gl, f 35 = .slice (some ⟨gl, 0, none⟩) 6 6 ∧ gl ≠ p ∧ Lst w' gl (([0, x, x.tdiv 2, x - 1, 5, -1] : List Int).map (Value.int .i64))) ∧ (L 15 → ∃ m, f 36 = .int .i64 m) ∧ (L 16 → ∃ (L9 : List SSun.R) (g c : Nat), L9.length ≤ 25 ∧ f 2 = .slice (some ⟨g, 0, none⟩) L9.length c ∧ g ≠ w.heap.size ∧ g ≠ p ∧ w'.ownsRow w.heap.size 42 2 (.slice (some ⟨g, 0, none⟩) L9.length c) L9.length (flat L9)) ∧ (L 17 → Cb w.heap.size [.int .i64 x, .int .i64 y] w') ∧ (L 18 → f 4 = .int .i64 f1) ∧ (L 19 → f 5 = .int .i64 t) ∧ (L 20 → ∃ m, f 6 = .int .i64 m)) (by kernel_rfl) (by kernel_rfl) (by kernel_rfl) (fun f => ⟨fun _ => R.more (Below.refl _ _).drew, X.more (Below.refl _ _).drew, fun _ => C.more (Below.refl _ _).drew, grown_more GW (Below.refl _ _).drew, fun h => h.elim, fun h => h.elim, fun h => h.elim, fun h => h.elim, fun h => h.elim, fun h => h.elim, fun h => h.elim, fun h => h.elim, fun h => h.elim, fun h => h.elim, fun h => h.elim, fun h => h.elim, fun h => h.elim, fun h => h.elim, fun h => h.elim, fun h => h.elim, fun h => h.elim, fun h => h.elim, fun h => h.elim, fun h => h.elim, fun h => h.elim, fun h => h.elim⟩) ?_ ?_
  · apply RelH.op2
    · intro L f u K hN hS hK
      simp only [puts, Act.put, List.setIfInBounds_toArray, List.set_cons_zero, List.set_cons_succ, upd, Nat.reduceEqDiff, ↓reduceIte, if_true, if_false] at hK ⊢
      have HS9 := Lib.hid hS
      obtain ⟨qR, qX, qC, qGW, qC1, c0, c1, c2, c3, c4, c5, c6, c7, c8, c9, c10, c11, c12, c13, c14, c15, c16, c17, c18, c19, c20⟩ := hS
      clear qR qC qC1 c0 c1 c2 c3 c4 c5 c6 c7 c8 c9 c10 c11 c12 c13 c14 c15 c16 c17 c18 c19 c20
      go_simp
      obtain ⟨qR, qX, qC, qGW, qC1, c0, c1, c2, c3, c4, c5, c6, c7, c8, c9, c10, c11, c12, c13, c14, c15, c16, c17, c18, c19, c20⟩ := HS9.out
      exact hK.out _ _ ⟨fun z9 => qR (fun z => z9 (.inl z)), qX, fun z9 => qC (fun z => z9 (.inl z)), qGW, fun z8 z9 => qC1 (z8.resolve_right (by decide)) (fun z => z9 (.inl z)), fun _ => rfl, fun h => c1 (h.resolve_right (by decide)), fun h => c2 (h.resolve_right (by decide)), fun h => c3 (h.resolve_right (by decide)), fun h => c4 (h.resolve_right (by decide)), fun h => c5 (h.resolve_right (by decide)), fun h => c6 (h.resolve_right (by decide)), fun h => c7 (h.resolve_right (by decide)), fun h => c8 (h.resolve_right (by decide)), fun h => c9 (h.resolve_right (by decide)), fun h => c10 (h.resolve_right (by decide)), fun h => c11 (h.resolve_right (by decide)), fun h => c12 (h.resolve_right (by decide)), fun h => c13 (h.resolve_right (by decide)), fun h t0 => c14 (h.resolve_right (by decide)) (fun z => t0 (.inl z)), fun h => c15 (h.resolve_right (by decide)), fun h => c16 (h.resolve_right (by decide)), fun h => c17 (h.resolve_right (by decide)), fun h => c18 (h.resolve_right (by decide)), fun h => c19 (h.resolve_right (by decide)), fun h => c20 (h.resolve_right (by decide))⟩ _ rfl
    apply RelH.op2
    · intro L f u K hN hS hK
      simp only [puts, Act.put, List.setIfInBounds_toArray, List.set_cons_zero, List.set_cons_succ, upd, Nat.reduceEqDiff, ↓reduceIte, if_true, if_false] at hK ⊢
      have HS9 := Lib.hid hS
      obtain ⟨qR, qX, qC, qGW, qC1, c0, c1, c2, c3, c4, c5, c6, c7, c8, c9, c10, c11, c12, c13, c14, c15, c16, c17, c18, c19, c20⟩ := hS
      have e0 := c0 (hN.out.2 0 (by decide +kernel))
      have hz9 := (qC (hN.out.1 1 (by decide +kernel))).lt
      have HCON := Lib.hid (suns_d B zs p K0 u (qC (hN.out.1 1 (by decide +kernel))) hK0)
      clear qR qC qC1 c0 c1 c2 c3 c4 c5 c6 c7 c8 c9 c10 c11 c12 c13 c14 c15 c16 c17 c18 c19 c20
      go_simp
      go_at_call 50
      (with_reducible refine HCON.out.mono ?_)
      rintro e uw1 ⟨L9, g, c, hl9, rfl, O9, C9, G⟩
      have hg9 := own_ge O9 g (by simp [Value.ownBlock])
      go_wp2_with fail
      obtain ⟨qR, qX, qC, qGW, qC1, c0, c1, c2, c3, c4, c5, c6, c7, c8, c9, c10, c11, c12, c13, c14, c15, c16, c17, c18, c19, c20⟩ := HS9.out
      exact hK.out _ _ ⟨fun z9 => (qR (fun z => z9 (.inl z))).went G (by omega), qX.went G (by omega), fun z9 => (z9 (by simp)).elim, grown_trans qGW G, fun _ _ => C9, fun h => c0 (h.resolve_right (by decide)), fun _ => ⟨L9, g, c, hl9, rfl, by omega, by omega, own_base O9 (by omega)⟩, fun h => c2 (h.resolve_right (by decide)), fun h => c3 (h.resolve_right (by decide)), fun h => c4 (h.resolve_right (by decide)), fun h => c5 (h.resolve_right (by decide)), fun h => c6 (h.resolve_right (by decide)), fun h => c7 (h.resolve_right (by decide)), fun h => c8 (h.resolve_right (by decide)), fun h => c9 (h.resolve_right (by decide)), fun h => c10 (h.resolve_right (by decide)), fun h => c11 (h.resolve_right (by decide)), fun h => c12 (h.resolve_right (by decide)), fun h => c13 (h.resolve_right (by decide)), fun h t0 => (let ⟨gl, h1, h2, T⟩ := (c14 (h.resolve_right (by decide)) (fun z => t0 (.inl z))); ⟨gl, h1, h2, T.went G h2⟩), fun h => c15 (h.resolve_right (by decide)), fun h => (let ⟨L9, g, c, h1, h2, h3, h4, O⟩ := (c16 (h.resolve_right (by decide))); ⟨L9, g, c, h1, h2, h3, h4, own_grownN O G (fun k hk => by injection hk with hk; omega)⟩), fun h => ((c17 (h.resolve_right (by decide)))).went G (by omega), fun h => c18 (h.resolve_right (by decide)), fun h => c19 (h.resolve_right (by decide)), fun h => c20 (h.resolve_right (by decide))⟩ _ (by simp only [e0])
    apply RelH.op2
    · intro L f u K hN hS hK
      simp only [puts, Act.put, List.setIfInBounds_toArray, List.set_cons_zero, List.set_cons_succ, upd, Nat.reduceEqDiff, ↓reduceIte, if_true, if_false] at hK ⊢
      have HS9 := Lib.hid hS
      obtain ⟨qR, qX, qC, qGW, qC1, c0, c1, c2, c3, c4, c5, c6, c7, c8, c9, c10, c11, c12, c13, c14, c15, c16, c17, c18, c19, c20⟩ := hS
      have X_0 := qX.cells 0 _ rfl
      have X_1 := qX.cells 1 _ rfl
      clear qR qC qC1 c0 c1 c2 c3 c4 c5 c6 c7 c8 c9 c10 c11 c12 c13 c14 c15 c16 c17 c18 c19 c20
      go_simp
      obtain ⟨qR, qX, qC, qGW, qC1, c0, c1, c2, c3, c4, c5, c6, c7, c8, c9, c10, c11, c12, c13, c14, c15, c16, c17, c18, c19, c20⟩ := HS9.out
      exact hK.out _ _ ⟨fun z9 => qR (fun z => z9 (.inl z)), qX, fun z9 => qC (fun z => z9 (.inl z)), qGW, fun z8 z9 => qC1 (z8.resolve_right (by decide)) (fun z => z9 (.inl z)), fun h => c0 (h.resolve_right (by decide)), fun h => c1 (h.resolve_right (by decide)), fun _ => rfl, fun h => c3 (h.resolve_right (by decide)), fun h => c4 (h.resolve_right (by decide)), fun h => c5 (h.resolve_right (by decide)), fun h => c6 (h.resolve_right (by decide)), fun h => c7 (h.resolve_right (by decide)), fun h => c8 (h.resolve_right (by decide)), fun h => c9 (h.resolve_right (by decide)), fun h => c10 (h.resolve_right (by decide)), fun h => c11 (h.resolve_right (by decide)), fun h => c12 (h.resolve_right (by decide)), fun h => c13 (h.resolve_right (by decide)), fun h t0 => c14 (h.resolve_right (by decide)) (fun z => t0 (.inl z)), fun h => c15 (h.resolve_right (by decide)), fun h => c16 (h.resolve_right (by decide)), fun h => c17 (h.resolve_right (by decide)), fun h => c18 (h.resolve_right (by decide)), fun h => c19 (h.resolve_right (by decide)), fun h => c20 (h.resolve_right (by decide))⟩ _ rfl
    apply RelH.op2
    · intro L f u K hN hS hK
      simp only [puts, Act.put, List.setIfInBounds_toArray, List.set_cons_zero, List.set_cons_succ, upd, Nat.reduceEqDiff, ↓reduceIte, if_true, if_false] at hK ⊢
      have HS9 := Lib.hid hS
      obtain ⟨qR, qX, qC, qGW, qC1, c0, c1, c2, c3, c4, c5, c6, c7, c8, c9, c10, c11, c12, c13, c14, c15, c16, c17, c18, c19, c20⟩ := hS
      clear qR qC qC1 c0 c1 c2 c3 c4 c5 c6 c7 c8 c9 c10 c11 c12 c13 c14 c15 c16 c17 c18 c19 c20
      go_simp
      obtain ⟨qR, qX, qC, qGW, qC1, c0, c1, c2, c3, c4, c5, c6, c7, c8, c9, c10, c11, c12, c13, c14, c15, c16, c17, c18, c19, c20⟩ := HS9.out
      exact hK.out _ _ ⟨fun z9 => qR (fun z => z9 (.inl z)), qX, fun z9 => qC (fun z => z9 (.inl z)), qGW, fun z8 z9 => qC1 (z8.resolve_right (by decide)) (fun z => z9 (.inl z)), fun h => c0 (h.resolve_right (by decide)), fun h => c1 (h.resolve_right (by decide)), fun h => c2 (h.resolve_right (by decide)), fun _ => rfl, fun h => c4 (h.resolve_right (by decide)), fun h => c5 (h.resolve_right (by decide)), fun h => c6 (h.resolve_right (by decide)), fun h => c7 (h.resolve_right (by decide)), fun h => c8 (h.resolve_right (by decide)), fun h => c9 (h.resolve_right (by decide)), fun h => c10 (h.resolve_right (by decide)), fun h => c11 (h.resolve_right (by decide)), fun h => c12 (h.resolve_right (by decide)), fun h => c13 (h.resolve_right (by decide)), fun h t0 => c14 (h.resolve_right (by decide)) (fun z => t0 (.inl z)), fun h => c15 (h.resolve_right (by decide)), fun h => c16 (h.resolve_right (by decide)), fun h => c17 (h.resolve_right (by decide)), fun h => c18 (h.resolve_right (by decide)), fun h => c19 (h.resolve_right (by decide)), fun h => c20 (h.resolve_right (by decide))⟩ _ rfl
    apply RelH.op2
    · intro L f u K hN hS hK
      simp only [puts, Act.put, List.setIfInBounds_toArray, List.set_cons_zero, List.set_cons_succ, upd, Nat.reduceEqDiff, ↓reduceIte, if_true, if_false] at hK ⊢
      have HS9 := Lib.hid hS
      obtain ⟨qR, qX, qC, qGW, qC1, c0, c1, c2, c3, c4, c5, c6, c7, c8, c9, c10, c11, c12, c13, c14, c15, c16, c17, c18, c19, c20⟩ := hS
      clear qR qC qC1 c0 c1 c2 c3 c4 c5 c6 c7 c8 c9 c10 c11 c12 c13 c14 c15 c16 c17 c18 c19 c20
      go_simp
      obtain ⟨qR, qX, qC, qGW, qC1, c0, c1, c2, c3, c4, c5, c6, c7, c8, c9, c10, c11, c12, c13, c14, c15, c16, c17, c18, c19, c20⟩ := HS9.out
      exact hK.out _ _ ⟨fun z9 => qR (fun z => z9 (.inl z)), qX, fun z9 => qC (fun z => z9 (.inl z)), qGW, fun z8 z9 => qC1 (z8.resolve_right (by decide)) (fun z => z9 (.inl z)), fun h => c0 (h.resolve_right (by decide)), fun h => c1 (h.resolve_right (by decide)), fun h => c2 (h.resolve_right (by decide)), fun h => c3 (h.resolve_right (by decide)), fun _ => rfl, fun h => c5 (h.resolve_right (by decide)), fun h => c6 (h.resolve_right (by decide)), fun h => c7 (h.resolve_right (by decide)), fun h => c8 (h.resolve_right (by decide)), fun h => c9 (h.resolve_right (by decide)), fun h => c10 (h.resolve_right (by decide)), fun h => c11 (h.resolve_right (by decide)), fun h => c12 (h.resolve_right (by decide)), fun h => c13 (h.resolve_right (by decide)), fun h t0 => c14 (h.resolve_right (by decide)) (fun z => t0 (.inl z)), fun h => c15 (h.resolve_right (by decide)), fun h => c16 (h.resolve_right (by decide)), fun h => c17 (h.resolve_right (by decide)), fun h => c18 (h.resolve_right (by decide)), fun h => c19 (h.resolve_right (by decide)), fun h => c20 (h.resolve_right (by decide))⟩ _ rfl
    apply RelH.op2
    · intro L f u K hN hS hK
      simp only [puts, Act.put, List.setIfInBounds_toArray, List.set_cons_zero, List.set_cons_succ, upd, Nat.reduceEqDiff, ↓reduceIte, if_true, if_false] at hK ⊢
      have HS9 := Lib.hid hS
      obtain ⟨qR, qX, qC, qGW, qC1, c0, c1, c2, c3, c4, c5, c6, c7, c8, c9, c10, c11, c12, c13, c14, c15, c16, c17, c18, c19, c20⟩ := hS
      clear qR qC qC1 c0 c1 c2 c3 c4 c5 c6 c7 c8 c9 c10 c11 c12 c13 c14 c15 c16 c17 c18 c19 c20
      go_simp
      obtain ⟨qR, qX, qC, qGW, qC1, c0, c1, c2, c3, c4, c5, c6, c7, c8, c9, c10, c11, c12, c13, c14, c15, c16, c17, c18, c19, c20⟩ := HS9.out
      exact hK.out _ _ ⟨fun z9 => qR (fun z => z9 (.inl z)), qX, fun z9 => qC (fun z => z9 (.inl z)), qGW, fun z8 z9 => qC1 (z8.resolve_right (by decide)) (fun z => z9 (.inl z)), fun h => c0 (h.resolve_right (by decide)), fun h => c1 (h.resolve_right (by decide)), fun h => c2 (h.resolve_right (by decide)), fun h => c3 (h.resolve_right (by decide)), fun h => c4 (h.resolve_right (by decide)), fun _ => rfl, fun h => c6 (h.resolve_right (by decide)), fun h => c7 (h.resolve_right (by decide)), fun h => c8 (h.resolve_right (by decide)), fun h => c9 (h.resolve_right (by decide)), fun h => c10 (h.resolve_right (by decide)), fun h => c11 (h.resolve_right (by decide)), fun h => c12 (h.resolve_right (by decide)), fun h => c13 (h.resolve_right (by decide)), fun h t0 => c14 (h.resolve_right (by decide)) (fun z => t0 (.inl z)), fun h => c15 (h.resolve_right (by decide)), fun h => c16 (h.resolve_right (by decide)), fun h => c17 (h.resolve_right (by decide)), fun h => c18 (h.resolve_right (by decide)), fun h => c19 (h.resolve_right (by decide)), fun h => c20 (h.resolve_right (by decide))⟩ _ rfl
    apply RelH.op2
    · intro L f u K hN hS hK
      simp only [puts, Act.put, List.setIfInBounds_toArray, List.set_cons_zero, List.set_cons_succ, upd, Nat.reduceEqDiff, ↓reduceIte, if_true, if_false] at hK ⊢
      have HS9 := Lib.hid hS
      obtain ⟨qR, qX, qC, qGW, qC1, c0, c1, c2, c3, c4, c5, c6, c7, c8, c9, c10, c11, c12, c13, c14, c15, c16, c17, c18, c19, c20⟩ := hS
      clear qR qC qC1 c0 c1 c2 c3 c4 c5 c6 c7 c8 c9 c10 c11 c12 c13 c14 c15 c16 c17 c18 c19 c20
      go_simp
      obtain ⟨qR, qX, qC, qGW, qC1, c0, c1, c2, c3, c4, c5, c6, c7, c8, c9, c10, c11, c12, c13, c14, c15, c16, c17, c18, c19, c20⟩ := HS9.out
      exact hK.out _ _ ⟨fun z9 => qR (fun z => z9 (.inl z)), qX, fun z9 => qC (fun z => z9 (.inl z)), qGW, fun z8 z9 => qC1 (z8.resolve_right (by decide)) (fun z => z9 (.inl z)), fun h => c0 (h.resolve_right (by decide)), fun h => c1 (h.resolve_right (by decide)), fun h => c2 (h.resolve_right (by decide)), fun h => c3 (h.resolve_right (by decide)), fun h => c4 (h.resolve_right (by decide)), fun h => c5 (h.resolve_right (by decide)), fun _ => rfl, fun h => c7 (h.resolve_right (by decide)), fun h => c8 (h.resolve_right (by decide)), fun h => c9 (h.resolve_right (by decide)), fun h => c10 (h.resolve_right (by decide)), fun h => c11 (h.resolve_right (by decide)), fun h => c12 (h.resolve_right (by decide)), fun h => c13 (h.resolve_right (by decide)), fun h t0 => c14 (h.resolve_right (by decide)) (fun z => t0 (.inl z)), fun h => c15 (h.resolve_right (by decide)), fun h => c16 (h.resolve_right (by decide)), fun h => c17 (h.resolve_right (by decide)), fun h => c18 (h.resolve_right (by decide)), fun h => c19 (h.resolve_right (by decide)), fun h => c20 (h.resolve_right (by decide))⟩ _ rfl
    apply RelH.op2
    · intro L f u K hN hS hK
      simp only [puts, Act.put, List.setIfInBounds_toArray, List.set_cons_zero, List.set_cons_succ, upd, Nat.reduceEqDiff, ↓reduceIte, if_true, if_false] at hK ⊢
      have HS9 := Lib.hid hS
      obtain ⟨qR, qX, qC, qGW, qC1, c0, c1, c2, c3, c4, c5, c6, c7, c8, c9, c10, c11, c12, c13, c14, c15, c16, c17, c18, c19, c20⟩ := hS
      have e6 := c6 (hN.out.2 6 (by decide +kernel))
      have X_0 := qX.cells 0 _ rfl
      have X_1 := qX.cells 1 _ rfl
      clear qR qC qC1 c0 c1 c2 c3 c4 c5 c6 c7 c8 c9 c10 c11 c12 c13 c14 c15 c16 c17 c18 c19 c20
      go_simp
      obtain ⟨qR, qX, qC, qGW, qC1, c0, c1, c2, c3, c4, c5, c6, c7, c8, c9, c10, c11, c12, c13, c14, c15, c16, c17, c18, c19, c20⟩ := HS9.out
      exact hK.out _ _ ⟨fun z9 => qR (fun z => z9 (.inl z)), qX, fun z9 => qC (fun z => z9 (.inl z)), qGW, fun z8 z9 => qC1 (z8.resolve_right (by decide)) (fun z => z9 (.inl z)), fun h => c0 (h.resolve_right (by decide)), fun h => c1 (h.resolve_right (by decide)), fun h => c2 (h.resolve_right (by decide)), fun h => c3 (h.resolve_right (by decide)), fun h => c4 (h.resolve_right (by decide)), fun h => c5 (h.resolve_right (by decide)), fun h => c6 (h.resolve_right (by decide)), fun _ => rfl, fun h => c8 (h.resolve_right (by decide)), fun h => c9 (h.resolve_right (by decide)), fun h => c10 (h.resolve_right (by decide)), fun h => c11 (h.resolve_right (by decide)), fun h => c12 (h.resolve_right (by decide)), fun h => c13 (h.resolve_right (by decide)), fun h t0 => c14 (h.resolve_right (by decide)) (fun z => t0 (.inl z)), fun h => c15 (h.resolve_right (by decide)), fun h => c16 (h.resolve_right (by decide)), fun h => c17 (h.resolve_right (by decide)), fun h => c18 (h.resolve_right (by decide)), fun h => c19 (h.resolve_right (by decide)), fun h => c20 (h.resolve_right (by decide))⟩ _ (by simp only [e6])
    apply RelH.op2
    · intro L f u K hN hS hK
      simp only [puts, Act.put, List.setIfInBounds_toArray, List.set_cons_zero, List.set_cons_succ, upd, Nat.reduceEqDiff, ↓reduceIte, if_true, if_false] at hK ⊢
      have HS9 := Lib.hid hS
      obtain ⟨qR, qX, qC, qGW, qC1, c0, c1, c2, c3, c4, c5, c6, c7, c8, c9, c10, c11, c12, c13, c14, c15, c16, c17, c18, c19, c20⟩ := hS
      clear qR qC qC1 c0 c1 c2 c3 c4 c5 c6 c7 c8 c9 c10 c11 c12 c13 c14 c15 c16 c17 c18 c19 c20
      go_simp
      obtain ⟨qR, qX, qC, qGW, qC1, c0, c1, c2, c3, c4, c5, c6, c7, c8, c9, c10, c11, c12, c13, c14, c15, c16, c17, c18, c19, c20⟩ := HS9.out
      exact hK.out _ _ ⟨fun z9 => qR (fun z => z9 (.inl z)), qX, fun z9 => qC (fun z => z9 (.inl z)), qGW, fun z8 z9 => qC1 (z8.resolve_right (by decide)) (fun z => z9 (.inl z)), fun h => c0 (h.resolve_right (by decide)), fun h => c1 (h.resolve_right (by decide)), fun h => c2 (h.resolve_right (by decide)), fun h => c3 (h.resolve_right (by decide)), fun h => c4 (h.resolve_right (by decide)), fun h => c5 (h.resolve_right (by decide)), fun h => c6 (h.resolve_right (by decide)), fun h => c7 (h.resolve_right (by decide)), fun _ => rfl, fun h => c9 (h.resolve_right (by decide)), fun h => c10 (h.resolve_right (by decide)), fun h => c11 (h.resolve_right (by decide)), fun h => c12 (h.resolve_right (by decide)), fun h => c13 (h.resolve_right (by decide)), fun h t0 => c14 (h.resolve_right (by decide)) (fun z => t0 (.inl z)), fun h => c15 (h.resolve_right (by decide)), fun h => c16 (h.resolve_right (by decide)), fun h => c17 (h.resolve_right (by decide)), fun h => c18 (h.resolve_right (by decide)), fun h => c19 (h.resolve_right (by decide)), fun h => c20 (h.resolve_right (by decide))⟩ _ rfl
    apply RelH.op2
    · intro L f u K hN hS hK
      simp only [puts, Act.put, List.setIfInBounds_toArray, List.set_cons_zero, List.set_cons_succ, upd, Nat.reduceEqDiff, ↓reduceIte, if_true, if_false] at hK ⊢
      have HS9 := Lib.hid hS
      obtain ⟨qR, qX, qC, qGW, qC1, c0, c1, c2, c3, c4, c5, c6, c7, c8, c9, c10, c11, c12, c13, c14, c15, c16, c17, c18, c19, c20⟩ := hS
      have e8 := c8 (hN.out.2 8 (by decide +kernel))
      have X_0 := qX.cells 0 _ rfl
      have X_1 := qX.cells 1 _ rfl
      clear qR qC qC1 c0 c1 c2 c3 c4 c5 c6 c7 c8 c9 c10 c11 c12 c13 c14 c15 c16 c17 c18 c19 c20
      go_simp
      obtain ⟨qR, qX, qC, qGW, qC1, c0, c1, c2, c3, c4, c5, c6, c7, c8, c9, c10, c11, c12, c13, c14, c15, c16, c17, c18, c19, c20⟩ := HS9.out
      exact hK.out _ _ ⟨fun z9 => qR (fun z => z9 (.inl z)), qX, fun z9 => qC (fun z => z9 (.inl z)), qGW, fun z8 z9 => qC1 (z8.resolve_right (by decide)) (fun z => z9 (.inl z)), fun h => c0 (h.resolve_right (by decide)), fun h => c1 (h.resolve_right (by decide)), fun h => c2 (h.resolve_right (by decide)), fun h => c3 (h.resolve_right (by decide)), fun h => c4 (h.resolve_right (by decide)), fun h => c5 (h.resolve_right (by decide)), fun h => c6 (h.resolve_right (by decide)), fun h => c7 (h.resolve_right (by decide)), fun h => c8 (h.resolve_right (by decide)), fun _ => rfl, fun h => c10 (h.resolve_right (by decide)), fun h => c11 (h.resolve_right (by decide)), fun h => c12 (h.resolve_right (by decide)), fun h => c13 (h.resolve_right (by decide)), fun h t0 => c14 (h.resolve_right (by decide)) (fun z => t0 (.inl z)), fun h => c15 (h.resolve_right (by decide)), fun h => c16 (h.resolve_right (by decide)), fun h => c17 (h.resolve_right (by decide)), fun h => c18 (h.resolve_right (by decide)), fun h => c19 (h.resolve_right (by decide)), fun h => c20 (h.resolve_right (by decide))⟩ _ (by simp only [e8])
    apply RelH.op2
    · intro L f u K hN hS hK
      simp only [puts, Act.put, List.setIfInBounds_toArray, List.set_cons_zero, List.set_cons_succ, upd, Nat.reduceEqDiff, ↓reduceIte, if_true, if_false] at hK ⊢
      have HS9 := Lib.hid hS
      obtain ⟨qR, qX, qC, qGW, qC1, c0, c1, c2, c3, c4, c5, c6, c7, c8, c9, c10, c11, c12, c13, c14, c15, c16, c17, c18, c19, c20⟩ := hS
      have e9 := c9 (hN.out.2 9 (by decide +kernel))
      clear qR qC qC1 c0 c1 c2 c3 c4 c5 c6 c7 c8 c9 c10 c11 c12 c13 c14 c15 c16 c17 c18 c19 c20
      go_simp
      obtain ⟨qR, qX, qC, qGW, qC1, c0, c1, c2, c3, c4, c5, c6, c7, c8, c9, c10, c11, c12, c13, c14, c15, c16, c17, c18, c19, c20⟩ := HS9.out
      exact hK.out _ _ ⟨fun z9 => qR (fun z => z9 (.inl z)), qX, fun z9 => qC (fun z => z9 (.inl z)), qGW, fun z8 z9 => qC1 (z8.resolve_right (by decide)) (fun z => z9 (.inl z)), fun h => c0 (h.resolve_right (by decide)), fun h => c1 (h.resolve_right (by decide)), fun h => c2 (h.resolve_right (by decide)), fun h => c3 (h.resolve_right (by decide)), fun h => c4 (h.resolve_right (by decide)), fun h => c5 (h.resolve_right (by decide)), fun h => c6 (h.resolve_right (by decide)), fun h => c7 (h.resolve_right (by decide)), fun h => c8 (h.resolve_right (by decide)), fun h => c9 (h.resolve_right (by decide)), fun _ => rfl, fun h => c11 (h.resolve_right (by decide)), fun h => c12 (h.resolve_right (by decide)), fun h => c13 (h.resolve_right (by decide)), fun h t0 => c14 (h.resolve_right (by decide)) (fun z => t0 (.inl z)), fun h => c15 (h.resolve_right (by decide)), fun h => c16 (h.resolve_right (by decide)), fun h => c17 (h.resolve_right (by decide)), fun h => c18 (h.resolve_right (by decide)), fun h => c19 (h.resolve_right (by decide)), fun h => c20 (h.resolve_right (by decide))⟩ _ (by simp only [e9])
    apply RelH.op2
    · intro L f u K hN hS hK
      simp only [puts, Act.put, List.setIfInBounds_toArray, List.set_cons_zero, List.set_cons_succ, upd, Nat.reduceEqDiff, ↓reduceIte, if_true, if_false] at hK ⊢
      have HS9 := Lib.hid hS
      obtain ⟨qR, qX, qC, qGW, qC1, c0, c1, c2, c3, c4, c5, c6, c7, c8, c9, c10, c11, c12, c13, c14, c15, c16, c17, c18, c19, c20⟩ := hS
      clear qR qC qC1 c0 c1 c2 c3 c4 c5 c6 c7 c8 c9 c10 c11 c12 c13 c14 c15 c16 c17 c18 c19 c20
      go_simp
      obtain ⟨qR, qX, qC, qGW, qC1, c0, c1, c2, c3, c4, c5, c6, c7, c8, c9, c10, c11, c12, c13, c14, c15, c16, c17, c18, c19, c20⟩ := HS9.out
      exact hK.out _ _ ⟨fun z9 => qR (fun z => z9 (.inl z)), qX, fun z9 => qC (fun z => z9 (.inl z)), qGW, fun z8 z9 => qC1 (z8.resolve_right (by decide)) (fun z => z9 (.inl z)), fun h => c0 (h.resolve_right (by decide)), fun h => c1 (h.resolve_right (by decide)), fun h => c2 (h.resolve_right (by decide)), fun h => c3 (h.resolve_right (by decide)), fun h => c4 (h.resolve_right (by decide)), fun h => c5 (h.resolve_right (by decide)), fun h => c6 (h.resolve_right (by decide)), fun h => c7 (h.resolve_right (by decide)), fun h => c8 (h.resolve_right (by decide)), fun h => c9 (h.resolve_right (by decide)), fun h => c10 (h.resolve_right (by decide)), fun _ => rfl, fun h => c12 (h.resolve_right (by decide)), fun h => c13 (h.resolve_right (by decide)), fun h t0 => c14 (h.resolve_right (by decide)) (fun z => t0 (.inl z)), fun h => c15 (h.resolve_right (by decide)), fun h => c16 (h.resolve_right (by decide)), fun h => c17 (h.resolve_right (by decide)), fun h => c18 (h.resolve_right (by decide)), fun h => c19 (h.resolve_right (by decide)), fun h => c20 (h.resolve_right (by decide))⟩ _ rfl
    apply RelH.op2
    · intro L f u K hN hS hK
      simp only [puts, Act.put, List.setIfInBounds_toArray, List.set_cons_zero, List.set_cons_succ, upd, Nat.reduceEqDiff, ↓reduceIte, if_true, if_false] at hK ⊢
      have HS9 := Lib.hid hS
      obtain ⟨qR, qX, qC, qGW, qC1, c0, c1, c2, c3, c4, c5, c6, c7, c8, c9, c10, c11, c12, c13, c14, c15, c16, c17, c18, c19, c20⟩ := hS
      have e11 := c11 (hN.out.2 11 (by decide +kernel))
      have X_0 := qX.cells 0 _ rfl
      have X_1 := qX.cells 1 _ rfl
      clear qR qC qC1 c0 c1 c2 c3 c4 c5 c6 c7 c8 c9 c10 c11 c12 c13 c14 c15 c16 c17 c18 c19 c20
      go_simp
      obtain ⟨qR, qX, qC, qGW, qC1, c0, c1, c2, c3, c4, c5, c6, c7, c8, c9, c10, c11, c12, c13, c14, c15, c16, c17, c18, c19, c20⟩ := HS9.out
      exact hK.out _ _ ⟨fun z9 => qR (fun z => z9 (.inl z)), qX, fun z9 => qC (fun z => z9 (.inl z)), qGW, fun z8 z9 => qC1 (z8.resolve_right (by decide)) (fun z => z9 (.inl z)), fun h => c0 (h.resolve_right (by decide)), fun h => c1 (h.resolve_right (by decide)), fun h => c2 (h.resolve_right (by decide)), fun h => c3 (h.resolve_right (by decide)), fun h => c4 (h.resolve_right (by decide)), fun h => c5 (h.resolve_right (by decide)), fun h => c6 (h.resolve_right (by decide)), fun h => c7 (h.resolve_right (by decide)), fun h => c8 (h.resolve_right (by decide)), fun h => c9 (h.resolve_right (by decide)), fun h => c10 (h.resolve_right (by decide)), fun h => c11 (h.resolve_right (by decide)), fun _ => rfl, fun h => c13 (h.resolve_right (by decide)), fun h t0 => c14 (h.resolve_right (by decide)) (fun z => t0 (.inl z)), fun h => c15 (h.resolve_right (by decide)), fun h => c16 (h.resolve_right (by decide)), fun h => c17 (h.resolve_right (by decide)), fun h => c18 (h.resolve_right (by decide)), fun h => c19 (h.resolve_right (by decide)), fun h => c20 (h.resolve_right (by decide))⟩ _ (by simp only [e11])
    apply RelH.op2
    · intro L f u K hN hS hK
      simp only [puts, Act.put, List.setIfInBounds_toArray, List.set_cons_zero, List.set_cons_succ, upd, Nat.reduceEqDiff, ↓reduceIte, if_true, if_false] at hK ⊢
      have HS9 := Lib.hid hS
      obtain ⟨qR, qX, qC, qGW, qC1, c0, c1, c2, c3, c4, c5, c6, c7, c8, c9, c10, c11, c12, c13, c14, c15, c16, c17, c18, c19, c20⟩ := hS
      have e12 := c12 (hN.out.2 12 (by decide +kernel))
      clear qR qC qC1 c0 c1 c2 c3 c4 c5 c6 c7 c8 c9 c10 c11 c12 c13 c14 c15 c16 c17 c18 c19 c20
      go_simp
      obtain ⟨qR, qX, qC, qGW, qC1, c0, c1, c2, c3, c4, c5, c6, c7, c8, c9, c10, c11, c12, c13, c14, c15, c16, c17, c18, c19, c20⟩ := HS9.out
      exact hK.out _ _ ⟨fun z9 => qR (fun z => z9 (.inl z)), qX, fun z9 => qC (fun z => z9 (.inl z)), qGW, fun z8 z9 => qC1 (z8.resolve_right (by decide)) (fun z => z9 (.inl z)), fun h => c0 (h.resolve_right (by decide)), fun h => c1 (h.resolve_right (by decide)), fun h => c2 (h.resolve_right (by decide)), fun h => c3 (h.resolve_right (by decide)), fun h => c4 (h.resolve_right (by decide)), fun h => c5 (h.resolve_right (by decide)), fun h => c6 (h.resolve_right (by decide)), fun h => c7 (h.resolve_right (by decide)), fun h => c8 (h.resolve_right (by decide)), fun h => c9 (h.resolve_right (by decide)), fun h => c10 (h.resolve_right (by decide)), fun h => c11 (h.resolve_right (by decide)), fun h => c12 (h.resolve_right (by decide)), fun _ => rfl, fun h t0 => c14 (h.resolve_right (by decide)) (fun z => t0 (.inl z)), fun h => c15 (h.resolve_right (by decide)), fun h => c16 (h.resolve_right (by decide)), fun h => c17 (h.resolve_right (by decide)), fun h => c18 (h.resolve_right (by decide)), fun h => c19 (h.resolve_right (by decide)), fun h => c20 (h.resolve_right (by decide))⟩ _ (by simp only [e12])
    apply RelH.op2
    · intro L f u K hN hS hK
      simp only [puts, Act.put, List.setIfInBounds_toArray, List.set_cons_zero, List.set_cons_succ, upd, Nat.reduceEqDiff, ↓reduceIte, if_true, if_false] at hK ⊢
      have HS9 := Lib.hid hS
      obtain ⟨qR, qX, qC, qGW, qC1, c0, c1, c2, c3, c4, c5, c6, c7, c8, c9, c10, c11, c12, c13, c14, c15, c16, c17, c18, c19, c20⟩ := hS
      have e7 := c7 (hN.out.2 7 (by decide +kernel))
      have e10 := c10 (hN.out.2 10 (by decide +kernel))
      have e13 := c13 (hN.out.2 13 (by decide +kernel))
      have hT := lst_at u [Value.int .i64 0, Value.int .i64 x, Value.int .i64 (x.tdiv 2), Value.int .i64 (x - 1), Value.int .i64 5, Value.int .i64 (-1)] 3 (g := u.heap.size) rfl
      have hpu : p < u.heap.size := by have := qX.there; omega
      clear qR qC qC1 c0 c1 c2 c3 c4 c5 c6 c7 c8 c9 c10 c11 c12 c13 c14 c15 c16 c17 c18 c19 c20
      go_simp
      obtain ⟨qR, qX, qC, qGW, qC1, c0, c1, c2, c3, c4, c5, c6, c7, c8, c9, c10, c11, c12, c13, c14, c15, c16, c17, c18, c19, c20⟩ := HS9.out
      exact hK.out _ _ ⟨fun z9 => (qR (fun z => z9 (.inl z))).alloc _, qX.alloc _, fun z9 => (qC (fun z => z9 (.inl z))).alloc _, grown_trans qGW (grown_alloc _ _ _), fun z8 z9 => (qC1 (z8.resolve_right (by decide)) (fun z => z9 (.inl z))).alloc _, fun h => c0 (h.resolve_right (by decide)), fun h => (let ⟨L9, g, c, h1, h2, h3, h4, O⟩ := (c1 (h.resolve_right (by decide))); ⟨L9, g, c, h1, h2, h3, h4, own_keep O (al (Below.refl _ _))⟩), fun h => c2 (h.resolve_right (by decide)), fun h => c3 (h.resolve_right (by decide)), fun h => c4 (h.resolve_right (by decide)), fun h => c5 (h.resolve_right (by decide)), fun h => c6 (h.resolve_right (by decide)), fun h => c7 (h.resolve_right (by decide)), fun h => c8 (h.resolve_right (by decide)), fun h => c9 (h.resolve_right (by decide)), fun h => c10 (h.resolve_right (by decide)), fun h => c11 (h.resolve_right (by decide)), fun h => c12 (h.resolve_right (by decide)), fun h => c13 (h.resolve_right (by decide)), fun _ _ => ⟨_, rfl, by omega, hT⟩, fun h => c15 (h.resolve_right (by decide)), fun h => (let ⟨L9, g, c, h1, h2, h3, h4, O⟩ := (c16 (h.resolve_right (by decide))); ⟨L9, g, c, h1, h2, h3, h4, own_keep O (al (Below.refl _ _))⟩), fun h => ((c17 (h.resolve_right (by decide)))).alloc _, fun h => c18 (h.resolve_right (by decide)), fun h => c19 (h.resolve_right (by decide)), fun h => c20 (h.resolve_right (by decide))⟩ _ (by simp only [e7, e10, e13])
    apply RelH.op2
    · intro L f u K hN hS hK
      simp only [puts, Act.put, List.setIfInBounds_toArray, List.set_cons_zero, List.set_cons_succ, upd, Nat.reduceEqDiff, ↓reduceIte, if_true, if_false] at hK ⊢
      have HS9 := Lib.hid hS
      obtain ⟨qR, qX, qC, qGW, qC1, c0, c1, c2, c3, c4, c5, c6, c7, c8, c9, c10, c11, c12, c13, c14, c15, c16, c17, c18, c19, c20⟩ := hS
      have e5 := c5 (hN.out.2 5 (by decide +kernel))
      obtain ⟨gl, e14, h14, T⟩ := c14 (hN.out.2 14 (by decide +kernel)) (hN.out.1 15 (by decide +kernel))
      obtain ⟨L9, g, c, hl9, e1, h91, h92, O9⟩ := c1 (hN.out.2 1 (by decide +kernel))
      have HCON := Lib.hid (among_d B zs p (K0 + 500) u gl 6 [0, x, x.tdiv 2, x - 1, 5, -1] (qC1 (hN.out.2 1 (by decide +kernel)) (hN.out.1 15 (by decide +kernel))) (by omega) T h14 (by simp) (by simp))
      clear qR qC qC1 c0 c1 c2 c3 c4 c5 c6 c7 c8 c9 c10 c11 c12 c13 c14 c15 c16 c17 c18 c19 c20
      go_simp
      go_at_call 51
      refine HCON.out.mono ?_
      rintro e uw1 ⟨m, hm, rfl, C9, G⟩
      go_wp2_with fail
      obtain ⟨qR, qX, qC, qGW, qC1, c0, c1, c2, c3, c4, c5, c6, c7, c8, c9, c10, c11, c12, c13, c14, c15, c16, c17, c18, c19, c20⟩ := HS9.out
      exact hK.out _ _ ⟨fun z9 => (qR (fun z => z9 (.inl z))).went G (by omega), qX.went G (by omega), fun z9 => (z9 (.inl (hN.out.2 1 (by decide +kernel)))).elim, grown_trans qGW G, fun _ z9 => (z9 (by simp)).elim, fun h => c0 (h.resolve_right (by decide)), fun h => (let ⟨L9, g, c, h1, h2, h3, h4, O⟩ := (c1 (h.resolve_right (by decide))); ⟨L9, g, c, h1, h2, h3, h4, own_grownN O G (fun k hk => by injection hk with hk; omega)⟩), fun h => c2 (h.resolve_right (by decide)), fun h => c3 (h.resolve_right (by decide)), fun h => c4 (h.resolve_right (by decide)), fun h => c5 (h.resolve_right (by decide)), fun h => c6 (h.resolve_right (by decide)), fun h => c7 (h.resolve_right (by decide)), fun h => c8 (h.resolve_right (by decide)), fun h => c9 (h.resolve_right (by decide)), fun h => c10 (h.resolve_right (by decide)), fun h => c11 (h.resolve_right (by decide)), fun h => c12 (h.resolve_right (by decide)), fun h => c13 (h.resolve_right (by decide)), fun h t0 => (t0 (by simp)).elim, fun _ => ⟨m, rfl⟩, fun h => (let ⟨L9, g, c, h1, h2, h3, h4, O⟩ := (c16 (h.resolve_right (by decide))); ⟨L9, g, c, h1, h2, h3, h4, own_grownN O G (fun k hk => by injection hk with hk; omega)⟩), fun h => ((c17 (h.resolve_right (by decide)))).went G (by omega), fun h => c18 (h.resolve_right (by decide)), fun h => c19 (h.resolve_right (by decide)), fun h => c20 (h.resolve_right (by decide))⟩ _ (by simp only [e5, e14, e1])
    apply RelH.op2
    · intro L f u K hN hS hK
      simp only [puts, Act.put, List.setIfInBounds_toArray, List.set_cons_zero, List.set_cons_succ, upd, Nat.reduceEqDiff, ↓reduceIte, if_true, if_false] at hK ⊢
      have HS9 := Lib.hid hS
      obtain ⟨qR, qX, qC, qGW, qC1, c0, c1, c2, c3, c4, c5, c6, c7, c8, c9, c10, c11, c12, c13, c14, c15, c16, c17, c18, c19, c20⟩ := hS
      obtain ⟨L9, g, c, hl9, e1, h91, h92, O9⟩ := c1 (hN.out.2 1 (by decide +kernel))
      clear qR qC qC1 c0 c1 c2 c3 c4 c5 c6 c7 c8 c9 c10 c11 c12 c13 c14 c15 c16 c17 c18 c19 c20
      go_simp
      obtain ⟨qR, qX, qC, qGW, qC1, c0, c1, c2, c3, c4, c5, c6, c7, c8, c9, c10, c11, c12, c13, c14, c15, c16, c17, c18, c19, c20⟩ := HS9.out
      exact hK.out _ _ ⟨fun z9 => qR (fun z => z9 (.inl z)), qX, fun z9 => qC (fun z => z9 (.inl z)), qGW, fun z8 z9 => qC1 (z8.resolve_right (by decide)) (fun z => z9 (.inl z)), fun h => c0 (h.resolve_right (by decide)), fun h => c1 (h.resolve_right (by decide)), fun h => c2 (h.resolve_right (by decide)), fun h => c3 (h.resolve_right (by decide)), fun h => c4 (h.resolve_right (by decide)), fun h => c5 (h.resolve_right (by decide)), fun h => c6 (h.resolve_right (by decide)), fun h => c7 (h.resolve_right (by decide)), fun h => c8 (h.resolve_right (by decide)), fun h => c9 (h.resolve_right (by decide)), fun h => c10 (h.resolve_right (by decide)), fun h => c11 (h.resolve_right (by decide)), fun h => c12 (h.resolve_right (by decide)), fun h => c13 (h.resolve_right (by decide)), fun h t0 => c14 (h.resolve_right (by decide)) (fun z => t0 (.inl z)), fun h => c15 (h.resolve_right (by decide)), fun _ => ⟨L9, g, c, hl9, rfl, h91, h92, O9⟩, fun h => c17 (h.resolve_right (by decide)), fun h => c18 (h.resolve_right (by decide)), fun h => c19 (h.resolve_right (by decide)), fun h => c20 (h.resolve_right (by decide))⟩ _ (by simp only [e1])
    apply RelH.op2
    · intro L f u K hN hS hK
      simp only [puts, Act.put, List.setIfInBounds_toArray, List.set_cons_zero, List.set_cons_succ, upd, Nat.reduceEqDiff, ↓reduceIte, if_true, if_false] at hK ⊢
      have HS9 := Lib.hid hS
      obtain ⟨qR, qX, qC, qGW, qC1, c0, c1, c2, c3, c4, c5, c6, c7, c8, c9, c10, c11, c12, c13, c14, c15, c16, c17, c18, c19, c20⟩ := hS
      have e2 := c2 (hN.out.2 2 (by decide +kernel))
      have qR1 := qR (hN.out.1 17 (by decide +kernel))
      have R_0 := qR1.cells 0 _ rfl
      have R_1 := qR1.cells 1 _ rfl
      have R_f0 := qR1.free 0 (by simp)
      have R_f1 := qR1.free 1 (by simp)
      clear qR qC qC1 c0 c1 c2 c3 c4 c5 c6 c7 c8 c9 c10 c11 c12 c13 c14 c15 c16 c17 c18 c19 c20
      go_simp
      obtain ⟨qR, qX, qC, qGW, qC1, c0, c1, c2, c3, c4, c5, c6, c7, c8, c9, c10, c11, c12, c13, c14, c15, c16, c17, c18, c19, c20⟩ := HS9.out
      exact hK.out undef _ ⟨fun z9 => (z9 (by simp)).elim, (qX.far (k := w.heap.size) (by omega) 0 (.int .i64 x)).far (k := w.heap.size) (by omega) 1 (.int .i64 y), fun z9 => (z9 (.inl (hN.out.2 1 (by decide +kernel)))).elim, grown_set (grown_set qGW (Nat.le_refl _) 0 (.int .i64 x)) (Nat.le_refl _) 1 (.int .i64 y), fun _ z9 => (z9 (.inl (hN.out.2 15 (by decide +kernel)))).elim, fun h => c0 (h.resolve_right (by decide)), fun h => (let ⟨L9, g, c, h1, h2, h3, h4, O⟩ := (c1 (h.resolve_right (by decide))); ⟨L9, g, c, h1, h2, h3, h4, own_far (own_far O (k := w.heap.size) h3.symm 0 (.int .i64 x)) (k := w.heap.size) h3.symm 1 (.int .i64 y)⟩), fun h => c2 (h.resolve_right (by decide)), fun h => c3 (h.resolve_right (by decide)), fun h => c4 (h.resolve_right (by decide)), fun h => c5 (h.resolve_right (by decide)), fun h => c6 (h.resolve_right (by decide)), fun h => c7 (h.resolve_right (by decide)), fun h => c8 (h.resolve_right (by decide)), fun h => c9 (h.resolve_right (by decide)), fun h => c10 (h.resolve_right (by decide)), fun h => c11 (h.resolve_right (by decide)), fun h => c12 (h.resolve_right (by decide)), fun h => c13 (h.resolve_right (by decide)), fun _ t0 => (t0 (.inl (hN.out.2 15 (by decide +kernel)))).elim, fun h => c15 (h.resolve_right (by decide)), fun h => (let ⟨L9, g, c, h1, h2, h3, h4, O⟩ := (c16 (h.resolve_right (by decide))); ⟨L9, g, c, h1, h2, h3, h4, own_far (own_far O (k := w.heap.size) h3.symm 0 (.int .i64 x)) (k := w.heap.size) h3.symm 1 (.int .i64 y)⟩), fun _ => (qR1.set 0 (.int .i64 x)).set 1 (.int .i64 y), fun h => c18 (h.resolve_right (by decide)), fun h => c19 (h.resolve_right (by decide)), fun h => c20 (h.resolve_right (by decide))⟩ _ (by simp only [e2])
    apply RelH.op2
    · intro L f u K hN hS hK
      simp only [puts, Act.put, List.setIfInBounds_toArray, List.set_cons_zero, List.set_cons_succ, upd, Nat.reduceEqDiff, ↓reduceIte, if_true, if_false] at hK ⊢
      have HS9 := Lib.hid hS
      obtain ⟨qR, qX, qC, qGW, qC1, c0, c1, c2, c3, c4, c5, c6, c7, c8, c9, c10, c11, c12, c13, c14, c15, c16, c17, c18, c19, c20⟩ := hS
      have e3 := c3 (hN.out.2 3 (by decide +kernel))
      clear qR qC qC1 c0 c1 c2 c3 c4 c5 c6 c7 c8 c9 c10 c11 c12 c13 c14 c15 c16 c17 c18 c19 c20
      go_simp
      obtain ⟨qR, qX, qC, qGW, qC1, c0, c1, c2, c3, c4, c5, c6, c7, c8, c9, c10, c11, c12, c13, c14, c15, c16, c17, c18, c19, c20⟩ := HS9.out
      exact hK.out _ _ ⟨fun z9 => qR (fun z => z9 (.inl z)), qX, fun z9 => qC (fun z => z9 (.inl z)), qGW, fun z8 z9 => qC1 (z8.resolve_right (by decide)) (fun z => z9 (.inl z)), fun h => c0 (h.resolve_right (by decide)), fun h => c1 (h.resolve_right (by decide)), fun h => c2 (h.resolve_right (by decide)), fun h => c3 (h.resolve_right (by decide)), fun h => c4 (h.resolve_right (by decide)), fun h => c5 (h.resolve_right (by decide)), fun h => c6 (h.resolve_right (by decide)), fun h => c7 (h.resolve_right (by decide)), fun h => c8 (h.resolve_right (by decide)), fun h => c9 (h.resolve_right (by decide)), fun h => c10 (h.resolve_right (by decide)), fun h => c11 (h.resolve_right (by decide)), fun h => c12 (h.resolve_right (by decide)), fun h => c13 (h.resolve_right (by decide)), fun h t0 => c14 (h.resolve_right (by decide)) (fun z => t0 (.inl z)), fun h => c15 (h.resolve_right (by decide)), fun h => c16 (h.resolve_right (by decide)), fun h => c17 (h.resolve_right (by decide)), fun _ => rfl, fun h => c19 (h.resolve_right (by decide)), fun h => c20 (h.resolve_right (by decide))⟩ _ (by simp only [e3])
    apply RelH.op2
    · intro L f u K hN hS hK
      simp only [puts, Act.put, List.setIfInBounds_toArray, List.set_cons_zero, List.set_cons_succ, upd, Nat.reduceEqDiff, ↓reduceIte, if_true, if_false] at hK ⊢
      have HS9 := Lib.hid hS
      obtain ⟨qR, qX, qC, qGW, qC1, c0, c1, c2, c3, c4, c5, c6, c7, c8, c9, c10, c11, c12, c13, c14, c15, c16, c17, c18, c19, c20⟩ := hS
      have e4 := c4 (hN.out.2 4 (by decide +kernel))
      clear qR qC qC1 c0 c1 c2 c3 c4 c5 c6 c7 c8 c9 c10 c11 c12 c13 c14 c15 c16 c17 c18 c19 c20
      go_simp
      obtain ⟨qR, qX, qC, qGW, qC1, c0, c1, c2, c3, c4, c5, c6, c7, c8, c9, c10, c11, c12, c13, c14, c15, c16, c17, c18, c19, c20⟩ := HS9.out
      exact hK.out _ _ ⟨fun z9 => qR (fun z => z9 (.inl z)), qX, fun z9 => qC (fun z => z9 (.inl z)), qGW, fun z8 z9 => qC1 (z8.resolve_right (by decide)) (fun z => z9 (.inl z)), fun h => c0 (h.resolve_right (by decide)), fun h => c1 (h.resolve_right (by decide)), fun h => c2 (h.resolve_right (by decide)), fun h => c3 (h.resolve_right (by decide)), fun h => c4 (h.resolve_right (by decide)), fun h => c5 (h.resolve_right (by decide)), fun h => c6 (h.resolve_right (by decide)), fun h => c7 (h.resolve_right (by decide)), fun h => c8 (h.resolve_right (by decide)), fun h => c9 (h.resolve_right (by decide)), fun h => c10 (h.resolve_right (by decide)), fun h => c11 (h.resolve_right (by decide)), fun h => c12 (h.resolve_right (by decide)), fun h => c13 (h.resolve_right (by decide)), fun h t0 => c14 (h.resolve_right (by decide)) (fun z => t0 (.inl z)), fun h => c15 (h.resolve_right (by decide)), fun h => c16 (h.resolve_right (by decide)), fun h => c17 (h.resolve_right (by decide)), fun h => c18 (h.resolve_right (by decide)), fun _ => rfl, fun h => c20 (h.resolve_right (by decide))⟩ _ (by simp only [e4])
    apply RelH.op2
    · intro L f u K hN hS hK
      simp only [puts, Act.put, List.setIfInBounds_toArray, List.set_cons_zero, List.set_cons_succ, upd, Nat.reduceEqDiff, ↓reduceIte, if_true, if_false] at hK ⊢
      have HS9 := Lib.hid hS
      obtain ⟨qR, qX, qC, qGW, qC1, c0, c1, c2, c3, c4, c5, c6, c7, c8, c9, c10, c11, c12, c13, c14, c15, c16, c17, c18, c19, c20⟩ := hS
      obtain ⟨m, e15⟩ := c15 (hN.out.2 15 (by decide +kernel))
      clear qR qC qC1 c0 c1 c2 c3 c4 c5 c6 c7 c8 c9 c10 c11 c12 c13 c14 c15 c16 c17 c18 c19 c20
      go_simp
      obtain ⟨qR, qX, qC, qGW, qC1, c0, c1, c2, c3, c4, c5, c6, c7, c8, c9, c10, c11, c12, c13, c14, c15, c16, c17, c18, c19, c20⟩ := HS9.out
      exact hK.out _ _ ⟨fun z9 => qR (fun z => z9 (.inl z)), qX, fun z9 => qC (fun z => z9 (.inl z)), qGW, fun z8 z9 => qC1 (z8.resolve_right (by decide)) (fun z => z9 (.inl z)), fun h => c0 (h.resolve_right (by decide)), fun h => c1 (h.resolve_right (by decide)), fun h => c2 (h.resolve_right (by decide)), fun h => c3 (h.resolve_right (by decide)), fun h => c4 (h.resolve_right (by decide)), fun h => c5 (h.resolve_right (by decide)), fun h => c6 (h.resolve_right (by decide)), fun h => c7 (h.resolve_right (by decide)), fun h => c8 (h.resolve_right (by decide)), fun h => c9 (h.resolve_right (by decide)), fun h => c10 (h.resolve_right (by decide)), fun h => c11 (h.resolve_right (by decide)), fun h => c12 (h.resolve_right (by decide)), fun h => c13 (h.resolve_right (by decide)), fun h t0 => c14 (h.resolve_right (by decide)) (fun z => t0 (.inl z)), fun h => c15 (h.resolve_right (by decide)), fun h => c16 (h.resolve_right (by decide)), fun h => c17 (h.resolve_right (by decide)), fun h => c18 (h.resolve_right (by decide)), fun h => c19 (h.resolve_right (by decide)), fun _ => ⟨m, rfl⟩⟩ _ (by simp only [e15])
    exact RelH.done
  intro L f V0 hL hS
  simp only [puts, Act.put, List.setIfInBounds_toArray, List.set_cons_zero, List.set_cons_succ]
  obtain ⟨qR, qX, qC, qGW, qC1, c0, c1, c2, c3, c4, c5, c6, c7, c8, c9, c10, c11, c12, c13, c14, c15, c16, c17, c18, c19, c20⟩ := hS
  have R9 := c17 (hL 17 (by decide))
  have HB := below_of (Below.refl w.heap.size w) qGW (fun k hk => by injection hk with hk; omega)
  obtain ⟨L, g, c, hl, e16, h161, h162, O⟩ := c16 (hL 16 (by decide))
  obtain ⟨m, e20⟩ := c20 (hL 20 (by decide))
  have e18 := c18 (hL 18 (by decide)); have e19 := c19 (hL 19 (by decide))
  simp only [e16, e18, e19, e20]
  clear c0 c1 c2 c3 c4 c5 c6 c7 c8 c9 c10 c11 c12 c13 c14 c15 c16 c17 c18 c19 c20 hL e16 e18 e19 e20 qC qC1 qX qR
  have q0 := R9.cells 0 _ rfl
  have q1 := R9.cells 1 _ rfl
  go_wp2
  exact bodyPost_ret (v := .tuple #[.slice (some ⟨g, 0, none⟩) L.length c, .agg #[.int .i64 x, .int .i64 y], .int .i64 f1, .int .i64 t, .int .i64 m]) (by simp [results, Try.results23, go_sem, q0, q1]) rfl ⟨L, g, c, x, y, f1, t, m, hl, rfl, O, HB⟩
end Go.Proofs.Ytcmomccdnkligaa.DSun3
