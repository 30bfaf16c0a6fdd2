/- The draw of DrawCoverNeeded. -/
import Derived.Test.YtpbmncecejchjaaDShw2
namespace Go.Proofs.Ytpbmncecejchjaa.DShw3
open Go.RowKit Go.Proofs.Ytpbmncecejchjaa.Mem Go.Proofs.Ytpbmncecejchjaa.Base Go.Proofs.Ytpbmncecejchjaa.Draw Go.Proofs.Ytpbmncecejchjaa.Boxes Go.Proofs.Ytpbmncecejchjaa.Keep Go.Proofs.Ytpbmncecejchjaa.Dr Go.Proofs.Ytpbmncecejchjaa.Regn Go.Proofs.Ytpbmncecejchjaa.SShower Go.Proofs.Ytpbmncecejchjaa.DShw2
set_option linter.unusedVariables false
set_option maxRecDepth 100000
def DC (w : World) (e : Ending) (w' : World) : Prop :=
  ∃ (M : List R) (g c : Nat) (x y a d m : Int), M.length ≤ 25 ∧ e = .returned (.tuple #[.slice (some ⟨g, 0, none⟩) M.length c, .agg #[.int .i64 x, .int .i64 y], .int .i64 a, .int .i64 d, .int .i64 m]) ∧ w'.ownsRow w.heap.size 54 2 (.slice (some ⟨g, 0, none⟩) M.length c) M.length (SShower.flat M) ∧ Below w.heap.size w w'
set_option maxHeartbeats 8000000 in
theorem drawNeed (A : Option Addr) (cap : Nat) (zs : List Int) (w : World) (h : Draw.Src w A zs) : Calls Try.prog 22 #[.slice A zs.length cap] w (DC w) := by
  have C0 := cu_at (h.below (al (Below.refl _ w) (o := .cells #[.int .i64 0, .int .i64 0] 26))) cap (p := w.heap.size + 1) (by rw [size_alloc'])
  have R0 := (Cb.new w [.int .i64 0, .int .i64 0] 26 (g := w.heap.size) rfl).alloc (.cells #[.slice A zs.length cap, .int .i64 0, .int .u64 0] 96)
  have G0 : w.grownBy ((w.alloc (.cells #[.int .i64 0, .int .i64 0] 26)).alloc (.cells #[.slice A zs.length cap, .int .i64 0, .int .u64 0] 96)) (some (w.heap.size + 1)) := grown_trans (grown_alloc w _ _) (grown_alloc _ _ _)
  have S0 : ((w.alloc (.cells #[.int .i64 0, .int .i64 0] 26)).alloc (.cells #[.slice A zs.length cap, .int .i64 0, .int .u64 0] 96)).heap.size = w.heap.size + 1 + 1 := by rw [size_alloc', size_alloc']
  have H0 := Lib.hid (And.intro C0 (And.intro R0 (And.intro G0 S0))); clear C0 R0 G0 S0
  go_enter Try.func22, Try.ntmps22
  go_wp2_with fail
  obtain ⟨C0, R, GW, sv⟩ := H0.out
  obtain ⟨B, C⟩ : ∃ B, Cu B zs (w.heap.size + 1) 0 ((w.alloc (.cells #[.int .i64 0, .int .i64 0] 26)).alloc (.cells #[.slice A zs.length cap, .int .i64 0, .int .u64 0] 96)) := ⟨_, C0⟩
  clear C0 H0
  generalize (w.alloc (.cells #[.int .i64 0, .int .i64 0] 26)).alloc (.cells #[.slice A zs.length cap, .int .i64 0, .int .u64 0] 96) = v at C R GW sv ⊢
  have zw : w.heap.size < w.heap.size + 1 := Nat.lt_succ_self _
  have zv := GW.size
  have hp := C.lt
  have hB := C.base
  generalize w.heap.size + 1 = p at *
  try go_wp2_with fail
  refine (DShw.showers_d B zs p (0) _ C (by omega)).mono ?_
  rintro e u121 ⟨M, g, c, hl, rfl, O, C1, G⟩
  have yu121 : v.heap.size ≤ u121.heap.size := G.size
  replace R := (R).went G (by omega)
  replace GW := grown_trans GW G
  replace C := C1
  clear C1 G
  have zu121 := GW.size
  replace O := own_base O (base' := p + 1) (by omega)
  have hg0 := own_ge O g (by simp [Value.ownBlock])
  try go_wp2_with fail
  refine (DSun.brine_d B zs p (0 + 500) _ C (by omega)).mono ?_
  rintro e u122 ⟨x, y, xy_r, rfl, C1, G⟩
  have yu122 : u121.heap.size ≤ u122.heap.size := G.size
  replace R := (R).went G (by omega)
  replace O := own_grown O G (fun k hk => by injection hk with hk; omega)
  replace GW := grown_trans GW G
  replace C := C1
  clear C1 G
  have zu122 := GW.size
  go_wp2_with fail
  have X := Cb.new u122 [.int .i64 x, .int .i64 y] 26 (g := u122.heap.size) rfl
  replace R := (R.alloc (.cells #[.int .i64 x, .int .i64 y] 26))
  replace C := (C.alloc (.cells #[.int .i64 x, .int .i64 y] 26))
  replace GW := (grown_trans GW (grown_alloc _ (.cells #[.int .i64 x, .int .i64 y] 26) _))
  replace O := own_keep O (al (Below.refl _ _) (o := (.cells #[.int .i64 x, .int .i64 y] 26)))
  have su123 : (u122.alloc (.cells #[.int .i64 x, .int .i64 y] 26)).heap.size = u122.heap.size + 1 := by simp only [size_alloc']
  generalize (u122.alloc (.cells #[.int .i64 x, .int .i64 y] 26)) = u123 at X R O GW C su123 ⊢
  have zu123 := GW.size
  have hgx : p < u122.heap.size ∧ u122.heap.size ≠ w.heap.size := by omega
  generalize u122.heap.size = gx at *
  obtain ⟨hgx1, hgx2⟩ := hgx
  have y0 : IntKind.i64.wrap (x + 5) = x + 5 := IntWalk.i64_in _ (by omega)
  have y1 : IntKind.i64.wrap (x + 100) = x + 100 := IntWalk.i64_in _ (by omega)
  have y2 : IntKind.i64.wrap (x - 1) = x - 1 := IntWalk.i64_in _ (by omega)
  obtain ⟨K0, hK0, hK1⟩ : ∃ K0 : Nat, K0 ≤ 600000000 ∧ 0 + 500 + 8 = K0 := ⟨_, by omega, rfl⟩
  rw [hK1] at C
  clear hK1
  refine wp_region_rel [17, 18, 19, 20, 21, 22, 23, 24, 25, 26, 27, 28, 29, 30, 31, 32, 33, 34, 35, 36, 37, 2, 4, 5, 6] (fun L f w' => (¬ L 22 → Cb w.heap.size [.int .i64 0, .int .i64 0] w') ∧ (Cb gx [.int .i64 x, .int .i64 y] w') ∧ (¬ L 3 → Cu B zs p K0 w') ∧ (w.grownBy w' (some p)) ∧ (w'.ownsRow (p + 1) 54 2 (.slice (some ⟨g, 0, none⟩) M.length c) M.length (SShower.flat M)) ∧ (L 3 → ¬ L 6 → Cu B zs p (K0 + 2) w') ∧ (L 6 → ¬ L 20 → Cu B zs p (K0 + 8) w') ∧ (L 0 → f 17 = .slice (some ⟨g, 0, none⟩) M.length c) ∧ (L 1 → f 18 = .agg #[.int .i64 x, .int .i64 y]) ∧ (L 2 → f 19 = .pointer (some ⟨p, 0, none⟩)) ∧ (L 3 → ∃ m, f 20 = .int .i64 m) ∧ (L 4 → f 21 = .pointer (some ⟨p, 0, none⟩)) ∧ (L 5 → f 22 = .slice (some ⟨g, 0, none⟩) M.length c) ∧ (L 6 → ∃ m, f 23 = .int .i64 m) ∧ (L 7 → f 24 = .pointer (some ⟨p, 0, none⟩)) ∧ (L 8 → f 25 = .pointer (some ⟨gx, 0, none⟩)) ∧ (L 9 → f 26 = .int .i64 x) ∧ (L 10 → f 27 = .pointer (some ⟨gx, 0, none⟩)) ∧ (L 11 → f 28 = .int .i64 x) ∧ (L 12 → f 29 = .int .i64 (x + 5)) ∧ (L 13 → f 30 = .pointer (some ⟨gx, 0, none⟩)) ∧ (L 14 → f 31 = .int .i64 x) ∧ (L 15 → f 32 = .int .i64 (x + 100)) ∧ (L 16 → f 33 = .pointer (some ⟨gx, 0, none⟩)) ∧ (L 17 → f 34 = .int .i64 x) ∧ (L 18 → f 35 = .int .i64 (x - 1)) ∧ (L 19 → ¬ L 20 → ∃ gl, f 36 = .slice (some ⟨gl, 0, none⟩) 7 7 ∧ gl ≠ p ∧ Lst w' gl (([x, x + 5, x + 100, 1000000, x - 1, 0, -1] : List Int).map (Value.int .i64))) ∧ (L 20 → ∃ m, f 37 = .int .i64 m) ∧ (L 21 → f 2 = .slice (some ⟨g, 0, none⟩) M.length c) ∧ (L 22 → Cb w.heap.size [.int .i64 x, .int .i64 y] w') ∧ (L 23 → ∃ m, f 4 = .int .i64 m) ∧ (L 24 → ∃ m, f 5 = .int .i64 m) ∧ (L 25 → ∃ m, f 6 = .int .i64 m)) (by kernel_rfl) (by kernel_rfl) (by kernel_rfl) (fun f => ⟨fun _ => R.more (Below.refl _ _).drew, X.more (Below.refl _ _).drew, fun _ => C.more (Below.refl _ _).drew, grown_more GW (Below.refl _ _).drew, own_keep O (Below.refl _ _).drew, fun h => h.elim, fun h => h.elim, fun h => h.elim, fun h => h.elim, fun h => h.elim, fun h => h.elim, fun h => h.elim, fun h => h.elim, fun h => h.elim, fun h => h.elim, fun h => h.elim, fun h => h.elim, fun h => h.elim, fun h => h.elim, fun h => h.elim, fun h => h.elim, fun h => h.elim, fun h => h.elim, fun h => h.elim, fun h => h.elim, fun h => h.elim, fun h => h.elim, fun h => h.elim, fun h => h.elim, fun h => h.elim, fun h => h.elim, fun h => h.elim, fun h => h.elim⟩) ?_ ?_
  · apply RelH.op2
    · intro L f u K hN hS hK
      simp only [puts, Act.put, List.setIfInBounds_toArray, List.set_cons_zero, List.set_cons_succ, upd, Nat.reduceEqDiff, ↓reduceIte, if_true, if_false] at hK ⊢
      have HS9 := Lib.hid hS
      obtain ⟨qR, qX, qC, qGW, qO, qC1, qC2, c0, c1, c2, c3, c4, c5, c6, c7, c8, c9, c10, c11, c12, c13, c14, c15, c16, c17, c18, c19, c20, c21, c22, c23, c24, c25⟩ := hS
      clear qR qC qC1 qC2 c0 c1 c2 c3 c4 c5 c6 c7 c8 c9 c10 c11 c12 c13 c14 c15 c16 c17 c18 c19 c20 c21 c22 c23 c24 c25
      go_simp
      obtain ⟨qR, qX, qC, qGW, qO, qC1, qC2, c0, c1, c2, c3, c4, c5, c6, c7, c8, c9, c10, c11, c12, c13, c14, c15, c16, c17, c18, c19, c20, c21, c22, c23, c24, c25⟩ := HS9.out
      exact hK.out _ _ ⟨fun z9 => qR (fun z => z9 (.inl z)), qX, fun z9 => qC (fun z => z9 (.inl z)), qGW, qO, fun z8 z9 => qC1 (z8.resolve_right (by decide)) (fun z => z9 (.inl z)), fun z8 z9 => qC2 (z8.resolve_right (by decide)) (fun z => z9 (.inl z)), fun _ => rfl, fun h => c1 (h.resolve_right (by decide)), fun h => c2 (h.resolve_right (by decide)), fun h => c3 (h.resolve_right (by decide)), fun h => c4 (h.resolve_right (by decide)), fun h => c5 (h.resolve_right (by decide)), fun h => c6 (h.resolve_right (by decide)), fun h => c7 (h.resolve_right (by decide)), fun h => c8 (h.resolve_right (by decide)), fun h => c9 (h.resolve_right (by decide)), fun h => c10 (h.resolve_right (by decide)), fun h => c11 (h.resolve_right (by decide)), fun h => c12 (h.resolve_right (by decide)), fun h => c13 (h.resolve_right (by decide)), fun h => c14 (h.resolve_right (by decide)), fun h => c15 (h.resolve_right (by decide)), fun h => c16 (h.resolve_right (by decide)), fun h => c17 (h.resolve_right (by decide)), fun h => c18 (h.resolve_right (by decide)), fun h t0 => c19 (h.resolve_right (by decide)) (fun z => t0 (.inl z)), fun h => c20 (h.resolve_right (by decide)), fun h => c21 (h.resolve_right (by decide)), fun h => c22 (h.resolve_right (by decide)), fun h => c23 (h.resolve_right (by decide)), fun h => c24 (h.resolve_right (by decide)), fun h => c25 (h.resolve_right (by decide))⟩ _ rfl
    apply RelH.op2
    · intro L f u K hN hS hK
      simp only [puts, Act.put, List.setIfInBounds_toArray, List.set_cons_zero, List.set_cons_succ, upd, Nat.reduceEqDiff, ↓reduceIte, if_true, if_false] at hK ⊢
      have HS9 := Lib.hid hS
      obtain ⟨qR, qX, qC, qGW, qO, qC1, qC2, c0, c1, c2, c3, c4, c5, c6, c7, c8, c9, c10, c11, c12, c13, c14, c15, c16, c17, c18, c19, c20, c21, c22, c23, c24, c25⟩ := hS
      have X_0 := qX.cells 0 _ rfl
      have X_1 := qX.cells 1 _ rfl
      clear qR qC qC1 qC2 c0 c1 c2 c3 c4 c5 c6 c7 c8 c9 c10 c11 c12 c13 c14 c15 c16 c17 c18 c19 c20 c21 c22 c23 c24 c25
      go_simp
      obtain ⟨qR, qX, qC, qGW, qO, qC1, qC2, c0, c1, c2, c3, c4, c5, c6, c7, c8, c9, c10, c11, c12, c13, c14, c15, c16, c17, c18, c19, c20, c21, c22, c23, c24, c25⟩ := HS9.out
      exact hK.out _ _ ⟨fun z9 => qR (fun z => z9 (.inl z)), qX, fun z9 => qC (fun z => z9 (.inl z)), qGW, qO, fun z8 z9 => qC1 (z8.resolve_right (by decide)) (fun z => z9 (.inl z)), fun z8 z9 => qC2 (z8.resolve_right (by decide)) (fun z => z9 (.inl z)), fun h => c0 (h.resolve_right (by decide)), fun _ => rfl, fun h => c2 (h.resolve_right (by decide)), fun h => c3 (h.resolve_right (by decide)), fun h => c4 (h.resolve_right (by decide)), fun h => c5 (h.resolve_right (by decide)), fun h => c6 (h.resolve_right (by decide)), fun h => c7 (h.resolve_right (by decide)), fun h => c8 (h.resolve_right (by decide)), fun h => c9 (h.resolve_right (by decide)), fun h => c10 (h.resolve_right (by decide)), fun h => c11 (h.resolve_right (by decide)), fun h => c12 (h.resolve_right (by decide)), fun h => c13 (h.resolve_right (by decide)), fun h => c14 (h.resolve_right (by decide)), fun h => c15 (h.resolve_right (by decide)), fun h => c16 (h.resolve_right (by decide)), fun h => c17 (h.resolve_right (by decide)), fun h => c18 (h.resolve_right (by decide)), fun h t0 => c19 (h.resolve_right (by decide)) (fun z => t0 (.inl z)), fun h => c20 (h.resolve_right (by decide)), fun h => c21 (h.resolve_right (by decide)), fun h => c22 (h.resolve_right (by decide)), fun h => c23 (h.resolve_right (by decide)), fun h => c24 (h.resolve_right (by decide)), fun h => c25 (h.resolve_right (by decide))⟩ _ rfl
    apply RelH.op2
    · intro L f u K hN hS hK
      simp only [puts, Act.put, List.setIfInBounds_toArray, List.set_cons_zero, List.set_cons_succ, upd, Nat.reduceEqDiff, ↓reduceIte, if_true, if_false] at hK ⊢
      have HS9 := Lib.hid hS
      obtain ⟨qR, qX, qC, qGW, qO, qC1, qC2, c0, c1, c2, c3, c4, c5, c6, c7, c8, c9, c10, c11, c12, c13, c14, c15, c16, c17, c18, c19, c20, c21, c22, c23, c24, c25⟩ := hS
      clear qR qC qC1 qC2 c0 c1 c2 c3 c4 c5 c6 c7 c8 c9 c10 c11 c12 c13 c14 c15 c16 c17 c18 c19 c20 c21 c22 c23 c24 c25
      go_simp
      obtain ⟨qR, qX, qC, qGW, qO, qC1, qC2, c0, c1, c2, c3, c4, c5, c6, c7, c8, c9, c10, c11, c12, c13, c14, c15, c16, c17, c18, c19, c20, c21, c22, c23, c24, c25⟩ := HS9.out
      exact hK.out _ _ ⟨fun z9 => qR (fun z => z9 (.inl z)), qX, fun z9 => qC (fun z => z9 (.inl z)), qGW, qO, fun z8 z9 => qC1 (z8.resolve_right (by decide)) (fun z => z9 (.inl z)), fun z8 z9 => qC2 (z8.resolve_right (by decide)) (fun z => z9 (.inl z)), fun h => c0 (h.resolve_right (by decide)), fun h => c1 (h.resolve_right (by decide)), fun _ => rfl, fun h => c3 (h.resolve_right (by decide)), fun h => c4 (h.resolve_right (by decide)), fun h => c5 (h.resolve_right (by decide)), fun h => c6 (h.resolve_right (by decide)), fun h => c7 (h.resolve_right (by decide)), fun h => c8 (h.resolve_right (by decide)), fun h => c9 (h.resolve_right (by decide)), fun h => c10 (h.resolve_right (by decide)), fun h => c11 (h.resolve_right (by decide)), fun h => c12 (h.resolve_right (by decide)), fun h => c13 (h.resolve_right (by decide)), fun h => c14 (h.resolve_right (by decide)), fun h => c15 (h.resolve_right (by decide)), fun h => c16 (h.resolve_right (by decide)), fun h => c17 (h.resolve_right (by decide)), fun h => c18 (h.resolve_right (by decide)), fun h t0 => c19 (h.resolve_right (by decide)) (fun z => t0 (.inl z)), fun h => c20 (h.resolve_right (by decide)), fun h => c21 (h.resolve_right (by decide)), fun h => c22 (h.resolve_right (by decide)), fun h => c23 (h.resolve_right (by decide)), fun h => c24 (h.resolve_right (by decide)), fun h => c25 (h.resolve_right (by decide))⟩ _ rfl
    apply RelH.op2
    · intro L f u K hN hS hK
      simp only [puts, Act.put, List.setIfInBounds_toArray, List.set_cons_zero, List.set_cons_succ, upd, Nat.reduceEqDiff, ↓reduceIte, if_true, if_false] at hK ⊢
      have HS9 := Lib.hid hS
      obtain ⟨qR, qX, qC, qGW, qO, qC1, qC2, c0, c1, c2, c3, c4, c5, c6, c7, c8, c9, c10, c11, c12, c13, c14, c15, c16, c17, c18, c19, c20, c21, c22, c23, c24, c25⟩ := hS
      have e2 := c2 (hN.out.2 2 (by decide +kernel))
      have HCON := Lib.hid (DSun.area_d B zs p K0 u (qC (hN.out.1 3 (by decide +kernel))) (by omega))
      clear qR qC qC1 qC2 c0 c1 c2 c3 c4 c5 c6 c7 c8 c9 c10 c11 c12 c13 c14 c15 c16 c17 c18 c19 c20 c21 c22 c23 c24 c25
      go_simp
      go_at_call 73
      refine HCON.out.mono ?_
      rintro e uw1 ⟨m, hm, rfl, C9, G⟩
      go_wp2_with fail
      obtain ⟨qR, qX, qC, qGW, qO, qC1, qC2, c0, c1, c2, c3, c4, c5, c6, c7, c8, c9, c10, c11, c12, c13, c14, c15, c16, c17, c18, c19, c20, c21, c22, c23, c24, c25⟩ := HS9.out
      exact hK.out _ _ ⟨fun z9 => (qR (fun z => z9 (.inl z))).went G (by omega), qX.went G (by omega), fun z9 => (z9 (by simp)).elim, grown_trans qGW G, own_grownN qO G (fun k hk => by injection hk with hk; omega), fun _ _ => C9, fun z8 _ => absurd (z8.resolve_right (by decide)) (hN.out.1 6 (by decide +kernel)), fun h => c0 (h.resolve_right (by decide)), fun h => c1 (h.resolve_right (by decide)), fun h => c2 (h.resolve_right (by decide)), fun _ => ⟨m, rfl⟩, fun h => c4 (h.resolve_right (by decide)), fun h => c5 (h.resolve_right (by decide)), fun h => c6 (h.resolve_right (by decide)), fun h => c7 (h.resolve_right (by decide)), fun h => c8 (h.resolve_right (by decide)), fun h => c9 (h.resolve_right (by decide)), fun h => c10 (h.resolve_right (by decide)), fun h => c11 (h.resolve_right (by decide)), fun h => c12 (h.resolve_right (by decide)), fun h => c13 (h.resolve_right (by decide)), fun h => c14 (h.resolve_right (by decide)), fun h => c15 (h.resolve_right (by decide)), fun h => c16 (h.resolve_right (by decide)), fun h => c17 (h.resolve_right (by decide)), fun h => c18 (h.resolve_right (by decide)), fun h t0 => (let ⟨gl, h1, h2, T⟩ := (c19 (h.resolve_right (by decide)) (fun z => t0 (.inl z))); ⟨gl, h1, h2, T.went G h2⟩), fun h => c20 (h.resolve_right (by decide)), fun h => c21 (h.resolve_right (by decide)), fun h => ((c22 (h.resolve_right (by decide)))).went G (by omega), fun h => c23 (h.resolve_right (by decide)), fun h => c24 (h.resolve_right (by decide)), fun h => c25 (h.resolve_right (by decide))⟩ _ (by simp only [e2])
    apply RelH.op2
    · intro L f u K hN hS hK
      simp only [puts, Act.put, List.setIfInBounds_toArray, List.set_cons_zero, List.set_cons_succ, upd, Nat.reduceEqDiff, ↓reduceIte, if_true, if_false] at hK ⊢
      have HS9 := Lib.hid hS
      obtain ⟨qR, qX, qC, qGW, qO, qC1, qC2, c0, c1, c2, c3, c4, c5, c6, c7, c8, c9, c10, c11, c12, c13, c14, c15, c16, c17, c18, c19, c20, c21, c22, c23, c24, c25⟩ := hS
      clear qR qC qC1 qC2 c0 c1 c2 c3 c4 c5 c6 c7 c8 c9 c10 c11 c12 c13 c14 c15 c16 c17 c18 c19 c20 c21 c22 c23 c24 c25
      go_simp
      obtain ⟨qR, qX, qC, qGW, qO, qC1, qC2, c0, c1, c2, c3, c4, c5, c6, c7, c8, c9, c10, c11, c12, c13, c14, c15, c16, c17, c18, c19, c20, c21, c22, c23, c24, c25⟩ := HS9.out
      exact hK.out _ _ ⟨fun z9 => qR (fun z => z9 (.inl z)), qX, fun z9 => qC (fun z => z9 (.inl z)), qGW, qO, fun z8 z9 => qC1 (z8.resolve_right (by decide)) (fun z => z9 (.inl z)), fun z8 z9 => qC2 (z8.resolve_right (by decide)) (fun z => z9 (.inl z)), fun h => c0 (h.resolve_right (by decide)), fun h => c1 (h.resolve_right (by decide)), fun h => c2 (h.resolve_right (by decide)), fun h => c3 (h.resolve_right (by decide)), fun _ => rfl, fun h => c5 (h.resolve_right (by decide)), fun h => c6 (h.resolve_right (by decide)), fun h => c7 (h.resolve_right (by decide)), fun h => c8 (h.resolve_right (by decide)), fun h => c9 (h.resolve_right (by decide)), fun h => c10 (h.resolve_right (by decide)), fun h => c11 (h.resolve_right (by decide)), fun h => c12 (h.resolve_right (by decide)), fun h => c13 (h.resolve_right (by decide)), fun h => c14 (h.resolve_right (by decide)), fun h => c15 (h.resolve_right (by decide)), fun h => c16 (h.resolve_right (by decide)), fun h => c17 (h.resolve_right (by decide)), fun h => c18 (h.resolve_right (by decide)), fun h t0 => c19 (h.resolve_right (by decide)) (fun z => t0 (.inl z)), fun h => c20 (h.resolve_right (by decide)), fun h => c21 (h.resolve_right (by decide)), fun h => c22 (h.resolve_right (by decide)), fun h => c23 (h.resolve_right (by decide)), fun h => c24 (h.resolve_right (by decide)), fun h => c25 (h.resolve_right (by decide))⟩ _ rfl
    apply RelH.op2
    · intro L f u K hN hS hK
      simp only [puts, Act.put, List.setIfInBounds_toArray, List.set_cons_zero, List.set_cons_succ, upd, Nat.reduceEqDiff, ↓reduceIte, if_true, if_false] at hK ⊢
      have HS9 := Lib.hid hS
      obtain ⟨qR, qX, qC, qGW, qO, qC1, qC2, c0, c1, c2, c3, c4, c5, c6, c7, c8, c9, c10, c11, c12, c13, c14, c15, c16, c17, c18, c19, c20, c21, c22, c23, c24, c25⟩ := hS
      clear qR qC qC1 qC2 c0 c1 c2 c3 c4 c5 c6 c7 c8 c9 c10 c11 c12 c13 c14 c15 c16 c17 c18 c19 c20 c21 c22 c23 c24 c25
      go_simp
      obtain ⟨qR, qX, qC, qGW, qO, qC1, qC2, c0, c1, c2, c3, c4, c5, c6, c7, c8, c9, c10, c11, c12, c13, c14, c15, c16, c17, c18, c19, c20, c21, c22, c23, c24, c25⟩ := HS9.out
      exact hK.out _ _ ⟨fun z9 => qR (fun z => z9 (.inl z)), qX, fun z9 => qC (fun z => z9 (.inl z)), qGW, qO, fun z8 z9 => qC1 (z8.resolve_right (by decide)) (fun z => z9 (.inl z)), fun z8 z9 => qC2 (z8.resolve_right (by decide)) (fun z => z9 (.inl z)), fun h => c0 (h.resolve_right (by decide)), fun h => c1 (h.resolve_right (by decide)), fun h => c2 (h.resolve_right (by decide)), fun h => c3 (h.resolve_right (by decide)), fun h => c4 (h.resolve_right (by decide)), fun _ => rfl, fun h => c6 (h.resolve_right (by decide)), fun h => c7 (h.resolve_right (by decide)), fun h => c8 (h.resolve_right (by decide)), fun h => c9 (h.resolve_right (by decide)), fun h => c10 (h.resolve_right (by decide)), fun h => c11 (h.resolve_right (by decide)), fun h => c12 (h.resolve_right (by decide)), fun h => c13 (h.resolve_right (by decide)), fun h => c14 (h.resolve_right (by decide)), fun h => c15 (h.resolve_right (by decide)), fun h => c16 (h.resolve_right (by decide)), fun h => c17 (h.resolve_right (by decide)), fun h => c18 (h.resolve_right (by decide)), fun h t0 => c19 (h.resolve_right (by decide)) (fun z => t0 (.inl z)), fun h => c20 (h.resolve_right (by decide)), fun h => c21 (h.resolve_right (by decide)), fun h => c22 (h.resolve_right (by decide)), fun h => c23 (h.resolve_right (by decide)), fun h => c24 (h.resolve_right (by decide)), fun h => c25 (h.resolve_right (by decide))⟩ _ rfl
    apply RelH.op2
    · intro L f u K hN hS hK
      simp only [puts, Act.put, List.setIfInBounds_toArray, List.set_cons_zero, List.set_cons_succ, upd, Nat.reduceEqDiff, ↓reduceIte, if_true, if_false] at hK ⊢
      have HS9 := Lib.hid hS
      obtain ⟨qR, qX, qC, qGW, qO, qC1, qC2, c0, c1, c2, c3, c4, c5, c6, c7, c8, c9, c10, c11, c12, c13, c14, c15, c16, c17, c18, c19, c20, c21, c22, c23, c24, c25⟩ := hS
      have e4 := c4 (hN.out.2 4 (by decide +kernel))
      have e5 := c5 (hN.out.2 5 (by decide +kernel))
      have HCON := Lib.hid (DShw.rainDay_d B zs p (K0 + 2) u (qC1 (hN.out.2 3 (by decide +kernel)) (hN.out.1 6 (by decide +kernel))) (by omega) M _ g c qO (by omega) hl)
      clear qR qC qC1 qC2 c0 c1 c2 c3 c4 c5 c6 c7 c8 c9 c10 c11 c12 c13 c14 c15 c16 c17 c18 c19 c20 c21 c22 c23 c24 c25
      go_simp
      go_at_call 75
      refine HCON.out.mono ?_
      rintro e uw1 ⟨m, rfl, C9, G⟩
      go_wp2_with fail
      obtain ⟨qR, qX, qC, qGW, qO, qC1, qC2, c0, c1, c2, c3, c4, c5, c6, c7, c8, c9, c10, c11, c12, c13, c14, c15, c16, c17, c18, c19, c20, c21, c22, c23, c24, c25⟩ := HS9.out
      exact hK.out _ _ ⟨fun z9 => (qR (fun z => z9 (.inl z))).went G (by omega), qX.went G (by omega), fun z9 => (z9 (.inl (hN.out.2 3 (by decide +kernel)))).elim, grown_trans qGW G, own_grownN qO G (fun k hk => by injection hk with hk; omega), fun _ z9 => (z9 (by simp)).elim, fun _ _ => C9, fun h => c0 (h.resolve_right (by decide)), fun h => c1 (h.resolve_right (by decide)), fun h => c2 (h.resolve_right (by decide)), fun h => c3 (h.resolve_right (by decide)), fun h => c4 (h.resolve_right (by decide)), fun h => c5 (h.resolve_right (by decide)), fun _ => ⟨m, rfl⟩, fun h => c7 (h.resolve_right (by decide)), fun h => c8 (h.resolve_right (by decide)), fun h => c9 (h.resolve_right (by decide)), fun h => c10 (h.resolve_right (by decide)), fun h => c11 (h.resolve_right (by decide)), fun h => c12 (h.resolve_right (by decide)), fun h => c13 (h.resolve_right (by decide)), fun h => c14 (h.resolve_right (by decide)), fun h => c15 (h.resolve_right (by decide)), fun h => c16 (h.resolve_right (by decide)), fun h => c17 (h.resolve_right (by decide)), fun h => c18 (h.resolve_right (by decide)), fun h t0 => (let ⟨gl, h1, h2, T⟩ := (c19 (h.resolve_right (by decide)) (fun z => t0 (.inl z))); ⟨gl, h1, h2, T.went G h2⟩), fun h => c20 (h.resolve_right (by decide)), fun h => c21 (h.resolve_right (by decide)), fun h => ((c22 (h.resolve_right (by decide)))).went G (by omega), fun h => c23 (h.resolve_right (by decide)), fun h => c24 (h.resolve_right (by decide)), fun h => c25 (h.resolve_right (by decide))⟩ _ (by simp only [e4, e5])
    apply RelH.op2
    · intro L f u K hN hS hK
      simp only [puts, Act.put, List.setIfInBounds_toArray, List.set_cons_zero, List.set_cons_succ, upd, Nat.reduceEqDiff, ↓reduceIte, if_true, if_false] at hK ⊢
      have HS9 := Lib.hid hS
      obtain ⟨qR, qX, qC, qGW, qO, qC1, qC2, c0, c1, c2, c3, c4, c5, c6, c7, c8, c9, c10, c11, c12, c13, c14, c15, c16, c17, c18, c19, c20, c21, c22, c23, c24, c25⟩ := hS
      clear qR qC qC1 qC2 c0 c1 c2 c3 c4 c5 c6 c7 c8 c9 c10 c11 c12 c13 c14 c15 c16 c17 c18 c19 c20 c21 c22 c23 c24 c25
      go_simp
      obtain ⟨qR, qX, qC, qGW, qO, qC1, qC2, c0, c1, c2, c3, c4, c5, c6, c7, c8, c9, c10, c11, c12, c13, c14, c15, c16, c17, c18, c19, c20, c21, c22, c23, c24, c25⟩ := HS9.out
      exact hK.out _ _ ⟨fun z9 => qR (fun z => z9 (.inl z)), qX, fun z9 => qC (fun z => z9 (.inl z)), qGW, qO, fun z8 z9 => qC1 (z8.resolve_right (by decide)) (fun z => z9 (.inl z)), fun z8 z9 => qC2 (z8.resolve_right (by decide)) (fun z => z9 (.inl z)), fun h => c0 (h.resolve_right (by decide)), fun h => c1 (h.resolve_right (by decide)), fun h => c2 (h.resolve_right (by decide)), fun h => c3 (h.resolve_right (by decide)), fun h => c4 (h.resolve_right (by decide)), fun h => c5 (h.resolve_right (by decide)), fun h => c6 (h.resolve_right (by decide)), fun _ => rfl, fun h => c8 (h.resolve_right (by decide)), fun h => c9 (h.resolve_right (by decide)), fun h => c10 (h.resolve_right (by decide)), fun h => c11 (h.resolve_right (by decide)), fun h => c12 (h.resolve_right (by decide)), fun h => c13 (h.resolve_right (by decide)), fun h => c14 (h.resolve_right (by decide)), fun h => c15 (h.resolve_right (by decide)), fun h => c16 (h.resolve_right (by decide)), fun h => c17 (h.resolve_right (by decide)), fun h => c18 (h.resolve_right (by decide)), fun h t0 => c19 (h.resolve_right (by decide)) (fun z => t0 (.inl z)), fun h => c20 (h.resolve_right (by decide)), fun h => c21 (h.resolve_right (by decide)), fun h => c22 (h.resolve_right (by decide)), fun h => c23 (h.resolve_right (by decide)), fun h => c24 (h.resolve_right (by decide)), fun h => c25 (h.resolve_right (by decide))⟩ _ rfl
    apply RelH.op2
    · intro L f u K hN hS hK
      simp only [puts, Act.put, List.setIfInBounds_toArray, List.set_cons_zero, List.set_cons_succ, upd, Nat.reduceEqDiff, ↓reduceIte, if_true, if_false] at hK ⊢
      have HS9 := Lib.hid hS
      obtain ⟨qR, qX, qC, qGW, qO, qC1, qC2, c0, c1, c2, c3, c4, c5, c6, c7, c8, c9, c10, c11, c12, c13, c14, c15, c16, c17, c18, c19, c20, c21, c22, c23, c24, c25⟩ := hS
      clear qR qC qC1 qC2 c0 c1 c2 c3 c4 c5 c6 c7 c8 c9 c10 c11 c12 c13 c14 c15 c16 c17 c18 c19 c20 c21 c22 c23 c24 c25
      go_simp
      obtain ⟨qR, qX, qC, qGW, qO, qC1, qC2, c0, c1, c2, c3, c4, c5, c6, c7, c8, c9, c10, c11, c12, c13, c14, c15, c16, c17, c18, c19, c20, c21, c22, c23, c24, c25⟩ := HS9.out
      exact hK.out _ _ ⟨fun z9 => qR (fun z => z9 (.inl z)), qX, fun z9 => qC (fun z => z9 (.inl z)), qGW, qO, fun z8 z9 => qC1 (z8.resolve_right (by decide)) (fun z => z9 (.inl z)), fun z8 z9 => qC2 (z8.resolve_right (by decide)) (fun z => z9 (.inl z)), fun h => c0 (h.resolve_right (by decide)), fun h => c1 (h.resolve_right (by decide)), fun h => c2 (h.resolve_right (by decide)), fun h => c3 (h.resolve_right (by decide)), fun h => c4 (h.resolve_right (by decide)), fun h => c5 (h.resolve_right (by decide)), fun h => c6 (h.resolve_right (by decide)), fun h => c7 (h.resolve_right (by decide)), fun _ => rfl, fun h => c9 (h.resolve_right (by decide)), fun h => c10 (h.resolve_right (by decide)), fun h => c11 (h.resolve_right (by decide)), fun h => c12 (h.resolve_right (by decide)), fun h => c13 (h.resolve_right (by decide)), fun h => c14 (h.resolve_right (by decide)), fun h => c15 (h.resolve_right (by decide)), fun h => c16 (h.resolve_right (by decide)), fun h => c17 (h.resolve_right (by decide)), fun h => c18 (h.resolve_right (by decide)), fun h t0 => c19 (h.resolve_right (by decide)) (fun z => t0 (.inl z)), fun h => c20 (h.resolve_right (by decide)), fun h => c21 (h.resolve_right (by decide)), fun h => c22 (h.resolve_right (by decide)), fun h => c23 (h.resolve_right (by decide)), fun h => c24 (h.resolve_right (by decide)), fun h => c25 (h.resolve_right (by decide))⟩ _ rfl
    apply RelH.op2
    · intro L f u K hN hS hK
      simp only [puts, Act.put, List.setIfInBounds_toArray, List.set_cons_zero, List.set_cons_succ, upd, Nat.reduceEqDiff, ↓reduceIte, if_true, if_false] at hK ⊢
      have HS9 := Lib.hid hS
      obtain ⟨qR, qX, qC, qGW, qO, qC1, qC2, c0, c1, c2, c3, c4, c5, c6, c7, c8, c9, c10, c11, c12, c13, c14, c15, c16, c17, c18, c19, c20, c21, c22, c23, c24, c25⟩ := hS
      have e8 := c8 (hN.out.2 8 (by decide +kernel))
      have X_0 := qX.cells 0 _ rfl
      have X_1 := qX.cells 1 _ rfl
      clear qR qC qC1 qC2 c0 c1 c2 c3 c4 c5 c6 c7 c8 c9 c10 c11 c12 c13 c14 c15 c16 c17 c18 c19 c20 c21 c22 c23 c24 c25
      go_simp
      obtain ⟨qR, qX, qC, qGW, qO, qC1, qC2, c0, c1, c2, c3, c4, c5, c6, c7, c8, c9, c10, c11, c12, c13, c14, c15, c16, c17, c18, c19, c20, c21, c22, c23, c24, c25⟩ := HS9.out
      exact hK.out _ _ ⟨fun z9 => qR (fun z => z9 (.inl z)), qX, fun z9 => qC (fun z => z9 (.inl z)), qGW, qO, fun z8 z9 => qC1 (z8.resolve_right (by decide)) (fun z => z9 (.inl z)), fun z8 z9 => qC2 (z8.resolve_right (by decide)) (fun z => z9 (.inl z)), fun h => c0 (h.resolve_right (by decide)), fun h => c1 (h.resolve_right (by decide)), fun h => c2 (h.resolve_right (by decide)), fun h => c3 (h.resolve_right (by decide)), fun h => c4 (h.resolve_right (by decide)), fun h => c5 (h.resolve_right (by decide)), fun h => c6 (h.resolve_right (by decide)), fun h => c7 (h.resolve_right (by decide)), fun h => c8 (h.resolve_right (by decide)), fun _ => rfl, fun h => c10 (h.resolve_right (by decide)), fun h => c11 (h.resolve_right (by decide)), fun h => c12 (h.resolve_right (by decide)), fun h => c13 (h.resolve_right (by decide)), fun h => c14 (h.resolve_right (by decide)), fun h => c15 (h.resolve_right (by decide)), fun h => c16 (h.resolve_right (by decide)), fun h => c17 (h.resolve_right (by decide)), fun h => c18 (h.resolve_right (by decide)), fun h t0 => c19 (h.resolve_right (by decide)) (fun z => t0 (.inl z)), fun h => c20 (h.resolve_right (by decide)), fun h => c21 (h.resolve_right (by decide)), fun h => c22 (h.resolve_right (by decide)), fun h => c23 (h.resolve_right (by decide)), fun h => c24 (h.resolve_right (by decide)), fun h => c25 (h.resolve_right (by decide))⟩ _ (by simp only [e8])
    apply RelH.op2
    · intro L f u K hN hS hK
      simp only [puts, Act.put, List.setIfInBounds_toArray, List.set_cons_zero, List.set_cons_succ, upd, Nat.reduceEqDiff, ↓reduceIte, if_true, if_false] at hK ⊢
      have HS9 := Lib.hid hS
      obtain ⟨qR, qX, qC, qGW, qO, qC1, qC2, c0, c1, c2, c3, c4, c5, c6, c7, c8, c9, c10, c11, c12, c13, c14, c15, c16, c17, c18, c19, c20, c21, c22, c23, c24, c25⟩ := hS
      clear qR qC qC1 qC2 c0 c1 c2 c3 c4 c5 c6 c7 c8 c9 c10 c11 c12 c13 c14 c15 c16 c17 c18 c19 c20 c21 c22 c23 c24 c25
      go_simp
      obtain ⟨qR, qX, qC, qGW, qO, qC1, qC2, c0, c1, c2, c3, c4, c5, c6, c7, c8, c9, c10, c11, c12, c13, c14, c15, c16, c17, c18, c19, c20, c21, c22, c23, c24, c25⟩ := HS9.out
      exact hK.out _ _ ⟨fun z9 => qR (fun z => z9 (.inl z)), qX, fun z9 => qC (fun z => z9 (.inl z)), qGW, qO, fun z8 z9 => qC1 (z8.resolve_right (by decide)) (fun z => z9 (.inl z)), fun z8 z9 => qC2 (z8.resolve_right (by decide)) (fun z => z9 (.inl z)), fun h => c0 (h.resolve_right (by decide)), fun h => c1 (h.resolve_right (by decide)), fun h => c2 (h.resolve_right (by decide)), fun h => c3 (h.resolve_right (by decide)), fun h => c4 (h.resolve_right (by decide)), fun h => c5 (h.resolve_right (by decide)), fun h => c6 (h.resolve_right (by decide)), fun h => c7 (h.resolve_right (by decide)), fun h => c8 (h.resolve_right (by decide)), fun h => c9 (h.resolve_right (by decide)), fun _ => rfl, fun h => c11 (h.resolve_right (by decide)), fun h => c12 (h.resolve_right (by decide)), fun h => c13 (h.resolve_right (by decide)), fun h => c14 (h.resolve_right (by decide)), fun h => c15 (h.resolve_right (by decide)), fun h => c16 (h.resolve_right (by decide)), fun h => c17 (h.resolve_right (by decide)), fun h => c18 (h.resolve_right (by decide)), fun h t0 => c19 (h.resolve_right (by decide)) (fun z => t0 (.inl z)), fun h => c20 (h.resolve_right (by decide)), fun h => c21 (h.resolve_right (by decide)), fun h => c22 (h.resolve_right (by decide)), fun h => c23 (h.resolve_right (by decide)), fun h => c24 (h.resolve_right (by decide)), fun h => c25 (h.resolve_right (by decide))⟩ _ rfl
    apply RelH.op2
    · intro L f u K hN hS hK
      simp only [puts, Act.put, List.setIfInBounds_toArray, List.set_cons_zero, List.set_cons_succ, upd, Nat.reduceEqDiff, ↓reduceIte, if_true, if_false] at hK ⊢
      have HS9 := Lib.hid hS
      obtain ⟨qR, qX, qC, qGW, qO, qC1, qC2, c0, c1, c2, c3, c4, c5, c6, c7, c8, c9, c10, c11, c12, c13, c14, c15, c16, c17, c18, c19, c20, c21, c22, c23, c24, c25⟩ := hS
      have e10 := c10 (hN.out.2 10 (by decide +kernel))
      have X_0 := qX.cells 0 _ rfl
      have X_1 := qX.cells 1 _ rfl
      clear qR qC qC1 qC2 c0 c1 c2 c3 c4 c5 c6 c7 c8 c9 c10 c11 c12 c13 c14 c15 c16 c17 c18 c19 c20 c21 c22 c23 c24 c25
      go_simp
      obtain ⟨qR, qX, qC, qGW, qO, qC1, qC2, c0, c1, c2, c3, c4, c5, c6, c7, c8, c9, c10, c11, c12, c13, c14, c15, c16, c17, c18, c19, c20, c21, c22, c23, c24, c25⟩ := HS9.out
      exact hK.out _ _ ⟨fun z9 => qR (fun z => z9 (.inl z)), qX, fun z9 => qC (fun z => z9 (.inl z)), qGW, qO, fun z8 z9 => qC1 (z8.resolve_right (by decide)) (fun z => z9 (.inl z)), fun z8 z9 => qC2 (z8.resolve_right (by decide)) (fun z => z9 (.inl z)), fun h => c0 (h.resolve_right (by decide)), fun h => c1 (h.resolve_right (by decide)), fun h => c2 (h.resolve_right (by decide)), fun h => c3 (h.resolve_right (by decide)), fun h => c4 (h.resolve_right (by decide)), fun h => c5 (h.resolve_right (by decide)), fun h => c6 (h.resolve_right (by decide)), fun h => c7 (h.resolve_right (by decide)), fun h => c8 (h.resolve_right (by decide)), fun h => c9 (h.resolve_right (by decide)), fun h => c10 (h.resolve_right (by decide)), fun _ => rfl, fun h => c12 (h.resolve_right (by decide)), fun h => c13 (h.resolve_right (by decide)), fun h => c14 (h.resolve_right (by decide)), fun h => c15 (h.resolve_right (by decide)), fun h => c16 (h.resolve_right (by decide)), fun h => c17 (h.resolve_right (by decide)), fun h => c18 (h.resolve_right (by decide)), fun h t0 => c19 (h.resolve_right (by decide)) (fun z => t0 (.inl z)), fun h => c20 (h.resolve_right (by decide)), fun h => c21 (h.resolve_right (by decide)), fun h => c22 (h.resolve_right (by decide)), fun h => c23 (h.resolve_right (by decide)), fun h => c24 (h.resolve_right (by decide)), fun h => c25 (h.resolve_right (by decide))⟩ _ (by simp only [e10])
    apply RelH.op2
    · intro L f u K hN hS hK
      simp only [puts, Act.put, List.setIfInBounds_toArray, List.set_cons_zero, List.set_cons_succ, upd, Nat.reduceEqDiff, ↓reduceIte, if_true, if_false] at hK ⊢
      have HS9 := Lib.hid hS
      obtain ⟨qR, qX, qC, qGW, qO, qC1, qC2, c0, c1, c2, c3, c4, c5, c6, c7, c8, c9, c10, c11, c12, c13, c14, c15, c16, c17, c18, c19, c20, c21, c22, c23, c24, c25⟩ := hS
      have e11 := c11 (hN.out.2 11 (by decide +kernel))
      clear qR qC qC1 qC2 c0 c1 c2 c3 c4 c5 c6 c7 c8 c9 c10 c11 c12 c13 c14 c15 c16 c17 c18 c19 c20 c21 c22 c23 c24 c25
      go_simp
      obtain ⟨qR, qX, qC, qGW, qO, qC1, qC2, c0, c1, c2, c3, c4, c5, c6, c7, c8, c9, c10, c11, c12, c13, c14, c15, c16, c17, c18, c19, c20, c21, c22, c23, c24, c25⟩ := HS9.out
      exact hK.out _ _ ⟨fun z9 => qR (fun z => z9 (.inl z)), qX, fun z9 => qC (fun z => z9 (.inl z)), qGW, qO, fun z8 z9 => qC1 (z8.resolve_right (by decide)) (fun z => z9 (.inl z)), fun z8 z9 => qC2 (z8.resolve_right (by decide)) (fun z => z9 (.inl z)), fun h => c0 (h.resolve_right (by decide)), fun h => c1 (h.resolve_right (by decide)), fun h => c2 (h.resolve_right (by decide)), fun h => c3 (h.resolve_right (by decide)), fun h => c4 (h.resolve_right (by decide)), fun h => c5 (h.resolve_right (by decide)), fun h => c6 (h.resolve_right (by decide)), fun h => c7 (h.resolve_right (by decide)), fun h => c8 (h.resolve_right (by decide)), fun h => c9 (h.resolve_right (by decide)), fun h => c10 (h.resolve_right (by decide)), fun h => c11 (h.resolve_right (by decide)), fun _ => rfl, fun h => c13 (h.resolve_right (by decide)), fun h => c14 (h.resolve_right (by decide)), fun h => c15 (h.resolve_right (by decide)), fun h => c16 (h.resolve_right (by decide)), fun h => c17 (h.resolve_right (by decide)), fun h => c18 (h.resolve_right (by decide)), fun h t0 => c19 (h.resolve_right (by decide)) (fun z => t0 (.inl z)), fun h => c20 (h.resolve_right (by decide)), fun h => c21 (h.resolve_right (by decide)), fun h => c22 (h.resolve_right (by decide)), fun h => c23 (h.resolve_right (by decide)), fun h => c24 (h.resolve_right (by decide)), fun h => c25 (h.resolve_right (by decide))⟩ _ (by simp only [e11])
    apply RelH.op2
    · intro L f u K hN hS hK
      simp only [puts, Act.put, List.setIfInBounds_toArray, List.set_cons_zero, List.set_cons_succ, upd, Nat.reduceEqDiff, ↓reduceIte, if_true, if_false] at hK ⊢
      have HS9 := Lib.hid hS
      obtain ⟨qR, qX, qC, qGW, qO, qC1, qC2, c0, c1, c2, c3, c4, c5, c6, c7, c8, c9, c10, c11, c12, c13, c14, c15, c16, c17, c18, c19, c20, c21, c22, c23, c24, c25⟩ := hS
      clear qR qC qC1 qC2 c0 c1 c2 c3 c4 c5 c6 c7 c8 c9 c10 c11 c12 c13 c14 c15 c16 c17 c18 c19 c20 c21 c22 c23 c24 c25
      go_simp
      obtain ⟨qR, qX, qC, qGW, qO, qC1, qC2, c0, c1, c2, c3, c4, c5, c6, c7, c8, c9, c10, c11, c12, c13, c14, c15, c16, c17, c18, c19, c20, c21, c22, c23, c24, c25⟩ := HS9.out
      exact hK.out _ _ ⟨fun z9 => qR (fun z => z9 (.inl z)), qX, fun z9 => qC (fun z => z9 (.inl z)), qGW, qO, fun z8 z9 => qC1 (z8.resolve_right (by decide)) (fun z => z9 (.inl z)), fun z8 z9 => qC2 (z8.resolve_right (by decide)) (fun z => z9 (.inl z)), fun h => c0 (h.resolve_right (by decide)), fun h => c1 (h.resolve_right (by decide)), fun h => c2 (h.resolve_right (by decide)), fun h => c3 (h.resolve_right (by decide)), fun h => c4 (h.resolve_right (by decide)), fun h => c5 (h.resolve_right (by decide)), fun h => c6 (h.resolve_right (by decide)), fun h => c7 (h.resolve_right (by decide)), fun h => c8 (h.resolve_right (by decide)), fun h => c9 (h.resolve_right (by decide)), fun h => c10 (h.resolve_right (by decide)), fun h => c11 (h.resolve_right (by decide)), fun h => c12 (h.resolve_right (by decide)), fun _ => rfl, fun h => c14 (h.resolve_right (by decide)), fun h => c15 (h.resolve_right (by decide)), fun h => c16 (h.resolve_right (by decide)), fun h => c17 (h.resolve_right (by decide)), fun h => c18 (h.resolve_right (by decide)), fun h t0 => c19 (h.resolve_right (by decide)) (fun z => t0 (.inl z)), fun h => c20 (h.resolve_right (by decide)), fun h => c21 (h.resolve_right (by decide)), fun h => c22 (h.resolve_right (by decide)), fun h => c23 (h.resolve_right (by decide)), fun h => c24 (h.resolve_right (by decide)), fun h => c25 (h.resolve_right (by decide))⟩ _ rfl
    apply RelH.op2
    · intro L f u K hN hS hK
      simp only [puts, Act.put, List.setIfInBounds_toArray, List.set_cons_zero, List.set_cons_succ, upd, Nat.reduceEqDiff, ↓reduceIte, if_true, if_false] at hK ⊢
      have HS9 := Lib.hid hS
      obtain ⟨qR, qX, qC, qGW, qO, qC1, qC2, c0, c1, c2, c3, c4, c5, c6, c7, c8, c9, c10, c11, c12, c13, c14, c15, c16, c17, c18, c19, c20, c21, c22, c23, c24, c25⟩ := hS
      have e13 := c13 (hN.out.2 13 (by decide +kernel))
      have X_0 := qX.cells 0 _ rfl
      have X_1 := qX.cells 1 _ rfl
      clear qR qC qC1 qC2 c0 c1 c2 c3 c4 c5 c6 c7 c8 c9 c10 c11 c12 c13 c14 c15 c16 c17 c18 c19 c20 c21 c22 c23 c24 c25
      go_simp
      obtain ⟨qR, qX, qC, qGW, qO, qC1, qC2, c0, c1, c2, c3, c4, c5, c6, c7, c8, c9, c10, c11, c12, c13, c14, c15, c16, c17, c18, c19, c20, c21, c22, c23, c24, c25⟩ := HS9.out
      exact hK.out _ _ ⟨fun z9 => qR (fun z => z9 (.inl z)), qX, fun z9 => qC (fun z => z9 (.inl z)), qGW, qO, fun z8 z9 => qC1 (z8.resolve_right (by decide)) (fun z => z9 (.inl z)), fun z8 z9 => qC2 (z8.resolve_right (by decide)) (fun z => z9 (.inl z)), fun h => c0 (h.resolve_right (by decide)), fun h => c1 (h.resolve_right (by decide)), fun h => c2 (h.resolve_right (by decide)), fun h => c3 (h.resolve_right (by decide)), fun h => c4 (h.resolve_right (by decide)), fun h => c5 (h.resolve_right (by decide)), fun h => c6 (h.resolve_right (by decide)), fun h => c7 (h.resolve_right (by decide)), fun h => c8 (h.resolve_right (by decide)), fun h => c9 (h.resolve_right (by decide)), fun h => c10 (h.resolve_right (by decide)), fun h => c11 (h.resolve_right (by decide)), fun h => c12 (h.resolve_right (by decide)), fun h => c13 (h.resolve_right (by decide)), fun _ => rfl, fun h => c15 (h.resolve_right (by decide)), fun h => c16 (h.resolve_right (by decide)), fun h => c17 (h.resolve_right (by decide)), fun h => c18 (h.resolve_right (by decide)), fun h t0 => c19 (h.resolve_right (by decide)) (fun z => t0 (.inl z)), fun h => c20 (h.resolve_right (by decide)), fun h => c21 (h.resolve_right (by decide)), fun h => c22 (h.resolve_right (by decide)), fun h => c23 (h.resolve_right (by decide)), fun h => c24 (h.resolve_right (by decide)), fun h => c25 (h.resolve_right (by decide))⟩ _ (by simp only [e13])
    apply RelH.op2
    · intro L f u K hN hS hK
      simp only [puts, Act.put, List.setIfInBounds_toArray, List.set_cons_zero, List.set_cons_succ, upd, Nat.reduceEqDiff, ↓reduceIte, if_true, if_false] at hK ⊢
      have HS9 := Lib.hid hS
      obtain ⟨qR, qX, qC, qGW, qO, qC1, qC2, c0, c1, c2, c3, c4, c5, c6, c7, c8, c9, c10, c11, c12, c13, c14, c15, c16, c17, c18, c19, c20, c21, c22, c23, c24, c25⟩ := hS
      have e14 := c14 (hN.out.2 14 (by decide +kernel))
      clear qR qC qC1 qC2 c0 c1 c2 c3 c4 c5 c6 c7 c8 c9 c10 c11 c12 c13 c14 c15 c16 c17 c18 c19 c20 c21 c22 c23 c24 c25
      go_simp
      obtain ⟨qR, qX, qC, qGW, qO, qC1, qC2, c0, c1, c2, c3, c4, c5, c6, c7, c8, c9, c10, c11, c12, c13, c14, c15, c16, c17, c18, c19, c20, c21, c22, c23, c24, c25⟩ := HS9.out
      exact hK.out _ _ ⟨fun z9 => qR (fun z => z9 (.inl z)), qX, fun z9 => qC (fun z => z9 (.inl z)), qGW, qO, fun z8 z9 => qC1 (z8.resolve_right (by decide)) (fun z => z9 (.inl z)), fun z8 z9 => qC2 (z8.resolve_right (by decide)) (fun z => z9 (.inl z)), fun h => c0 (h.resolve_right (by decide)), fun h => c1 (h.resolve_right (by decide)), fun h => c2 (h.resolve_right (by decide)), fun h => c3 (h.resolve_right (by decide)), fun h => c4 (h.resolve_right (by decide)), fun h => c5 (h.resolve_right (by decide)), fun h => c6 (h.resolve_right (by decide)), fun h => c7 (h.resolve_right (by decide)), fun h => c8 (h.resolve_right (by decide)), fun h => c9 (h.resolve_right (by decide)), fun h => c10 (h.resolve_right (by decide)), fun h => c11 (h.resolve_right (by decide)), fun h => c12 (h.resolve_right (by decide)), fun h => c13 (h.resolve_right (by decide)), fun h => c14 (h.resolve_right (by decide)), fun _ => rfl, fun h => c16 (h.resolve_right (by decide)), fun h => c17 (h.resolve_right (by decide)), fun h => c18 (h.resolve_right (by decide)), fun h t0 => c19 (h.resolve_right (by decide)) (fun z => t0 (.inl z)), fun h => c20 (h.resolve_right (by decide)), fun h => c21 (h.resolve_right (by decide)), fun h => c22 (h.resolve_right (by decide)), fun h => c23 (h.resolve_right (by decide)), fun h => c24 (h.resolve_right (by decide)), fun h => c25 (h.resolve_right (by decide))⟩ _ (by simp only [e14])
    apply RelH.op2
    · intro L f u K hN hS hK
      simp only [puts, Act.put, List.setIfInBounds_toArray, List.set_cons_zero, List.set_cons_succ, upd, Nat.reduceEqDiff, ↓reduceIte, if_true, if_false] at hK ⊢
      have HS9 := Lib.hid hS
      obtain ⟨qR, qX, qC, qGW, qO, qC1, qC2, c0, c1, c2, c3, c4, c5, c6, c7, c8, c9, c10, c11, c12, c13, c14, c15, c16, c17, c18, c19, c20, c21, c22, c23, c24, c25⟩ := hS
      clear qR qC qC1 qC2 c0 c1 c2 c3 c4 c5 c6 c7 c8 c9 c10 c11 c12 c13 c14 c15 c16 c17 c18 c19 c20 c21 c22 c23 c24 c25
      go_simp
      obtain ⟨qR, qX, qC, qGW, qO, qC1, qC2, c0, c1, c2, c3, c4, c5, c6, c7, c8, c9, c10, c11, c12, c13, c14, c15, c16, c17, c18, c19, c20, c21, c22, c23, c24, c25⟩ := HS9.out
      exact hK.out _ _ ⟨fun z9 => qR (fun z => z9 (.inl z)), qX, fun z9 => qC (fun z => z9 (.inl z)), qGW, qO, fun z8 z9 => qC1 (z8.resolve_right (by decide)) (fun z => z9 (.inl z)), fun z8 z9 => qC2 (z8.resolve_right (by decide)) (fun z => z9 (.inl z)), fun h => c0 (h.resolve_right (by decide)), fun h => c1 (h.resolve_right (by decide)), fun h => c2 (h.resolve_right (by decide)), fun h => c3 (h.resolve_right (by decide)), fun h => c4 (h.resolve_right (by decide)), fun h => c5 (h.resolve_right (by decide)), fun h => c6 (h.resolve_right (by decide)), fun h => c7 (h.resolve_right (by decide)), fun h => c8 (h.resolve_right (by decide)), fun h => c9 (h.resolve_right (by decide)), fun h => c10 (h.resolve_right (by decide)), fun h => c11 (h.resolve_right (by decide)), fun h => c12 (h.resolve_right (by decide)), fun h => c13 (h.resolve_right (by decide)), fun h => c14 (h.resolve_right (by decide)), fun h => c15 (h.resolve_right (by decide)), fun _ => rfl, fun h => c17 (h.resolve_right (by decide)), fun h => c18 (h.resolve_right (by decide)), fun h t0 => c19 (h.resolve_right (by decide)) (fun z => t0 (.inl z)), fun h => c20 (h.resolve_right (by decide)), fun h => c21 (h.resolve_right (by decide)), fun h => c22 (h.resolve_right (by decide)), fun h => c23 (h.resolve_right (by decide)), fun h => c24 (h.resolve_right (by decide)), fun h => c25 (h.resolve_right (by decide))⟩ _ rfl
    apply RelH.op2
    · intro L f u K hN hS hK
      simp only [puts, Act.put, List.setIfInBounds_toArray, List.set_cons_zero, List.set_cons_succ, upd, Nat.reduceEqDiff, ↓reduceIte, if_true, if_false] at hK ⊢
      have HS9 := Lib.hid hS
      obtain ⟨qR, qX, qC, qGW, qO, qC1, qC2, c0, c1, c2, c3, c4, c5, c6, c7, c8, c9, c10, c11, c12, c13, c14, c15, c16, c17, c18, c19, c20, c21, c22, c23, c24, c25⟩ := hS
      have e16 := c16 (hN.out.2 16 (by decide +kernel))
      have X_0 := qX.cells 0 _ rfl
      have X_1 := qX.cells 1 _ rfl
      clear qR qC qC1 qC2 c0 c1 c2 c3 c4 c5 c6 c7 c8 c9 c10 c11 c12 c13 c14 c15 c16 c17 c18 c19 c20 c21 c22 c23 c24 c25
      go_simp
      obtain ⟨qR, qX, qC, qGW, qO, qC1, qC2, c0, c1, c2, c3, c4, c5, c6, c7, c8, c9, c10, c11, c12, c13, c14, c15, c16, c17, c18, c19, c20, c21, c22, c23, c24, c25⟩ := HS9.out
      exact hK.out _ _ ⟨fun z9 => qR (fun z => z9 (.inl z)), qX, fun z9 => qC (fun z => z9 (.inl z)), qGW, qO, fun z8 z9 => qC1 (z8.resolve_right (by decide)) (fun z => z9 (.inl z)), fun z8 z9 => qC2 (z8.resolve_right (by decide)) (fun z => z9 (.inl z)), fun h => c0 (h.resolve_right (by decide)), fun h => c1 (h.resolve_right (by decide)), fun h => c2 (h.resolve_right (by decide)), fun h => c3 (h.resolve_right (by decide)), fun h => c4 (h.resolve_right (by decide)), fun h => c5 (h.resolve_right (by decide)), fun h => c6 (h.resolve_right (by decide)), fun h => c7 (h.resolve_right (by decide)), fun h => c8 (h.resolve_right (by decide)), fun h => c9 (h.resolve_right (by decide)), fun h => c10 (h.resolve_right (by decide)), fun h => c11 (h.resolve_right (by decide)), fun h => c12 (h.resolve_right (by decide)), fun h => c13 (h.resolve_right (by decide)), fun h => c14 (h.resolve_right (by decide)), fun h => c15 (h.resolve_right (by decide)), fun h => c16 (h.resolve_right (by decide)), fun _ => rfl, fun h => c18 (h.resolve_right (by decide)), fun h t0 => c19 (h.resolve_right (by decide)) (fun z => t0 (.inl z)), fun h => c20 (h.resolve_right (by decide)), fun h => c21 (h.resolve_right (by decide)), fun h => c22 (h.resolve_right (by decide)), fun h => c23 (h.resolve_right (by decide)), fun h => c24 (h.resolve_right (by decide)), fun h => c25 (h.resolve_right (by decide))⟩ _ (by simp only [e16])
    apply RelH.op2
    · intro L f u K hN hS hK
      simp only [puts, Act.put, List.setIfInBounds_toArray, List.set_cons_zero, List.set_cons_succ, upd, Nat.reduceEqDiff, ↓reduceIte, if_true, if_false] at hK ⊢
      have HS9 := Lib.hid hS
      obtain ⟨qR, qX, qC, qGW, qO, qC1, qC2, c0, c1, c2, c3, c4, c5, c6, c7, c8, c9, c10, c11, c12, c13, c14, c15, c16, c17, c18, c19, c20, c21, c22, c23, c24, c25⟩ := hS
      have e17 := c17 (hN.out.2 17 (by decide +kernel))
      clear qR qC qC1 qC2 c0 c1 c2 c3 c4 c5 c6 c7 c8 c9 c10 c11 c12 c13 c14 c15 c16 c17 c18 c19 c20 c21 c22 c23 c24 c25
      go_simp
      obtain ⟨qR, qX, qC, qGW, qO, qC1, qC2, c0, c1, c2, c3, c4, c5, c6, c7, c8, c9, c10, c11, c12, c13, c14, c15, c16, c17, c18, c19, c20, c21, c22, c23, c24, c25⟩ := HS9.out
      exact hK.out _ _ ⟨fun z9 => qR (fun z => z9 (.inl z)), qX, fun z9 => qC (fun z => z9 (.inl z)), qGW, qO, fun z8 z9 => qC1 (z8.resolve_right (by decide)) (fun z => z9 (.inl z)), fun z8 z9 => qC2 (z8.resolve_right (by decide)) (fun z => z9 (.inl z)), fun h => c0 (h.resolve_right (by decide)), fun h => c1 (h.resolve_right (by decide)), fun h => c2 (h.resolve_right (by decide)), fun h => c3 (h.resolve_right (by decide)), fun h => c4 (h.resolve_right (by decide)), fun h => c5 (h.resolve_right (by decide)), fun h => c6 (h.resolve_right (by decide)), fun h => c7 (h.resolve_right (by decide)), fun h => c8 (h.resolve_right (by decide)), fun h => c9 (h.resolve_right (by decide)), fun h => c10 (h.resolve_right (by decide)), fun h => c11 (h.resolve_right (by decide)), fun h => c12 (h.resolve_right (by decide)), fun h => c13 (h.resolve_right (by decide)), fun h => c14 (h.resolve_right (by decide)), fun h => c15 (h.resolve_right (by decide)), fun h => c16 (h.resolve_right (by decide)), fun h => c17 (h.resolve_right (by decide)), fun _ => rfl, fun h t0 => c19 (h.resolve_right (by decide)) (fun z => t0 (.inl z)), fun h => c20 (h.resolve_right (by decide)), fun h => c21 (h.resolve_right (by decide)), fun h => c22 (h.resolve_right (by decide)), fun h => c23 (h.resolve_right (by decide)), fun h => c24 (h.resolve_right (by decide)), fun h => c25 (h.resolve_right (by decide))⟩ _ (by simp only [e17])
    apply RelH.op2
    · intro L f u K hN hS hK
      simp only [puts, Act.put, List.setIfInBounds_toArray, List.set_cons_zero, List.set_cons_succ, upd, Nat.reduceEqDiff, ↓reduceIte, if_true, if_false] at hK ⊢
      have HS9 := Lib.hid hS
      obtain ⟨qR, qX, qC, qGW, qO, qC1, qC2, c0, c1, c2, c3, c4, c5, c6, c7, c8, c9, c10, c11, c12, c13, c14, c15, c16, c17, c18, c19, c20, c21, c22, c23, c24, c25⟩ := hS
      have e9 := c9 (hN.out.2 9 (by decide +kernel))
      have e12 := c12 (hN.out.2 12 (by decide +kernel))
      have e15 := c15 (hN.out.2 15 (by decide +kernel))
      have e18 := c18 (hN.out.2 18 (by decide +kernel))
      have hT := lst_at u [Value.int .i64 x, Value.int .i64 (x + 5), Value.int .i64 (x + 100), Value.int .i64 1000000, Value.int .i64 (x - 1), Value.int .i64 0, Value.int .i64 (-1)] 3 (g := u.heap.size) rfl
      have hpu : p < u.heap.size := by have := qX.there; omega
      clear qR qC qC1 qC2 c0 c1 c2 c3 c4 c5 c6 c7 c8 c9 c10 c11 c12 c13 c14 c15 c16 c17 c18 c19 c20 c21 c22 c23 c24 c25
      go_simp
      obtain ⟨qR, qX, qC, qGW, qO, qC1, qC2, c0, c1, c2, c3, c4, c5, c6, c7, c8, c9, c10, c11, c12, c13, c14, c15, c16, c17, c18, c19, c20, c21, c22, c23, c24, c25⟩ := HS9.out
      exact hK.out _ _ ⟨fun z9 => (qR (fun z => z9 (.inl z))).alloc _, qX.alloc _, fun z9 => (qC (fun z => z9 (.inl z))).alloc _, grown_trans qGW (grown_alloc _ _ _), own_keep qO (al (Below.refl _ _)), fun z8 z9 => (qC1 (z8.resolve_right (by decide)) (fun z => z9 (.inl z))).alloc _, fun z8 z9 => (qC2 (z8.resolve_right (by decide)) (fun z => z9 (.inl z))).alloc _, fun h => c0 (h.resolve_right (by decide)), fun h => c1 (h.resolve_right (by decide)), fun h => c2 (h.resolve_right (by decide)), fun h => c3 (h.resolve_right (by decide)), fun h => c4 (h.resolve_right (by decide)), fun h => c5 (h.resolve_right (by decide)), fun h => c6 (h.resolve_right (by decide)), fun h => c7 (h.resolve_right (by decide)), fun h => c8 (h.resolve_right (by decide)), fun h => c9 (h.resolve_right (by decide)), fun h => c10 (h.resolve_right (by decide)), fun h => c11 (h.resolve_right (by decide)), fun h => c12 (h.resolve_right (by decide)), fun h => c13 (h.resolve_right (by decide)), fun h => c14 (h.resolve_right (by decide)), fun h => c15 (h.resolve_right (by decide)), fun h => c16 (h.resolve_right (by decide)), fun h => c17 (h.resolve_right (by decide)), fun h => c18 (h.resolve_right (by decide)), fun _ _ => ⟨_, rfl, by omega, hT⟩, fun h => c20 (h.resolve_right (by decide)), fun h => c21 (h.resolve_right (by decide)), fun h => ((c22 (h.resolve_right (by decide)))).alloc _, fun h => c23 (h.resolve_right (by decide)), fun h => c24 (h.resolve_right (by decide)), fun h => c25 (h.resolve_right (by decide))⟩ _ (by simp only [e9, e12, e15, e18])
    apply RelH.op2
    · intro L f u K hN hS hK
      simp only [puts, Act.put, List.setIfInBounds_toArray, List.set_cons_zero, List.set_cons_succ, upd, Nat.reduceEqDiff, ↓reduceIte, if_true, if_false] at hK ⊢
      have HS9 := Lib.hid hS
      obtain ⟨qR, qX, qC, qGW, qO, qC1, qC2, c0, c1, c2, c3, c4, c5, c6, c7, c8, c9, c10, c11, c12, c13, c14, c15, c16, c17, c18, c19, c20, c21, c22, c23, c24, c25⟩ := hS
      have e7 := c7 (hN.out.2 7 (by decide +kernel))
      obtain ⟨gl, e19, h19, T⟩ := c19 (hN.out.2 19 (by decide +kernel)) (hN.out.1 20 (by decide +kernel))
      have HCON := Lib.hid (among_d B zs p (K0 + 8) u gl 7 [x, x + 5, x + 100, 1000000, x - 1, 0, -1] (qC2 (hN.out.2 6 (by decide +kernel)) (hN.out.1 20 (by decide +kernel))) (by omega) T h19 (by simp) (by simp))
      clear qR qC qC1 qC2 c0 c1 c2 c3 c4 c5 c6 c7 c8 c9 c10 c11 c12 c13 c14 c15 c16 c17 c18 c19 c20 c21 c22 c23 c24 c25
      go_simp
      go_at_call 74
      refine HCON.out.mono ?_
      rintro e uw1 ⟨m, hm, rfl, C9, G⟩
      go_wp2_with fail
      obtain ⟨qR, qX, qC, qGW, qO, qC1, qC2, c0, c1, c2, c3, c4, c5, c6, c7, c8, c9, c10, c11, c12, c13, c14, c15, c16, c17, c18, c19, c20, c21, c22, c23, c24, c25⟩ := HS9.out
      exact hK.out _ _ ⟨fun z9 => (qR (fun z => z9 (.inl z))).went G (by omega), qX.went G (by omega), fun z9 => (z9 (.inl (hN.out.2 3 (by decide +kernel)))).elim, grown_trans qGW G, own_grownN qO G (fun k hk => by injection hk with hk; omega), fun _ z9 => (z9 (.inl (hN.out.2 6 (by decide +kernel)))).elim, fun _ z9 => (z9 (by simp)).elim, fun h => c0 (h.resolve_right (by decide)), fun h => c1 (h.resolve_right (by decide)), fun h => c2 (h.resolve_right (by decide)), fun h => c3 (h.resolve_right (by decide)), fun h => c4 (h.resolve_right (by decide)), fun h => c5 (h.resolve_right (by decide)), fun h => c6 (h.resolve_right (by decide)), fun h => c7 (h.resolve_right (by decide)), fun h => c8 (h.resolve_right (by decide)), fun h => c9 (h.resolve_right (by decide)), fun h => c10 (h.resolve_right (by decide)), fun h => c11 (h.resolve_right (by decide)), fun h => c12 (h.resolve_right (by decide)), fun h => c13 (h.resolve_right (by decide)), fun h => c14 (h.resolve_right (by decide)), fun h => c15 (h.resolve_right (by decide)), fun h => c16 (h.resolve_right (by decide)), fun h => c17 (h.resolve_right (by decide)), fun h => c18 (h.resolve_right (by decide)), fun h t0 => (t0 (by simp)).elim, fun _ => ⟨m, rfl⟩, fun h => c21 (h.resolve_right (by decide)), fun h => ((c22 (h.resolve_right (by decide)))).went G (by omega), fun h => c23 (h.resolve_right (by decide)), fun h => c24 (h.resolve_right (by decide)), fun h => c25 (h.resolve_right (by decide))⟩ _ (by simp only [e7, e19])
    apply RelH.op2
    · intro L f u K hN hS hK
      simp only [puts, Act.put, List.setIfInBounds_toArray, List.set_cons_zero, List.set_cons_succ, upd, Nat.reduceEqDiff, ↓reduceIte, if_true, if_false] at hK ⊢
      have HS9 := Lib.hid hS
      obtain ⟨qR, qX, qC, qGW, qO, qC1, qC2, c0, c1, c2, c3, c4, c5, c6, c7, c8, c9, c10, c11, c12, c13, c14, c15, c16, c17, c18, c19, c20, c21, c22, c23, c24, c25⟩ := hS
      have e0 := c0 (hN.out.2 0 (by decide +kernel))
      clear qR qC qC1 qC2 c0 c1 c2 c3 c4 c5 c6 c7 c8 c9 c10 c11 c12 c13 c14 c15 c16 c17 c18 c19 c20 c21 c22 c23 c24 c25
      go_simp
      obtain ⟨qR, qX, qC, qGW, qO, qC1, qC2, c0, c1, c2, c3, c4, c5, c6, c7, c8, c9, c10, c11, c12, c13, c14, c15, c16, c17, c18, c19, c20, c21, c22, c23, c24, c25⟩ := HS9.out
      exact hK.out _ _ ⟨fun z9 => qR (fun z => z9 (.inl z)), qX, fun z9 => qC (fun z => z9 (.inl z)), qGW, qO, fun z8 z9 => qC1 (z8.resolve_right (by decide)) (fun z => z9 (.inl z)), fun z8 z9 => qC2 (z8.resolve_right (by decide)) (fun z => z9 (.inl z)), fun h => c0 (h.resolve_right (by decide)), fun h => c1 (h.resolve_right (by decide)), fun h => c2 (h.resolve_right (by decide)), fun h => c3 (h.resolve_right (by decide)), fun h => c4 (h.resolve_right (by decide)), fun h => c5 (h.resolve_right (by decide)), fun h => c6 (h.resolve_right (by decide)), fun h => c7 (h.resolve_right (by decide)), fun h => c8 (h.resolve_right (by decide)), fun h => c9 (h.resolve_right (by decide)), fun h => c10 (h.resolve_right (by decide)), fun h => c11 (h.resolve_right (by decide)), fun h => c12 (h.resolve_right (by decide)), fun h => c13 (h.resolve_right (by decide)), fun h => c14 (h.resolve_right (by decide)), fun h => c15 (h.resolve_right (by decide)), fun h => c16 (h.resolve_right (by decide)), fun h => c17 (h.resolve_right (by decide)), fun h => c18 (h.resolve_right (by decide)), fun h t0 => c19 (h.resolve_right (by decide)) (fun z => t0 (.inl z)), fun h => c20 (h.resolve_right (by decide)), fun _ => rfl, fun h => c22 (h.resolve_right (by decide)), fun h => c23 (h.resolve_right (by decide)), fun h => c24 (h.resolve_right (by decide)), fun h => c25 (h.resolve_right (by decide))⟩ _ (by simp only [e0])
    apply RelH.op2
    · intro L f u K hN hS hK
      simp only [puts, Act.put, List.setIfInBounds_toArray, List.set_cons_zero, List.set_cons_succ, upd, Nat.reduceEqDiff, ↓reduceIte, if_true, if_false] at hK ⊢
      have HS9 := Lib.hid hS
      obtain ⟨qR, qX, qC, qGW, qO, qC1, qC2, c0, c1, c2, c3, c4, c5, c6, c7, c8, c9, c10, c11, c12, c13, c14, c15, c16, c17, c18, c19, c20, c21, c22, c23, c24, c25⟩ := hS
      have e1 := c1 (hN.out.2 1 (by decide +kernel))
      have qR1 := qR (hN.out.1 22 (by decide +kernel))
      have R_0 := qR1.cells 0 _ rfl
      have R_1 := qR1.cells 1 _ rfl
      have R_f0 := qR1.free 0 (by simp)
      have R_f1 := qR1.free 1 (by simp)
      clear qR qC qC1 qC2 c0 c1 c2 c3 c4 c5 c6 c7 c8 c9 c10 c11 c12 c13 c14 c15 c16 c17 c18 c19 c20 c21 c22 c23 c24 c25
      go_simp
      obtain ⟨qR, qX, qC, qGW, qO, qC1, qC2, c0, c1, c2, c3, c4, c5, c6, c7, c8, c9, c10, c11, c12, c13, c14, c15, c16, c17, c18, c19, c20, c21, c22, c23, c24, c25⟩ := HS9.out
      exact hK.out undef _ ⟨fun z9 => (z9 (by simp)).elim, (qX.far (k := w.heap.size) (by omega) 0 (.int .i64 x)).far (k := w.heap.size) (by omega) 1 (.int .i64 y), fun z9 => (z9 (.inl (hN.out.2 3 (by decide +kernel)))).elim, grown_set (grown_set qGW (Nat.le_refl _) 0 (.int .i64 x)) (Nat.le_refl _) 1 (.int .i64 y), own_far (own_far qO (k := w.heap.size) (by omega) 0 (.int .i64 x)) (k := w.heap.size) (by omega) 1 (.int .i64 y), fun _ z9 => (z9 (.inl (hN.out.2 6 (by decide +kernel)))).elim, fun _ z9 => (z9 (.inl (hN.out.2 20 (by decide +kernel)))).elim, fun h => c0 (h.resolve_right (by decide)), fun h => c1 (h.resolve_right (by decide)), fun h => c2 (h.resolve_right (by decide)), fun h => c3 (h.resolve_right (by decide)), fun h => c4 (h.resolve_right (by decide)), fun h => c5 (h.resolve_right (by decide)), fun h => c6 (h.resolve_right (by decide)), fun h => c7 (h.resolve_right (by decide)), fun h => c8 (h.resolve_right (by decide)), fun h => c9 (h.resolve_right (by decide)), fun h => c10 (h.resolve_right (by decide)), fun h => c11 (h.resolve_right (by decide)), fun h => c12 (h.resolve_right (by decide)), fun h => c13 (h.resolve_right (by decide)), fun h => c14 (h.resolve_right (by decide)), fun h => c15 (h.resolve_right (by decide)), fun h => c16 (h.resolve_right (by decide)), fun h => c17 (h.resolve_right (by decide)), fun h => c18 (h.resolve_right (by decide)), fun _ t0 => (t0 (.inl (hN.out.2 20 (by decide +kernel)))).elim, fun h => c20 (h.resolve_right (by decide)), fun h => c21 (h.resolve_right (by decide)), fun _ => (qR1.set 0 (.int .i64 x)).set 1 (.int .i64 y), fun h => c23 (h.resolve_right (by decide)), fun h => c24 (h.resolve_right (by decide)), fun h => c25 (h.resolve_right (by decide))⟩ _ (by simp only [e1])
    apply RelH.op2
    · intro L f u K hN hS hK
      simp only [puts, Act.put, List.setIfInBounds_toArray, List.set_cons_zero, List.set_cons_succ, upd, Nat.reduceEqDiff, ↓reduceIte, if_true, if_false] at hK ⊢
      have HS9 := Lib.hid hS
      obtain ⟨qR, qX, qC, qGW, qO, qC1, qC2, c0, c1, c2, c3, c4, c5, c6, c7, c8, c9, c10, c11, c12, c13, c14, c15, c16, c17, c18, c19, c20, c21, c22, c23, c24, c25⟩ := hS
      obtain ⟨m, e3⟩ := c3 (hN.out.2 3 (by decide +kernel))
      clear qR qC qC1 qC2 c0 c1 c2 c3 c4 c5 c6 c7 c8 c9 c10 c11 c12 c13 c14 c15 c16 c17 c18 c19 c20 c21 c22 c23 c24 c25
      go_simp
      obtain ⟨qR, qX, qC, qGW, qO, qC1, qC2, c0, c1, c2, c3, c4, c5, c6, c7, c8, c9, c10, c11, c12, c13, c14, c15, c16, c17, c18, c19, c20, c21, c22, c23, c24, c25⟩ := HS9.out
      exact hK.out _ _ ⟨fun z9 => qR (fun z => z9 (.inl z)), qX, fun z9 => qC (fun z => z9 (.inl z)), qGW, qO, fun z8 z9 => qC1 (z8.resolve_right (by decide)) (fun z => z9 (.inl z)), fun z8 z9 => qC2 (z8.resolve_right (by decide)) (fun z => z9 (.inl z)), fun h => c0 (h.resolve_right (by decide)), fun h => c1 (h.resolve_right (by decide)), fun h => c2 (h.resolve_right (by decide)), fun h => c3 (h.resolve_right (by decide)), fun h => c4 (h.resolve_right (by decide)), fun h => c5 (h.resolve_right (by decide)), fun h => c6 (h.resolve_right (by decide)), fun h => c7 (h.resolve_right (by decide)), fun h => c8 (h.resolve_right (by decide)), fun h => c9 (h.resolve_right (by decide)), fun h => c10 (h.resolve_right (by decide)), fun h => c11 (h.resolve_right (by decide)), fun h => c12 (h.resolve_right (by decide)), fun h => c13 (h.resolve_right (by decide)), fun h => c14 (h.resolve_right (by decide)), fun h => c15 (h.resolve_right (by decide)), fun h => c16 (h.resolve_right (by decide)), fun h => c17 (h.resolve_right (by decide)), fun h => c18 (h.resolve_right (by decide)), fun h t0 => c19 (h.resolve_right (by decide)) (fun z => t0 (.inl z)), fun h => c20 (h.resolve_right (by decide)), fun h => c21 (h.resolve_right (by decide)), fun h => c22 (h.resolve_right (by decide)), fun _ => ⟨m, rfl⟩, fun h => c24 (h.resolve_right (by decide)), fun h => c25 (h.resolve_right (by decide))⟩ _ (by simp only [e3])
    apply RelH.op2
    · intro L f u K hN hS hK
      simp only [puts, Act.put, List.setIfInBounds_toArray, List.set_cons_zero, List.set_cons_succ, upd, Nat.reduceEqDiff, ↓reduceIte, if_true, if_false] at hK ⊢
      have HS9 := Lib.hid hS
      obtain ⟨qR, qX, qC, qGW, qO, qC1, qC2, c0, c1, c2, c3, c4, c5, c6, c7, c8, c9, c10, c11, c12, c13, c14, c15, c16, c17, c18, c19, c20, c21, c22, c23, c24, c25⟩ := hS
      obtain ⟨m, e6⟩ := c6 (hN.out.2 6 (by decide +kernel))
      clear qR qC qC1 qC2 c0 c1 c2 c3 c4 c5 c6 c7 c8 c9 c10 c11 c12 c13 c14 c15 c16 c17 c18 c19 c20 c21 c22 c23 c24 c25
      go_simp
      obtain ⟨qR, qX, qC, qGW, qO, qC1, qC2, c0, c1, c2, c3, c4, c5, c6, c7, c8, c9, c10, c11, c12, c13, c14, c15, c16, c17, c18, c19, c20, c21, c22, c23, c24, c25⟩ := HS9.out
      exact hK.out _ _ ⟨fun z9 => qR (fun z => z9 (.inl z)), qX, fun z9 => qC (fun z => z9 (.inl z)), qGW, qO, fun z8 z9 => qC1 (z8.resolve_right (by decide)) (fun z => z9 (.inl z)), fun z8 z9 => qC2 (z8.resolve_right (by decide)) (fun z => z9 (.inl z)), fun h => c0 (h.resolve_right (by decide)), fun h => c1 (h.resolve_right (by decide)), fun h => c2 (h.resolve_right (by decide)), fun h => c3 (h.resolve_right (by decide)), fun h => c4 (h.resolve_right (by decide)), fun h => c5 (h.resolve_right (by decide)), fun h => c6 (h.resolve_right (by decide)), fun h => c7 (h.resolve_right (by decide)), fun h => c8 (h.resolve_right (by decide)), fun h => c9 (h.resolve_right (by decide)), fun h => c10 (h.resolve_right (by decide)), fun h => c11 (h.resolve_right (by decide)), fun h => c12 (h.resolve_right (by decide)), fun h => c13 (h.resolve_right (by decide)), fun h => c14 (h.resolve_right (by decide)), fun h => c15 (h.resolve_right (by decide)), fun h => c16 (h.resolve_right (by decide)), fun h => c17 (h.resolve_right (by decide)), fun h => c18 (h.resolve_right (by decide)), fun h t0 => c19 (h.resolve_right (by decide)) (fun z => t0 (.inl z)), fun h => c20 (h.resolve_right (by decide)), fun h => c21 (h.resolve_right (by decide)), fun h => c22 (h.resolve_right (by decide)), fun h => c23 (h.resolve_right (by decide)), fun _ => ⟨m, rfl⟩, fun h => c25 (h.resolve_right (by decide))⟩ _ (by simp only [e6])
    apply RelH.op2
    · intro L f u K hN hS hK
      simp only [puts, Act.put, List.setIfInBounds_toArray, List.set_cons_zero, List.set_cons_succ, upd, Nat.reduceEqDiff, ↓reduceIte, if_true, if_false] at hK ⊢
      have HS9 := Lib.hid hS
      obtain ⟨qR, qX, qC, qGW, qO, qC1, qC2, c0, c1, c2, c3, c4, c5, c6, c7, c8, c9, c10, c11, c12, c13, c14, c15, c16, c17, c18, c19, c20, c21, c22, c23, c24, c25⟩ := hS
      obtain ⟨m, e20⟩ := c20 (hN.out.2 20 (by decide +kernel))
      clear qR qC qC1 qC2 c0 c1 c2 c3 c4 c5 c6 c7 c8 c9 c10 c11 c12 c13 c14 c15 c16 c17 c18 c19 c20 c21 c22 c23 c24 c25
      go_simp
      obtain ⟨qR, qX, qC, qGW, qO, qC1, qC2, c0, c1, c2, c3, c4, c5, c6, c7, c8, c9, c10, c11, c12, c13, c14, c15, c16, c17, c18, c19, c20, c21, c22, c23, c24, c25⟩ := HS9.out
      exact hK.out _ _ ⟨fun z9 => qR (fun z => z9 (.inl z)), qX, fun z9 => qC (fun z => z9 (.inl z)), qGW, qO, fun z8 z9 => qC1 (z8.resolve_right (by decide)) (fun z => z9 (.inl z)), fun z8 z9 => qC2 (z8.resolve_right (by decide)) (fun z => z9 (.inl z)), fun h => c0 (h.resolve_right (by decide)), fun h => c1 (h.resolve_right (by decide)), fun h => c2 (h.resolve_right (by decide)), fun h => c3 (h.resolve_right (by decide)), fun h => c4 (h.resolve_right (by decide)), fun h => c5 (h.resolve_right (by decide)), fun h => c6 (h.resolve_right (by decide)), fun h => c7 (h.resolve_right (by decide)), fun h => c8 (h.resolve_right (by decide)), fun h => c9 (h.resolve_right (by decide)), fun h => c10 (h.resolve_right (by decide)), fun h => c11 (h.resolve_right (by decide)), fun h => c12 (h.resolve_right (by decide)), fun h => c13 (h.resolve_right (by decide)), fun h => c14 (h.resolve_right (by decide)), fun h => c15 (h.resolve_right (by decide)), fun h => c16 (h.resolve_right (by decide)), fun h => c17 (h.resolve_right (by decide)), fun h => c18 (h.resolve_right (by decide)), fun h t0 => c19 (h.resolve_right (by decide)) (fun z => t0 (.inl z)), fun h => c20 (h.resolve_right (by decide)), fun h => c21 (h.resolve_right (by decide)), fun h => c22 (h.resolve_right (by decide)), fun h => c23 (h.resolve_right (by decide)), fun h => c24 (h.resolve_right (by decide)), fun _ => ⟨m, rfl⟩⟩ _ (by simp only [e20])
    exact RelH.done
  intro L f V0 hL hS
  simp only [puts, Act.put, List.setIfInBounds_toArray, List.set_cons_zero, List.set_cons_succ]
  obtain ⟨qR, qX, qC, qGW, qO, qC1, qC2, c0, c1, c2, c3, c4, c5, c6, c7, c8, c9, c10, c11, c12, c13, c14, c15, c16, c17, c18, c19, c20, c21, c22, c23, c24, c25⟩ := hS
  have R9 := c22 (hL 22 (by decide))
  have HB := below_of (Below.refl w.heap.size w) qGW (fun k hk => by injection hk with hk; omega)
  have O9 := own_base qO (base' := w.heap.size) (by omega)
  have e21 := c21 (hL 21 (by decide))
  obtain ⟨a, e23⟩ := c23 (hL 23 (by decide))
  obtain ⟨d, e24⟩ := c24 (hL 24 (by decide))
  obtain ⟨m, e25⟩ := c25 (hL 25 (by decide))
  simp only [e21, e23, e24, e25]
  clear c0 c1 c2 c3 c4 c5 c6 c7 c8 c9 c10 c11 c12 c13 c14 c15 c16 c17 c18 c19 c20 c21 c22 c23 c24 c25 hL e21 e23 e24 e25 qC qC1 qC2 qX qR
  have q0 := R9.cells 0 _ rfl
  have q1 := R9.cells 1 _ rfl
  go_wp2
  exact bodyPost_ret (v := .tuple #[.slice (some ⟨g, 0, none⟩) M.length c, .agg #[.int .i64 x, .int .i64 y], .int .i64 a, .int .i64 d, .int .i64 m]) (by simp [results, Try.results22, go_sem, q0, q1]) rfl ⟨M, g, c, x, y, a, d, m, hl, rfl, O9, HB⟩
end Go.Proofs.Ytpbmncecejchjaa.DShw3
