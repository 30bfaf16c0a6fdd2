/- The draws of FnWashing whose regions draw. Made by tools/mk_dbat3.py. -/
import Derived.Test.YtpokgnkcnibapaaDBat2
import Derived.Test.YtpokgnkcnibapaaRegn3
namespace Go.Proofs.Ytpokgnkcnibapaa.DBat3
open Go.RowKit Go.Proofs.Ytpokgnkcnibapaa.Mem Go.Proofs.Ytpokgnkcnibapaa.Base Go.Proofs.Ytpokgnkcnibapaa.Draw Go.Proofs.Ytpokgnkcnibapaa.Boxes Go.Proofs.Ytpokgnkcnibapaa.Keep Go.Proofs.Ytpokgnkcnibapaa.Dr
open Go.Proofs.Ytpokgnkcnibapaa.SBatch hiding RPost rpost
open Go.Proofs.Ytpokgnkcnibapaa.DBat Go.Proofs.Ytpokgnkcnibapaa.DBat2 Go.Proofs.Ytpokgnkcnibapaa.Regn
set_option linter.unusedVariables false
set_option linter.unusedSimpArgs false
set_option maxRecDepth 100000
set_option maxHeartbeats 8000000 in
theorem drawWater (A : Option Addr) (cap : Nat) (zs : List Int) (w : World) (h : Draw.Src w A zs) : Calls Try.prog 20 #[.slice A zs.length cap] w (D1 w) := by
  have C0 := cu_at (h.below (al (Below.refl _ w) (o := .cells #[.int .i64 0, .int .i64 0, .int .i64 0] 25))) cap (p := w.heap.size + 1) (by rw [size_alloc'])
  have R0 := (Cb.new w [.int .i64 0, .int .i64 0, .int .i64 0] 25 (g := w.heap.size) rfl).alloc (.cells #[.slice A zs.length cap, .int .i64 0, .int .u64 0] 66)
  have G0 : w.grownBy ((w.alloc (.cells #[.int .i64 0, .int .i64 0, .int .i64 0] 25)).alloc (.cells #[.slice A zs.length cap, .int .i64 0, .int .u64 0] 66)) (some (w.heap.size + 1)) := grown_trans (grown_alloc w _ _) (grown_alloc _ _ _)
  have S0 : ((w.alloc (.cells #[.int .i64 0, .int .i64 0, .int .i64 0] 25)).alloc (.cells #[.slice A zs.length cap, .int .i64 0, .int .u64 0] 66)).heap.size = w.heap.size + 1 + 1 := (by rw [size_alloc', size_alloc'])
  have H0 := Lib.hid (And.intro C0 (And.intro R0 (And.intro G0 S0))); clear C0 R0 G0 S0
  go_enter Try.func20, Try.ntmps20
  go_wp2_with fail
  obtain ⟨C0, R, GW, sv⟩ := H0.out
  obtain ⟨B, C⟩ : ∃ B, Cu B zs (w.heap.size + 1) 0 ((w.alloc (.cells #[.int .i64 0, .int .i64 0, .int .i64 0] 25)).alloc (.cells #[.slice A zs.length cap, .int .i64 0, .int .u64 0] 66)) := ⟨_, C0⟩
  clear C0 H0
  generalize (w.alloc (.cells #[.int .i64 0, .int .i64 0, .int .i64 0] 25)).alloc (.cells #[.slice A zs.length cap, .int .i64 0, .int .u64 0] 66) = v at C R GW sv ⊢
  have zw : w.heap.size < w.heap.size + 1 := by omega
  have zv := GW.size
  have hp := C.lt
  have hB := C.base
  generalize hpq : w.heap.size + 1 = p at *
  try go_wp2_with fail
  refine (batch_d B zs p (0) _ C (by omega)).mono ?_
  rintro e u121 ⟨x, rfl, C1, G⟩
  have yu121 : v.heap.size ≤ u121.heap.size := G.size
  replace R := (R).went G (by omega)
  replace GW := grown_trans GW G
  replace C := C1
  clear C1 G
  have zu121 := GW.size
  go_wp2_with fail
  have X := Cb.new u121 [.int .i64 x.f0, .int .i64 x.f1, .int .i64 x.f2] 25 (g := u121.heap.size) rfl
  replace R := (R.alloc (.cells #[.int .i64 x.f0, .int .i64 x.f1, .int .i64 x.f2] 25))
  replace C := (C.alloc (.cells #[.int .i64 x.f0, .int .i64 x.f1, .int .i64 x.f2] 25))
  replace GW := (grown_trans GW (grown_alloc _ (.cells #[.int .i64 x.f0, .int .i64 x.f1, .int .i64 x.f2] 25) _))
  have su122 : (u121.alloc (.cells #[.int .i64 x.f0, .int .i64 x.f1, .int .i64 x.f2] 25)).heap.size = u121.heap.size + 1 := by simp only [size_alloc']
  generalize (u121.alloc (.cells #[.int .i64 x.f0, .int .i64 x.f1, .int .i64 x.f2] 25)) = u122 at X R GW C su122 ⊢
  have zu122 := GW.size
  have hgx : p < u121.heap.size ∧ u121.heap.size ≠ w.heap.size := by omega
  generalize u121.heap.size = gx at *
  obtain ⟨hgx1, hgx2⟩ := hgx
  obtain ⟨h2, y1⟩ : ∃ q, IntKind.i64.wrap (x.f1.tdiv 2) = q := ⟨_, rfl⟩
  obtain ⟨h10, y2⟩ : ∃ q, IntKind.i64.wrap (x.f1.tdiv 10) = q := ⟨_, rfl⟩
  obtain ⟨K0, hK0, hK1⟩ : ∃ K0 : Nat, K0 ≤ 600000000 ∧ 0 + 20 = K0 := ⟨_, by omega, rfl⟩
  rw [hK1] at C
  clear hK1
  refine wp_region_rel [11, 12, 13, 14, 15, 16, 17, 18, 19, 20, 21, 22, 3] (fun L f w' => (¬ L 12 → Cb w.heap.size [.int .i64 0, .int .i64 0, .int .i64 0] w') ∧ (Cb gx [.int .i64 x.f0, .int .i64 x.f1, .int .i64 x.f2] w') ∧ (¬ L 11 → Cu B zs p K0 w') ∧ (w.grownBy w' (some p)) ∧ (L 0 → f 11 = .agg #[.int .i64 x.f0, .int .i64 x.f1, .int .i64 x.f2]) ∧ (L 1 → f 12 = .pointer (some ⟨p, 0, none⟩)) ∧ (L 2 → f 13 = .pointer (some ⟨gx, 1, none⟩)) ∧ (L 3 → f 14 = .int .i64 x.f1) ∧ (L 4 → f 15 = .pointer (some ⟨gx, 1, none⟩)) ∧ (L 5 → f 16 = .int .i64 x.f1) ∧ (L 6 → f 17 = .int .i64 h2) ∧ (L 7 → f 18 = .pointer (some ⟨gx, 1, none⟩)) ∧ (L 8 → f 19 = .int .i64 x.f1) ∧ (L 9 → f 20 = .int .i64 h10) ∧ (L 10 → ¬ L 11 → ∃ gl, f 21 = .slice (some ⟨gl, 0, none⟩) 7 7 ∧ gl ≠ p ∧ Lst w' gl (([0, 1, 5, x.f1, h2, h10, -1] : List Int).map (Value.int .i64))) ∧ (L 11 → ∃ m, f 22 = .int .i64 m) ∧ (L 12 → Cb w.heap.size [.int .i64 x.f0, .int .i64 x.f1, .int .i64 x.f2] w') ∧ (L 13 → ∃ m, f 3 = .int .i64 m)) (by kernel_rfl) (by kernel_rfl) (by kernel_rfl) (fun f => ⟨fun _ => R.more (Below.refl _ _).drew, X.more (Below.refl _ _).drew, fun _ => C.more (Below.refl _ _).drew, grown_more GW (Below.refl _ _).drew, fun h => h.elim, fun h => h.elim, fun h => h.elim, fun h => h.elim, fun h => h.elim, fun h => h.elim, fun h => h.elim, fun h => h.elim, fun h => h.elim, fun h => h.elim, fun h => h.elim, fun h => h.elim, fun h => h.elim, fun h => h.elim⟩) ?_ ?_
  · apply RelH.op2
    · intro L f u K hN hS hK
      simp only [puts, Act.put, List.setIfInBounds_toArray, List.set_cons_zero, List.set_cons_succ, upd, Nat.reduceEqDiff, ↓reduceIte, if_true, if_false] at hK ⊢
      have HS9 := Lib.hid hS
      obtain ⟨qR, qX, qC, qGW, c0, c1, c2, c3, c4, c5, c6, c7, c8, c9, c10, c11, c12, c13⟩ := hS
      have X_0 := qX.cells 0 _ rfl
      have X_1 := qX.cells 1 _ rfl
      have X_2 := qX.cells 2 _ rfl
      clear qR qC c0 c1 c2 c3 c4 c5 c6 c7 c8 c9 c10 c11 c12 c13
      go_simp
      obtain ⟨qR, qX, qC, qGW, c0, c1, c2, c3, c4, c5, c6, c7, c8, c9, c10, c11, c12, c13⟩ := HS9.out
      exact hK.out _ _ ⟨fun z9 => qR (fun z => z9 (.inl z)), qX, fun z9 => qC (fun z => z9 (.inl z)), qGW, fun _ => rfl, fun h => c1 (h.resolve_right (by decide)), fun h => c2 (h.resolve_right (by decide)), fun h => c3 (h.resolve_right (by decide)), fun h => c4 (h.resolve_right (by decide)), fun h => c5 (h.resolve_right (by decide)), fun h => c6 (h.resolve_right (by decide)), fun h => c7 (h.resolve_right (by decide)), fun h => c8 (h.resolve_right (by decide)), fun h => c9 (h.resolve_right (by decide)), fun h t0 => c10 (h.resolve_right (by decide)) (fun z => t0 (.inl z)), fun h => c11 (h.resolve_right (by decide)), fun h => c12 (h.resolve_right (by decide)), fun h => c13 (h.resolve_right (by decide))⟩ _ rfl
    apply RelH.op2
    · intro L f u K hN hS hK
      simp only [puts, Act.put, List.setIfInBounds_toArray, List.set_cons_zero, List.set_cons_succ, upd, Nat.reduceEqDiff, ↓reduceIte, if_true, if_false] at hK ⊢
      have HS9 := Lib.hid hS
      obtain ⟨qR, qX, qC, qGW, c0, c1, c2, c3, c4, c5, c6, c7, c8, c9, c10, c11, c12, c13⟩ := hS
      clear qR qC c0 c1 c2 c3 c4 c5 c6 c7 c8 c9 c10 c11 c12 c13
      go_simp
      obtain ⟨qR, qX, qC, qGW, c0, c1, c2, c3, c4, c5, c6, c7, c8, c9, c10, c11, c12, c13⟩ := HS9.out
      exact hK.out _ _ ⟨fun z9 => qR (fun z => z9 (.inl z)), qX, fun z9 => qC (fun z => z9 (.inl z)), qGW, fun h => c0 (h.resolve_right (by decide)), fun _ => rfl, fun h => c2 (h.resolve_right (by decide)), fun h => c3 (h.resolve_right (by decide)), fun h => c4 (h.resolve_right (by decide)), fun h => c5 (h.resolve_right (by decide)), fun h => c6 (h.resolve_right (by decide)), fun h => c7 (h.resolve_right (by decide)), fun h => c8 (h.resolve_right (by decide)), fun h => c9 (h.resolve_right (by decide)), fun h t0 => c10 (h.resolve_right (by decide)) (fun z => t0 (.inl z)), fun h => c11 (h.resolve_right (by decide)), fun h => c12 (h.resolve_right (by decide)), fun h => c13 (h.resolve_right (by decide))⟩ _ rfl
    apply RelH.op2
    · intro L f u K hN hS hK
      simp only [puts, Act.put, List.setIfInBounds_toArray, List.set_cons_zero, List.set_cons_succ, upd, Nat.reduceEqDiff, ↓reduceIte, if_true, if_false] at hK ⊢
      have HS9 := Lib.hid hS
      obtain ⟨qR, qX, qC, qGW, c0, c1, c2, c3, c4, c5, c6, c7, c8, c9, c10, c11, c12, c13⟩ := hS
      clear qR qC c0 c1 c2 c3 c4 c5 c6 c7 c8 c9 c10 c11 c12 c13
      go_simp
      obtain ⟨qR, qX, qC, qGW, c0, c1, c2, c3, c4, c5, c6, c7, c8, c9, c10, c11, c12, c13⟩ := HS9.out
      exact hK.out _ _ ⟨fun z9 => qR (fun z => z9 (.inl z)), qX, fun z9 => qC (fun z => z9 (.inl z)), qGW, fun h => c0 (h.resolve_right (by decide)), fun h => c1 (h.resolve_right (by decide)), fun _ => rfl, fun h => c3 (h.resolve_right (by decide)), fun h => c4 (h.resolve_right (by decide)), fun h => c5 (h.resolve_right (by decide)), fun h => c6 (h.resolve_right (by decide)), fun h => c7 (h.resolve_right (by decide)), fun h => c8 (h.resolve_right (by decide)), fun h => c9 (h.resolve_right (by decide)), fun h t0 => c10 (h.resolve_right (by decide)) (fun z => t0 (.inl z)), fun h => c11 (h.resolve_right (by decide)), fun h => c12 (h.resolve_right (by decide)), fun h => c13 (h.resolve_right (by decide))⟩ _ rfl
    apply RelH.op2
    · intro L f u K hN hS hK
      simp only [puts, Act.put, List.setIfInBounds_toArray, List.set_cons_zero, List.set_cons_succ, upd, Nat.reduceEqDiff, ↓reduceIte, if_true, if_false] at hK ⊢
      have HS9 := Lib.hid hS
      obtain ⟨qR, qX, qC, qGW, c0, c1, c2, c3, c4, c5, c6, c7, c8, c9, c10, c11, c12, c13⟩ := hS
      have e2 := c2 (hN.out.2 2 (by decide +kernel))
      have X_0 := qX.cells 0 _ rfl
      have X_1 := qX.cells 1 _ rfl
      have X_2 := qX.cells 2 _ rfl
      clear qR qC c0 c1 c2 c3 c4 c5 c6 c7 c8 c9 c10 c11 c12 c13
      go_simp
      obtain ⟨qR, qX, qC, qGW, c0, c1, c2, c3, c4, c5, c6, c7, c8, c9, c10, c11, c12, c13⟩ := HS9.out
      exact hK.out _ _ ⟨fun z9 => qR (fun z => z9 (.inl z)), qX, fun z9 => qC (fun z => z9 (.inl z)), qGW, fun h => c0 (h.resolve_right (by decide)), fun h => c1 (h.resolve_right (by decide)), fun h => c2 (h.resolve_right (by decide)), fun _ => rfl, fun h => c4 (h.resolve_right (by decide)), fun h => c5 (h.resolve_right (by decide)), fun h => c6 (h.resolve_right (by decide)), fun h => c7 (h.resolve_right (by decide)), fun h => c8 (h.resolve_right (by decide)), fun h => c9 (h.resolve_right (by decide)), fun h t0 => c10 (h.resolve_right (by decide)) (fun z => t0 (.inl z)), fun h => c11 (h.resolve_right (by decide)), fun h => c12 (h.resolve_right (by decide)), fun h => c13 (h.resolve_right (by decide))⟩ _ (by simp only [e2] <;> rfl)
    apply RelH.op2
    · intro L f u K hN hS hK
      simp only [puts, Act.put, List.setIfInBounds_toArray, List.set_cons_zero, List.set_cons_succ, upd, Nat.reduceEqDiff, ↓reduceIte, if_true, if_false] at hK ⊢
      have HS9 := Lib.hid hS
      obtain ⟨qR, qX, qC, qGW, c0, c1, c2, c3, c4, c5, c6, c7, c8, c9, c10, c11, c12, c13⟩ := hS
      clear qR qC c0 c1 c2 c3 c4 c5 c6 c7 c8 c9 c10 c11 c12 c13
      go_simp
      obtain ⟨qR, qX, qC, qGW, c0, c1, c2, c3, c4, c5, c6, c7, c8, c9, c10, c11, c12, c13⟩ := HS9.out
      exact hK.out _ _ ⟨fun z9 => qR (fun z => z9 (.inl z)), qX, fun z9 => qC (fun z => z9 (.inl z)), qGW, fun h => c0 (h.resolve_right (by decide)), fun h => c1 (h.resolve_right (by decide)), fun h => c2 (h.resolve_right (by decide)), fun h => c3 (h.resolve_right (by decide)), fun _ => rfl, fun h => c5 (h.resolve_right (by decide)), fun h => c6 (h.resolve_right (by decide)), fun h => c7 (h.resolve_right (by decide)), fun h => c8 (h.resolve_right (by decide)), fun h => c9 (h.resolve_right (by decide)), fun h t0 => c10 (h.resolve_right (by decide)) (fun z => t0 (.inl z)), fun h => c11 (h.resolve_right (by decide)), fun h => c12 (h.resolve_right (by decide)), fun h => c13 (h.resolve_right (by decide))⟩ _ rfl
    apply RelH.op2
    · intro L f u K hN hS hK
      simp only [puts, Act.put, List.setIfInBounds_toArray, List.set_cons_zero, List.set_cons_succ, upd, Nat.reduceEqDiff, ↓reduceIte, if_true, if_false] at hK ⊢
      have HS9 := Lib.hid hS
      obtain ⟨qR, qX, qC, qGW, c0, c1, c2, c3, c4, c5, c6, c7, c8, c9, c10, c11, c12, c13⟩ := hS
      have e4 := c4 (hN.out.2 4 (by decide +kernel))
      have X_0 := qX.cells 0 _ rfl
      have X_1 := qX.cells 1 _ rfl
      have X_2 := qX.cells 2 _ rfl
      clear qR qC c0 c1 c2 c3 c4 c5 c6 c7 c8 c9 c10 c11 c12 c13
      go_simp
      obtain ⟨qR, qX, qC, qGW, c0, c1, c2, c3, c4, c5, c6, c7, c8, c9, c10, c11, c12, c13⟩ := HS9.out
      exact hK.out _ _ ⟨fun z9 => qR (fun z => z9 (.inl z)), qX, fun z9 => qC (fun z => z9 (.inl z)), qGW, fun h => c0 (h.resolve_right (by decide)), fun h => c1 (h.resolve_right (by decide)), fun h => c2 (h.resolve_right (by decide)), fun h => c3 (h.resolve_right (by decide)), fun h => c4 (h.resolve_right (by decide)), fun _ => rfl, fun h => c6 (h.resolve_right (by decide)), fun h => c7 (h.resolve_right (by decide)), fun h => c8 (h.resolve_right (by decide)), fun h => c9 (h.resolve_right (by decide)), fun h t0 => c10 (h.resolve_right (by decide)) (fun z => t0 (.inl z)), fun h => c11 (h.resolve_right (by decide)), fun h => c12 (h.resolve_right (by decide)), fun h => c13 (h.resolve_right (by decide))⟩ _ (by simp only [e4] <;> rfl)
    apply RelH.op2
    · intro L f u K hN hS hK
      simp only [puts, Act.put, List.setIfInBounds_toArray, List.set_cons_zero, List.set_cons_succ, upd, Nat.reduceEqDiff, ↓reduceIte, if_true, if_false] at hK ⊢
      have HS9 := Lib.hid hS
      obtain ⟨qR, qX, qC, qGW, c0, c1, c2, c3, c4, c5, c6, c7, c8, c9, c10, c11, c12, c13⟩ := hS
      have e5 := c5 (hN.out.2 5 (by decide +kernel))
      clear qR qC c0 c1 c2 c3 c4 c5 c6 c7 c8 c9 c10 c11 c12 c13
      go_simp
      obtain ⟨qR, qX, qC, qGW, c0, c1, c2, c3, c4, c5, c6, c7, c8, c9, c10, c11, c12, c13⟩ := HS9.out
      exact hK.out _ _ ⟨fun z9 => qR (fun z => z9 (.inl z)), qX, fun z9 => qC (fun z => z9 (.inl z)), qGW, fun h => c0 (h.resolve_right (by decide)), fun h => c1 (h.resolve_right (by decide)), fun h => c2 (h.resolve_right (by decide)), fun h => c3 (h.resolve_right (by decide)), fun h => c4 (h.resolve_right (by decide)), fun h => c5 (h.resolve_right (by decide)), fun _ => rfl, fun h => c7 (h.resolve_right (by decide)), fun h => c8 (h.resolve_right (by decide)), fun h => c9 (h.resolve_right (by decide)), fun h t0 => c10 (h.resolve_right (by decide)) (fun z => t0 (.inl z)), fun h => c11 (h.resolve_right (by decide)), fun h => c12 (h.resolve_right (by decide)), fun h => c13 (h.resolve_right (by decide))⟩ _ (by simp only [e5] <;> rfl)
    apply RelH.op2
    · intro L f u K hN hS hK
      simp only [puts, Act.put, List.setIfInBounds_toArray, List.set_cons_zero, List.set_cons_succ, upd, Nat.reduceEqDiff, ↓reduceIte, if_true, if_false] at hK ⊢
      have HS9 := Lib.hid hS
      obtain ⟨qR, qX, qC, qGW, c0, c1, c2, c3, c4, c5, c6, c7, c8, c9, c10, c11, c12, c13⟩ := hS
      clear qR qC c0 c1 c2 c3 c4 c5 c6 c7 c8 c9 c10 c11 c12 c13
      go_simp
      obtain ⟨qR, qX, qC, qGW, c0, c1, c2, c3, c4, c5, c6, c7, c8, c9, c10, c11, c12, c13⟩ := HS9.out
      exact hK.out _ _ ⟨fun z9 => qR (fun z => z9 (.inl z)), qX, fun z9 => qC (fun z => z9 (.inl z)), qGW, fun h => c0 (h.resolve_right (by decide)), fun h => c1 (h.resolve_right (by decide)), fun h => c2 (h.resolve_right (by decide)), fun h => c3 (h.resolve_right (by decide)), fun h => c4 (h.resolve_right (by decide)), fun h => c5 (h.resolve_right (by decide)), fun h => c6 (h.resolve_right (by decide)), fun _ => rfl, fun h => c8 (h.resolve_right (by decide)), fun h => c9 (h.resolve_right (by decide)), fun h t0 => c10 (h.resolve_right (by decide)) (fun z => t0 (.inl z)), fun h => c11 (h.resolve_right (by decide)), fun h => c12 (h.resolve_right (by decide)), fun h => c13 (h.resolve_right (by decide))⟩ _ rfl
    apply RelH.op2
    · intro L f u K hN hS hK
      simp only [puts, Act.put, List.setIfInBounds_toArray, List.set_cons_zero, List.set_cons_succ, upd, Nat.reduceEqDiff, ↓reduceIte, if_true, if_false] at hK ⊢
      have HS9 := Lib.hid hS
      obtain ⟨qR, qX, qC, qGW, c0, c1, c2, c3, c4, c5, c6, c7, c8, c9, c10, c11, c12, c13⟩ := hS
      have e7 := c7 (hN.out.2 7 (by decide +kernel))
      have X_0 := qX.cells 0 _ rfl
      have X_1 := qX.cells 1 _ rfl
      have X_2 := qX.cells 2 _ rfl
      clear qR qC c0 c1 c2 c3 c4 c5 c6 c7 c8 c9 c10 c11 c12 c13
      go_simp
      obtain ⟨qR, qX, qC, qGW, c0, c1, c2, c3, c4, c5, c6, c7, c8, c9, c10, c11, c12, c13⟩ := HS9.out
      exact hK.out _ _ ⟨fun z9 => qR (fun z => z9 (.inl z)), qX, fun z9 => qC (fun z => z9 (.inl z)), qGW, fun h => c0 (h.resolve_right (by decide)), fun h => c1 (h.resolve_right (by decide)), fun h => c2 (h.resolve_right (by decide)), fun h => c3 (h.resolve_right (by decide)), fun h => c4 (h.resolve_right (by decide)), fun h => c5 (h.resolve_right (by decide)), fun h => c6 (h.resolve_right (by decide)), fun h => c7 (h.resolve_right (by decide)), fun _ => rfl, fun h => c9 (h.resolve_right (by decide)), fun h t0 => c10 (h.resolve_right (by decide)) (fun z => t0 (.inl z)), fun h => c11 (h.resolve_right (by decide)), fun h => c12 (h.resolve_right (by decide)), fun h => c13 (h.resolve_right (by decide))⟩ _ (by simp only [e7] <;> rfl)
    apply RelH.op2
    · intro L f u K hN hS hK
      simp only [puts, Act.put, List.setIfInBounds_toArray, List.set_cons_zero, List.set_cons_succ, upd, Nat.reduceEqDiff, ↓reduceIte, if_true, if_false] at hK ⊢
      have HS9 := Lib.hid hS
      obtain ⟨qR, qX, qC, qGW, c0, c1, c2, c3, c4, c5, c6, c7, c8, c9, c10, c11, c12, c13⟩ := hS
      have e8 := c8 (hN.out.2 8 (by decide +kernel))
      clear qR qC c0 c1 c2 c3 c4 c5 c6 c7 c8 c9 c10 c11 c12 c13
      go_simp
      obtain ⟨qR, qX, qC, qGW, c0, c1, c2, c3, c4, c5, c6, c7, c8, c9, c10, c11, c12, c13⟩ := HS9.out
      exact hK.out _ _ ⟨fun z9 => qR (fun z => z9 (.inl z)), qX, fun z9 => qC (fun z => z9 (.inl z)), qGW, fun h => c0 (h.resolve_right (by decide)), fun h => c1 (h.resolve_right (by decide)), fun h => c2 (h.resolve_right (by decide)), fun h => c3 (h.resolve_right (by decide)), fun h => c4 (h.resolve_right (by decide)), fun h => c5 (h.resolve_right (by decide)), fun h => c6 (h.resolve_right (by decide)), fun h => c7 (h.resolve_right (by decide)), fun h => c8 (h.resolve_right (by decide)), fun _ => rfl, fun h t0 => c10 (h.resolve_right (by decide)) (fun z => t0 (.inl z)), fun h => c11 (h.resolve_right (by decide)), fun h => c12 (h.resolve_right (by decide)), fun h => c13 (h.resolve_right (by decide))⟩ _ (by simp only [e8] <;> rfl)
    apply RelH.op2
    · intro L f u K hN hS hK
      simp only [puts, Act.put, List.setIfInBounds_toArray, List.set_cons_zero, List.set_cons_succ, upd, Nat.reduceEqDiff, ↓reduceIte, if_true, if_false] at hK ⊢
      have HS9 := Lib.hid hS
      obtain ⟨qR, qX, qC, qGW, c0, c1, c2, c3, c4, c5, c6, c7, c8, c9, c10, c11, c12, c13⟩ := hS
      have e3 := c3 (hN.out.2 3 (by decide +kernel))
      have e6 := c6 (hN.out.2 6 (by decide +kernel))
      have e9 := c9 (hN.out.2 9 (by decide +kernel))
      have hT := lst_at u [Value.int .i64 0, Value.int .i64 1, Value.int .i64 5, Value.int .i64 x.f1, Value.int .i64 h2, Value.int .i64 h10, Value.int .i64 (-1)] 3 (g := u.heap.size) rfl
      have hpu : p < u.heap.size := by have := qX.there; omega
      clear qR qC c0 c1 c2 c3 c4 c5 c6 c7 c8 c9 c10 c11 c12 c13
      go_simp
      obtain ⟨qR, qX, qC, qGW, c0, c1, c2, c3, c4, c5, c6, c7, c8, c9, c10, c11, c12, c13⟩ := HS9.out
      exact hK.out _ _ ⟨fun z9 => (qR (fun z => z9 (.inl z))).alloc _, qX.alloc _, fun z9 => (qC (fun z => z9 (.inl z))).alloc _, grown_trans qGW (grown_alloc _ _ _), fun h => c0 (h.resolve_right (by decide)), fun h => c1 (h.resolve_right (by decide)), fun h => c2 (h.resolve_right (by decide)), fun h => c3 (h.resolve_right (by decide)), fun h => c4 (h.resolve_right (by decide)), fun h => c5 (h.resolve_right (by decide)), fun h => c6 (h.resolve_right (by decide)), fun h => c7 (h.resolve_right (by decide)), fun h => c8 (h.resolve_right (by decide)), fun h => c9 (h.resolve_right (by decide)), fun _ _ => ⟨_, rfl, by omega, hT⟩, fun h => c11 (h.resolve_right (by decide)), fun h => ((c12 (h.resolve_right (by decide)))).alloc _, fun h => c13 (h.resolve_right (by decide))⟩ _ (by simp only [e3, e6, e9] <;> rfl)
    apply RelH.op2
    · intro L f u K hN hS hK
      simp only [puts, Act.put, List.setIfInBounds_toArray, List.set_cons_zero, List.set_cons_succ, upd, Nat.reduceEqDiff, ↓reduceIte, if_true, if_false] at hK ⊢
      have HS9 := Lib.hid hS
      obtain ⟨qR, qX, qC, qGW, c0, c1, c2, c3, c4, c5, c6, c7, c8, c9, c10, c11, c12, c13⟩ := hS
      have e1 := c1 (hN.out.2 1 (by decide +kernel))
      obtain ⟨gl, e10, h9, T⟩ := c10 (hN.out.2 10 (by decide +kernel)) (hN.out.1 11 (by decide +kernel))
      have HCON := Lib.hid (among_d B zs p K0 u gl 7 [0, 1, 5, x.f1, h2, h10, -1] (qC (hN.out.1 11 (by decide +kernel))) (by omega) T h9 (by simp) (by simp))
      clear qR qC c0 c1 c2 c3 c4 c5 c6 c7 c8 c9 c10 c11 c12 c13
      go_simp
      go_at_call 51
      refine HCON.out.mono ?_
      rintro e uw1 ⟨m, hm, rfl, C9, G⟩
      go_wp2_with fail
      obtain ⟨qR, qX, qC, qGW, c0, c1, c2, c3, c4, c5, c6, c7, c8, c9, c10, c11, c12, c13⟩ := HS9.out
      exact hK.out _ _ ⟨fun z9 => (qR (fun z => z9 (.inl z))).went G (by omega), qX.went G (by omega), fun z9 => (z9 (by simp)).elim, grown_trans qGW G, fun h => c0 (h.resolve_right (by decide)), fun h => c1 (h.resolve_right (by decide)), fun h => c2 (h.resolve_right (by decide)), fun h => c3 (h.resolve_right (by decide)), fun h => c4 (h.resolve_right (by decide)), fun h => c5 (h.resolve_right (by decide)), fun h => c6 (h.resolve_right (by decide)), fun h => c7 (h.resolve_right (by decide)), fun h => c8 (h.resolve_right (by decide)), fun h => c9 (h.resolve_right (by decide)), fun h t0 => (t0 (by simp)).elim, fun _ => ⟨m, rfl⟩, fun h => ((c12 (h.resolve_right (by decide)))).went G (by omega), fun h => c13 (h.resolve_right (by decide))⟩ _ (by simp only [e1, e10] <;> rfl)
    apply RelH.op2
    · intro L f u K hN hS hK
      simp only [puts, Act.put, List.setIfInBounds_toArray, List.set_cons_zero, List.set_cons_succ, upd, Nat.reduceEqDiff, ↓reduceIte, if_true, if_false] at hK ⊢
      have HS9 := Lib.hid hS
      obtain ⟨qR, qX, qC, qGW, c0, c1, c2, c3, c4, c5, c6, c7, c8, c9, c10, c11, c12, c13⟩ := hS
      have e0 := c0 (hN.out.2 0 (by decide +kernel))
      have qR1 := qR (hN.out.1 12 (by decide +kernel))
      have R_0 := qR1.cells 0 _ rfl
      have R_1 := qR1.cells 1 _ rfl
      have R_2 := qR1.cells 2 _ rfl
      have R_f0 := qR1.free 0 (by simp)
      have R_f1 := qR1.free 1 (by simp)
      have R_f2 := qR1.free 2 (by simp)
      clear qR qC c0 c1 c2 c3 c4 c5 c6 c7 c8 c9 c10 c11 c12 c13
      go_simp
      obtain ⟨qR, qX, qC, qGW, c0, c1, c2, c3, c4, c5, c6, c7, c8, c9, c10, c11, c12, c13⟩ := HS9.out
      exact hK.out undef _ ⟨fun z9 => (z9 (by simp)).elim, (((qX.far (k := w.heap.size) (by omega) 0 (.int .i64 x.f0)).far (k := w.heap.size) (by omega) 1 (.int .i64 x.f1)).far (k := w.heap.size) (by omega) 2 (.int .i64 x.f2)), fun z9 => (z9 (.inl (hN.out.2 11 (by decide +kernel)))).elim, (grown_set (grown_set (grown_set qGW (Nat.le_refl _) 0 (.int .i64 x.f0)) (Nat.le_refl _) 1 (.int .i64 x.f1)) (Nat.le_refl _) 2 (.int .i64 x.f2)), fun h => c0 (h.resolve_right (by decide)), fun h => c1 (h.resolve_right (by decide)), fun h => c2 (h.resolve_right (by decide)), fun h => c3 (h.resolve_right (by decide)), fun h => c4 (h.resolve_right (by decide)), fun h => c5 (h.resolve_right (by decide)), fun h => c6 (h.resolve_right (by decide)), fun h => c7 (h.resolve_right (by decide)), fun h => c8 (h.resolve_right (by decide)), fun h => c9 (h.resolve_right (by decide)), fun _ t0 => (t0 (.inl (hN.out.2 11 (by decide +kernel)))).elim, fun h => c11 (h.resolve_right (by decide)), fun _ => ((qR1.set 0 (.int .i64 x.f0)).set 1 (.int .i64 x.f1)).set 2 (.int .i64 x.f2), fun h => c13 (h.resolve_right (by decide))⟩ _ (by simp only [e0] <;> rfl)
    apply RelH.op2
    · intro L f u K hN hS hK
      simp only [puts, Act.put, List.setIfInBounds_toArray, List.set_cons_zero, List.set_cons_succ, upd, Nat.reduceEqDiff, ↓reduceIte, if_true, if_false] at hK ⊢
      have HS9 := Lib.hid hS
      obtain ⟨qR, qX, qC, qGW, c0, c1, c2, c3, c4, c5, c6, c7, c8, c9, c10, c11, c12, c13⟩ := hS
      obtain ⟨m, e11⟩ := c11 (hN.out.2 11 (by decide +kernel))
      clear qR qC c0 c1 c2 c3 c4 c5 c6 c7 c8 c9 c10 c11 c12 c13
      go_simp
      obtain ⟨qR, qX, qC, qGW, c0, c1, c2, c3, c4, c5, c6, c7, c8, c9, c10, c11, c12, c13⟩ := HS9.out
      exact hK.out _ _ ⟨fun z9 => qR (fun z => z9 (.inl z)), qX, fun z9 => qC (fun z => z9 (.inl z)), qGW, fun h => c0 (h.resolve_right (by decide)), fun h => c1 (h.resolve_right (by decide)), fun h => c2 (h.resolve_right (by decide)), fun h => c3 (h.resolve_right (by decide)), fun h => c4 (h.resolve_right (by decide)), fun h => c5 (h.resolve_right (by decide)), fun h => c6 (h.resolve_right (by decide)), fun h => c7 (h.resolve_right (by decide)), fun h => c8 (h.resolve_right (by decide)), fun h => c9 (h.resolve_right (by decide)), fun h t0 => c10 (h.resolve_right (by decide)) (fun z => t0 (.inl z)), fun h => c11 (h.resolve_right (by decide)), fun h => c12 (h.resolve_right (by decide)), fun _ => ⟨m, rfl⟩⟩ _ (by simp only [e11] <;> rfl)
    exact RelH.done
  intro L f V0 hL hS
  simp only [puts, Act.put, List.setIfInBounds_toArray, List.set_cons_zero, List.set_cons_succ]
  obtain ⟨qR, qX, qC, qGW, c0, c1, c2, c3, c4, c5, c6, c7, c8, c9, c10, c11, c12, c13⟩ := hS
  have R9 := c12 (hL 12 (by decide))
  have HB := below_of (Below.refl w.heap.size w) qGW (fun k hk => by injection hk with hk; omega)
  obtain ⟨a, e13⟩ := c13 (hL 13 (by decide))
  simp only [e13]
  clear c0 c1 c2 c3 c4 c5 c6 c7 c8 c9 c10 c11 c12 c13 hL e13 qC qX qR
  have q0 := R9.cells 0 _ rfl
  have q1 := R9.cells 1 _ rfl
  have q2 := R9.cells 2 _ rfl
  go_wp2
  exact bodyPost_ret (v := .tuple #[.agg #[.int .i64 x.f0, .int .i64 x.f1, .int .i64 x.f2], .int .i64 a]) (by simp [results, Try.results20, go_sem, q0, q1, q2]) rfl ⟨x, a, rfl, HB⟩
set_option maxHeartbeats 8000000 in
theorem drawNeeded (A : Option Addr) (cap : Nat) (zs : List Int) (w : World) (h : Draw.Src w A zs) : Calls Try.prog 26 #[.slice A zs.length cap] w (D2 w) := by
  have C0 := cu_at (h.below (al (Below.refl _ w) (o := .cells #[.int .i64 0, .int .i64 0, .int .i64 0] 25))) cap (p := w.heap.size + 1) (by rw [size_alloc'])
  have R0 := (Cb.new w [.int .i64 0, .int .i64 0, .int .i64 0] 25 (g := w.heap.size) rfl).alloc (.cells #[.slice A zs.length cap, .int .i64 0, .int .u64 0] 66)
  have G0 : w.grownBy ((w.alloc (.cells #[.int .i64 0, .int .i64 0, .int .i64 0] 25)).alloc (.cells #[.slice A zs.length cap, .int .i64 0, .int .u64 0] 66)) (some (w.heap.size + 1)) := grown_trans (grown_alloc w _ _) (grown_alloc _ _ _)
  have S0 : ((w.alloc (.cells #[.int .i64 0, .int .i64 0, .int .i64 0] 25)).alloc (.cells #[.slice A zs.length cap, .int .i64 0, .int .u64 0] 66)).heap.size = w.heap.size + 1 + 1 := (by rw [size_alloc', size_alloc'])
  have H0 := Lib.hid (And.intro C0 (And.intro R0 (And.intro G0 S0))); clear C0 R0 G0 S0
  go_enter Try.func26, Try.ntmps26
  go_wp2_with fail
  obtain ⟨C0, R, GW, sv⟩ := H0.out
  obtain ⟨B, C⟩ : ∃ B, Cu B zs (w.heap.size + 1) 0 ((w.alloc (.cells #[.int .i64 0, .int .i64 0, .int .i64 0] 25)).alloc (.cells #[.slice A zs.length cap, .int .i64 0, .int .u64 0] 66)) := ⟨_, C0⟩
  clear C0 H0
  generalize (w.alloc (.cells #[.int .i64 0, .int .i64 0, .int .i64 0] 25)).alloc (.cells #[.slice A zs.length cap, .int .i64 0, .int .u64 0] 66) = v at C R GW sv ⊢
  have zw : w.heap.size < w.heap.size + 1 := by omega
  have zv := GW.size
  have hp := C.lt
  have hB := C.base
  generalize hpq : w.heap.size + 1 = p at *
  try go_wp2_with fail
  refine (batch_d B zs p (0) _ C (by omega)).mono ?_
  rintro e u121 ⟨x, rfl, C1, G⟩
  have yu121 : v.heap.size ≤ u121.heap.size := G.size
  replace R := (R).went G (by omega)
  replace GW := grown_trans GW G
  replace C := C1
  clear C1 G
  have zu121 := GW.size
  go_wp2_with fail
  have X := Cb.new u121 [.int .i64 x.f0, .int .i64 x.f1, .int .i64 x.f2] 25 (g := u121.heap.size) rfl
  replace R := (R.alloc (.cells #[.int .i64 x.f0, .int .i64 x.f1, .int .i64 x.f2] 25))
  replace C := (C.alloc (.cells #[.int .i64 x.f0, .int .i64 x.f1, .int .i64 x.f2] 25))
  replace GW := (grown_trans GW (grown_alloc _ (.cells #[.int .i64 x.f0, .int .i64 x.f1, .int .i64 x.f2] 25) _))
  have su122 : (u121.alloc (.cells #[.int .i64 x.f0, .int .i64 x.f1, .int .i64 x.f2] 25)).heap.size = u121.heap.size + 1 := by simp only [size_alloc']
  generalize (u121.alloc (.cells #[.int .i64 x.f0, .int .i64 x.f1, .int .i64 x.f2] 25)) = u122 at X R GW C su122 ⊢
  have zu122 := GW.size
  have hgx : p < u121.heap.size ∧ u121.heap.size ≠ w.heap.size := by omega
  generalize u121.heap.size = gx at *
  obtain ⟨hgx1, hgx2⟩ := hgx
  obtain ⟨h2, y0⟩ : ∃ q, IntKind.i64.wrap (x.f1.tdiv 2) = q := ⟨_, rfl⟩
  obtain ⟨h10, y1⟩ : ∃ q, IntKind.i64.wrap (x.f1.tdiv 10) = q := ⟨_, rfl⟩
  obtain ⟨h50, y2⟩ : ∃ q, IntKind.i64.wrap (x.f1.tdiv 50) = q := ⟨_, rfl⟩
  obtain ⟨K0, hK0, hK1⟩ : ∃ K0 : Nat, K0 ≤ 600000000 ∧ 0 + 20 = K0 := ⟨_, by omega, rfl⟩
  rw [hK1] at C
  clear hK1
  refine wp_region_rel [12, 13, 14, 15, 16, 17, 18, 19, 20, 21, 22, 23, 24, 25, 26, 3, 4] (fun L f w' => (¬ L 15 → Cb w.heap.size [.int .i64 0, .int .i64 0, .int .i64 0] w') ∧ (Cb gx [.int .i64 x.f0, .int .i64 x.f1, .int .i64 x.f2] w') ∧ (¬ L 2 → Cu B zs p K0 w') ∧ (w.grownBy w' (some p)) ∧ (L 2 → ¬ L 14 → Cu B zs p (K0 + 4) w') ∧ (L 0 → f 12 = .agg #[.int .i64 x.f0, .int .i64 x.f1, .int .i64 x.f2]) ∧ (L 1 → f 13 = .pointer (some ⟨p, 0, none⟩)) ∧ (L 2 → ∃ m, f 14 = .int .i64 m) ∧ (L 3 → f 15 = .pointer (some ⟨p, 0, none⟩)) ∧ (L 4 → f 16 = .pointer (some ⟨gx, 1, none⟩)) ∧ (L 5 → f 17 = .int .i64 x.f1) ∧ (L 6 → f 18 = .int .i64 h2) ∧ (L 7 → f 19 = .pointer (some ⟨gx, 1, none⟩)) ∧ (L 8 → f 20 = .int .i64 x.f1) ∧ (L 9 → f 21 = .int .i64 h10) ∧ (L 10 → f 22 = .pointer (some ⟨gx, 1, none⟩)) ∧ (L 11 → f 23 = .int .i64 x.f1) ∧ (L 12 → f 24 = .int .i64 h50) ∧ (L 13 → ¬ L 14 → ∃ gl, f 25 = .slice (some ⟨gl, 0, none⟩) 7 7 ∧ gl ≠ p ∧ Lst w' gl (([0, 1, 5, h2, h10, h50, -1] : List Int).map (Value.int .i64))) ∧ (L 14 → ∃ m, f 26 = .int .i64 m) ∧ (L 15 → Cb w.heap.size [.int .i64 x.f0, .int .i64 x.f1, .int .i64 x.f2] w') ∧ (L 16 → ∃ m, f 3 = .int .i64 m) ∧ (L 17 → ∃ m, f 4 = .int .i64 m)) (by kernel_rfl) (by kernel_rfl) (by kernel_rfl) (fun f => ⟨fun _ => R.more (Below.refl _ _).drew, X.more (Below.refl _ _).drew, fun _ => C.more (Below.refl _ _).drew, grown_more GW (Below.refl _ _).drew, fun h => h.elim, fun h => h.elim, fun h => h.elim, fun h => h.elim, fun h => h.elim, fun h => h.elim, fun h => h.elim, fun h => h.elim, fun h => h.elim, fun h => h.elim, fun h => h.elim, fun h => h.elim, fun h => h.elim, fun h => h.elim, fun h => h.elim, fun h => h.elim, fun h => h.elim, fun h => h.elim, fun h => h.elim⟩) ?_ ?_
  · apply RelH.op2
    · intro L f u K hN hS hK
      simp only [puts, Act.put, List.setIfInBounds_toArray, List.set_cons_zero, List.set_cons_succ, upd, Nat.reduceEqDiff, ↓reduceIte, if_true, if_false] at hK ⊢
      have HS9 := Lib.hid hS
      obtain ⟨qR, qX, qC, qGW, qC1, c0, c1, c2, c3, c4, c5, c6, c7, c8, c9, c10, c11, c12, c13, c14, c15, c16, c17⟩ := hS
      have X_0 := qX.cells 0 _ rfl
      have X_1 := qX.cells 1 _ rfl
      have X_2 := qX.cells 2 _ rfl
      clear qR qC qC1 c0 c1 c2 c3 c4 c5 c6 c7 c8 c9 c10 c11 c12 c13 c14 c15 c16 c17
      go_simp
      obtain ⟨qR, qX, qC, qGW, qC1, c0, c1, c2, c3, c4, c5, c6, c7, c8, c9, c10, c11, c12, c13, c14, c15, c16, c17⟩ := HS9.out
      exact hK.out _ _ ⟨fun z9 => qR (fun z => z9 (.inl z)), qX, fun z9 => qC (fun z => z9 (.inl z)), qGW, fun z8 z9 => qC1 (z8.resolve_right (by decide)) (fun z => z9 (.inl z)), fun _ => rfl, fun h => c1 (h.resolve_right (by decide)), fun h => c2 (h.resolve_right (by decide)), fun h => c3 (h.resolve_right (by decide)), fun h => c4 (h.resolve_right (by decide)), fun h => c5 (h.resolve_right (by decide)), fun h => c6 (h.resolve_right (by decide)), fun h => c7 (h.resolve_right (by decide)), fun h => c8 (h.resolve_right (by decide)), fun h => c9 (h.resolve_right (by decide)), fun h => c10 (h.resolve_right (by decide)), fun h => c11 (h.resolve_right (by decide)), fun h => c12 (h.resolve_right (by decide)), fun h t0 => c13 (h.resolve_right (by decide)) (fun z => t0 (.inl z)), fun h => c14 (h.resolve_right (by decide)), fun h => c15 (h.resolve_right (by decide)), fun h => c16 (h.resolve_right (by decide)), fun h => c17 (h.resolve_right (by decide))⟩ _ rfl
    apply RelH.op2
    · intro L f u K hN hS hK
      simp only [puts, Act.put, List.setIfInBounds_toArray, List.set_cons_zero, List.set_cons_succ, upd, Nat.reduceEqDiff, ↓reduceIte, if_true, if_false] at hK ⊢
      have HS9 := Lib.hid hS
      obtain ⟨qR, qX, qC, qGW, qC1, c0, c1, c2, c3, c4, c5, c6, c7, c8, c9, c10, c11, c12, c13, c14, c15, c16, c17⟩ := hS
      clear qR qC qC1 c0 c1 c2 c3 c4 c5 c6 c7 c8 c9 c10 c11 c12 c13 c14 c15 c16 c17
      go_simp
      obtain ⟨qR, qX, qC, qGW, qC1, c0, c1, c2, c3, c4, c5, c6, c7, c8, c9, c10, c11, c12, c13, c14, c15, c16, c17⟩ := HS9.out
      exact hK.out _ _ ⟨fun z9 => qR (fun z => z9 (.inl z)), qX, fun z9 => qC (fun z => z9 (.inl z)), qGW, fun z8 z9 => qC1 (z8.resolve_right (by decide)) (fun z => z9 (.inl z)), fun h => c0 (h.resolve_right (by decide)), fun _ => rfl, fun h => c2 (h.resolve_right (by decide)), fun h => c3 (h.resolve_right (by decide)), fun h => c4 (h.resolve_right (by decide)), fun h => c5 (h.resolve_right (by decide)), fun h => c6 (h.resolve_right (by decide)), fun h => c7 (h.resolve_right (by decide)), fun h => c8 (h.resolve_right (by decide)), fun h => c9 (h.resolve_right (by decide)), fun h => c10 (h.resolve_right (by decide)), fun h => c11 (h.resolve_right (by decide)), fun h => c12 (h.resolve_right (by decide)), fun h t0 => c13 (h.resolve_right (by decide)) (fun z => t0 (.inl z)), fun h => c14 (h.resolve_right (by decide)), fun h => c15 (h.resolve_right (by decide)), fun h => c16 (h.resolve_right (by decide)), fun h => c17 (h.resolve_right (by decide))⟩ _ rfl
    apply RelH.op2
    · intro L f u K hN hS hK
      simp only [puts, Act.put, List.setIfInBounds_toArray, List.set_cons_zero, List.set_cons_succ, upd, Nat.reduceEqDiff, ↓reduceIte, if_true, if_false] at hK ⊢
      have HS9 := Lib.hid hS
      obtain ⟨qR, qX, qC, qGW, qC1, c0, c1, c2, c3, c4, c5, c6, c7, c8, c9, c10, c11, c12, c13, c14, c15, c16, c17⟩ := hS
      have e1 := c1 (hN.out.2 1 (by decide +kernel))
      have HCON := Lib.hid (water_d B zs p K0 u (qC (hN.out.1 2 (by decide +kernel))) (by omega))
      clear qR qC qC1 c0 c1 c2 c3 c4 c5 c6 c7 c8 c9 c10 c11 c12 c13 c14 c15 c16 c17
      go_simp
      go_at_call 49
      refine HCON.out.mono ?_
      rintro e uw1 ⟨m, rfl, C9, G⟩
      go_wp2_with fail
      obtain ⟨qR, qX, qC, qGW, qC1, c0, c1, c2, c3, c4, c5, c6, c7, c8, c9, c10, c11, c12, c13, c14, c15, c16, c17⟩ := HS9.out
      exact hK.out _ _ ⟨fun z9 => (qR (fun z => z9 (.inl z))).went G (by omega), qX.went G (by omega), fun z9 => (z9 (by simp)).elim, grown_trans qGW G, fun _ _ => C9, fun h => c0 (h.resolve_right (by decide)), fun h => c1 (h.resolve_right (by decide)), fun _ => ⟨m, rfl⟩, fun h => c3 (h.resolve_right (by decide)), fun h => c4 (h.resolve_right (by decide)), fun h => c5 (h.resolve_right (by decide)), fun h => c6 (h.resolve_right (by decide)), fun h => c7 (h.resolve_right (by decide)), fun h => c8 (h.resolve_right (by decide)), fun h => c9 (h.resolve_right (by decide)), fun h => c10 (h.resolve_right (by decide)), fun h => c11 (h.resolve_right (by decide)), fun h => c12 (h.resolve_right (by decide)), fun h t0 => (let ⟨gl, h1, h2, T⟩ := (c13 (h.resolve_right (by decide)) (fun z => t0 (.inl z))); ⟨gl, h1, h2, T.went G h2⟩), fun h => c14 (h.resolve_right (by decide)), fun h => ((c15 (h.resolve_right (by decide)))).went G (by omega), fun h => c16 (h.resolve_right (by decide)), fun h => c17 (h.resolve_right (by decide))⟩ _ (by simp only [e1] <;> rfl)
    apply RelH.op2
    · intro L f u K hN hS hK
      simp only [puts, Act.put, List.setIfInBounds_toArray, List.set_cons_zero, List.set_cons_succ, upd, Nat.reduceEqDiff, ↓reduceIte, if_true, if_false] at hK ⊢
      have HS9 := Lib.hid hS
      obtain ⟨qR, qX, qC, qGW, qC1, c0, c1, c2, c3, c4, c5, c6, c7, c8, c9, c10, c11, c12, c13, c14, c15, c16, c17⟩ := hS
      clear qR qC qC1 c0 c1 c2 c3 c4 c5 c6 c7 c8 c9 c10 c11 c12 c13 c14 c15 c16 c17
      go_simp
      obtain ⟨qR, qX, qC, qGW, qC1, c0, c1, c2, c3, c4, c5, c6, c7, c8, c9, c10, c11, c12, c13, c14, c15, c16, c17⟩ := HS9.out
      exact hK.out _ _ ⟨fun z9 => qR (fun z => z9 (.inl z)), qX, fun z9 => qC (fun z => z9 (.inl z)), qGW, fun z8 z9 => qC1 (z8.resolve_right (by decide)) (fun z => z9 (.inl z)), fun h => c0 (h.resolve_right (by decide)), fun h => c1 (h.resolve_right (by decide)), fun h => c2 (h.resolve_right (by decide)), fun _ => rfl, fun h => c4 (h.resolve_right (by decide)), fun h => c5 (h.resolve_right (by decide)), fun h => c6 (h.resolve_right (by decide)), fun h => c7 (h.resolve_right (by decide)), fun h => c8 (h.resolve_right (by decide)), fun h => c9 (h.resolve_right (by decide)), fun h => c10 (h.resolve_right (by decide)), fun h => c11 (h.resolve_right (by decide)), fun h => c12 (h.resolve_right (by decide)), fun h t0 => c13 (h.resolve_right (by decide)) (fun z => t0 (.inl z)), fun h => c14 (h.resolve_right (by decide)), fun h => c15 (h.resolve_right (by decide)), fun h => c16 (h.resolve_right (by decide)), fun h => c17 (h.resolve_right (by decide))⟩ _ rfl
    apply RelH.op2
    · intro L f u K hN hS hK
      simp only [puts, Act.put, List.setIfInBounds_toArray, List.set_cons_zero, List.set_cons_succ, upd, Nat.reduceEqDiff, ↓reduceIte, if_true, if_false] at hK ⊢
      have HS9 := Lib.hid hS
      obtain ⟨qR, qX, qC, qGW, qC1, c0, c1, c2, c3, c4, c5, c6, c7, c8, c9, c10, c11, c12, c13, c14, c15, c16, c17⟩ := hS
      clear qR qC qC1 c0 c1 c2 c3 c4 c5 c6 c7 c8 c9 c10 c11 c12 c13 c14 c15 c16 c17
      go_simp
      obtain ⟨qR, qX, qC, qGW, qC1, c0, c1, c2, c3, c4, c5, c6, c7, c8, c9, c10, c11, c12, c13, c14, c15, c16, c17⟩ := HS9.out
      exact hK.out _ _ ⟨fun z9 => qR (fun z => z9 (.inl z)), qX, fun z9 => qC (fun z => z9 (.inl z)), qGW, fun z8 z9 => qC1 (z8.resolve_right (by decide)) (fun z => z9 (.inl z)), fun h => c0 (h.resolve_right (by decide)), fun h => c1 (h.resolve_right (by decide)), fun h => c2 (h.resolve_right (by decide)), fun h => c3 (h.resolve_right (by decide)), fun _ => rfl, fun h => c5 (h.resolve_right (by decide)), fun h => c6 (h.resolve_right (by decide)), fun h => c7 (h.resolve_right (by decide)), fun h => c8 (h.resolve_right (by decide)), fun h => c9 (h.resolve_right (by decide)), fun h => c10 (h.resolve_right (by decide)), fun h => c11 (h.resolve_right (by decide)), fun h => c12 (h.resolve_right (by decide)), fun h t0 => c13 (h.resolve_right (by decide)) (fun z => t0 (.inl z)), fun h => c14 (h.resolve_right (by decide)), fun h => c15 (h.resolve_right (by decide)), fun h => c16 (h.resolve_right (by decide)), fun h => c17 (h.resolve_right (by decide))⟩ _ rfl
    apply RelH.op2
    · intro L f u K hN hS hK
      simp only [puts, Act.put, List.setIfInBounds_toArray, List.set_cons_zero, List.set_cons_succ, upd, Nat.reduceEqDiff, ↓reduceIte, if_true, if_false] at hK ⊢
      have HS9 := Lib.hid hS
      obtain ⟨qR, qX, qC, qGW, qC1, c0, c1, c2, c3, c4, c5, c6, c7, c8, c9, c10, c11, c12, c13, c14, c15, c16, c17⟩ := hS
      have e4 := c4 (hN.out.2 4 (by decide +kernel))
      have X_0 := qX.cells 0 _ rfl
      have X_1 := qX.cells 1 _ rfl
      have X_2 := qX.cells 2 _ rfl
      clear qR qC qC1 c0 c1 c2 c3 c4 c5 c6 c7 c8 c9 c10 c11 c12 c13 c14 c15 c16 c17
      go_simp
      obtain ⟨qR, qX, qC, qGW, qC1, c0, c1, c2, c3, c4, c5, c6, c7, c8, c9, c10, c11, c12, c13, c14, c15, c16, c17⟩ := HS9.out
      exact hK.out _ _ ⟨fun z9 => qR (fun z => z9 (.inl z)), qX, fun z9 => qC (fun z => z9 (.inl z)), qGW, fun z8 z9 => qC1 (z8.resolve_right (by decide)) (fun z => z9 (.inl z)), fun h => c0 (h.resolve_right (by decide)), fun h => c1 (h.resolve_right (by decide)), fun h => c2 (h.resolve_right (by decide)), fun h => c3 (h.resolve_right (by decide)), fun h => c4 (h.resolve_right (by decide)), fun _ => rfl, fun h => c6 (h.resolve_right (by decide)), fun h => c7 (h.resolve_right (by decide)), fun h => c8 (h.resolve_right (by decide)), fun h => c9 (h.resolve_right (by decide)), fun h => c10 (h.resolve_right (by decide)), fun h => c11 (h.resolve_right (by decide)), fun h => c12 (h.resolve_right (by decide)), fun h t0 => c13 (h.resolve_right (by decide)) (fun z => t0 (.inl z)), fun h => c14 (h.resolve_right (by decide)), fun h => c15 (h.resolve_right (by decide)), fun h => c16 (h.resolve_right (by decide)), fun h => c17 (h.resolve_right (by decide))⟩ _ (by simp only [e4] <;> rfl)
    apply RelH.op2
    · intro L f u K hN hS hK
      simp only [puts, Act.put, List.setIfInBounds_toArray, List.set_cons_zero, List.set_cons_succ, upd, Nat.reduceEqDiff, ↓reduceIte, if_true, if_false] at hK ⊢
      have HS9 := Lib.hid hS
      obtain ⟨qR, qX, qC, qGW, qC1, c0, c1, c2, c3, c4, c5, c6, c7, c8, c9, c10, c11, c12, c13, c14, c15, c16, c17⟩ := hS
      have e5 := c5 (hN.out.2 5 (by decide +kernel))
      clear qR qC qC1 c0 c1 c2 c3 c4 c5 c6 c7 c8 c9 c10 c11 c12 c13 c14 c15 c16 c17
      go_simp
      obtain ⟨qR, qX, qC, qGW, qC1, c0, c1, c2, c3, c4, c5, c6, c7, c8, c9, c10, c11, c12, c13, c14, c15, c16, c17⟩ := HS9.out
      exact hK.out _ _ ⟨fun z9 => qR (fun z => z9 (.inl z)), qX, fun z9 => qC (fun z => z9 (.inl z)), qGW, fun z8 z9 => qC1 (z8.resolve_right (by decide)) (fun z => z9 (.inl z)), fun h => c0 (h.resolve_right (by decide)), fun h => c1 (h.resolve_right (by decide)), fun h => c2 (h.resolve_right (by decide)), fun h => c3 (h.resolve_right (by decide)), fun h => c4 (h.resolve_right (by decide)), fun h => c5 (h.resolve_right (by decide)), fun _ => rfl, fun h => c7 (h.resolve_right (by decide)), fun h => c8 (h.resolve_right (by decide)), fun h => c9 (h.resolve_right (by decide)), fun h => c10 (h.resolve_right (by decide)), fun h => c11 (h.resolve_right (by decide)), fun h => c12 (h.resolve_right (by decide)), fun h t0 => c13 (h.resolve_right (by decide)) (fun z => t0 (.inl z)), fun h => c14 (h.resolve_right (by decide)), fun h => c15 (h.resolve_right (by decide)), fun h => c16 (h.resolve_right (by decide)), fun h => c17 (h.resolve_right (by decide))⟩ _ (by simp only [e5] <;> rfl)
    apply RelH.op2
    · intro L f u K hN hS hK
      simp only [puts, Act.put, List.setIfInBounds_toArray, List.set_cons_zero, List.set_cons_succ, upd, Nat.reduceEqDiff, ↓reduceIte, if_true, if_false] at hK ⊢
      have HS9 := Lib.hid hS
      obtain ⟨qR, qX, qC, qGW, qC1, c0, c1, c2, c3, c4, c5, c6, c7, c8, c9, c10, c11, c12, c13, c14, c15, c16, c17⟩ := hS
      clear qR qC qC1 c0 c1 c2 c3 c4 c5 c6 c7 c8 c9 c10 c11 c12 c13 c14 c15 c16 c17
      go_simp
      obtain ⟨qR, qX, qC, qGW, qC1, c0, c1, c2, c3, c4, c5, c6, c7, c8, c9, c10, c11, c12, c13, c14, c15, c16, c17⟩ := HS9.out
      exact hK.out _ _ ⟨fun z9 => qR (fun z => z9 (.inl z)), qX, fun z9 => qC (fun z => z9 (.inl z)), qGW, fun z8 z9 => qC1 (z8.resolve_right (by decide)) (fun z => z9 (.inl z)), fun h => c0 (h.resolve_right (by decide)), fun h => c1 (h.resolve_right (by decide)), fun h => c2 (h.resolve_right (by decide)), fun h => c3 (h.resolve_right (by decide)), fun h => c4 (h.resolve_right (by decide)), fun h => c5 (h.resolve_right (by decide)), fun h => c6 (h.resolve_right (by decide)), fun _ => rfl, fun h => c8 (h.resolve_right (by decide)), fun h => c9 (h.resolve_right (by decide)), fun h => c10 (h.resolve_right (by decide)), fun h => c11 (h.resolve_right (by decide)), fun h => c12 (h.resolve_right (by decide)), fun h t0 => c13 (h.resolve_right (by decide)) (fun z => t0 (.inl z)), fun h => c14 (h.resolve_right (by decide)), fun h => c15 (h.resolve_right (by decide)), fun h => c16 (h.resolve_right (by decide)), fun h => c17 (h.resolve_right (by decide))⟩ _ rfl
    apply RelH.op2
    · intro L f u K hN hS hK
      simp only [puts, Act.put, List.setIfInBounds_toArray, List.set_cons_zero, List.set_cons_succ, upd, Nat.reduceEqDiff, ↓reduceIte, if_true, if_false] at hK ⊢
      have HS9 := Lib.hid hS
      obtain ⟨qR, qX, qC, qGW, qC1, c0, c1, c2, c3, c4, c5, c6, c7, c8, c9, c10, c11, c12, c13, c14, c15, c16, c17⟩ := hS
      have e7 := c7 (hN.out.2 7 (by decide +kernel))
      have X_0 := qX.cells 0 _ rfl
      have X_1 := qX.cells 1 _ rfl
      have X_2 := qX.cells 2 _ rfl
      clear qR qC qC1 c0 c1 c2 c3 c4 c5 c6 c7 c8 c9 c10 c11 c12 c13 c14 c15 c16 c17
      go_simp
      obtain ⟨qR, qX, qC, qGW, qC1, c0, c1, c2, c3, c4, c5, c6, c7, c8, c9, c10, c11, c12, c13, c14, c15, c16, c17⟩ := HS9.out
      exact hK.out _ _ ⟨fun z9 => qR (fun z => z9 (.inl z)), qX, fun z9 => qC (fun z => z9 (.inl z)), qGW, fun z8 z9 => qC1 (z8.resolve_right (by decide)) (fun z => z9 (.inl z)), fun h => c0 (h.resolve_right (by decide)), fun h => c1 (h.resolve_right (by decide)), fun h => c2 (h.resolve_right (by decide)), fun h => c3 (h.resolve_right (by decide)), fun h => c4 (h.resolve_right (by decide)), fun h => c5 (h.resolve_right (by decide)), fun h => c6 (h.resolve_right (by decide)), fun h => c7 (h.resolve_right (by decide)), fun _ => rfl, fun h => c9 (h.resolve_right (by decide)), fun h => c10 (h.resolve_right (by decide)), fun h => c11 (h.resolve_right (by decide)), fun h => c12 (h.resolve_right (by decide)), fun h t0 => c13 (h.resolve_right (by decide)) (fun z => t0 (.inl z)), fun h => c14 (h.resolve_right (by decide)), fun h => c15 (h.resolve_right (by decide)), fun h => c16 (h.resolve_right (by decide)), fun h => c17 (h.resolve_right (by decide))⟩ _ (by simp only [e7] <;> rfl)
    apply RelH.op2
    · intro L f u K hN hS hK
      simp only [puts, Act.put, List.setIfInBounds_toArray, List.set_cons_zero, List.set_cons_succ, upd, Nat.reduceEqDiff, ↓reduceIte, if_true, if_false] at hK ⊢
      have HS9 := Lib.hid hS
      obtain ⟨qR, qX, qC, qGW, qC1, c0, c1, c2, c3, c4, c5, c6, c7, c8, c9, c10, c11, c12, c13, c14, c15, c16, c17⟩ := hS
      have e8 := c8 (hN.out.2 8 (by decide +kernel))
      clear qR qC qC1 c0 c1 c2 c3 c4 c5 c6 c7 c8 c9 c10 c11 c12 c13 c14 c15 c16 c17
      go_simp
      obtain ⟨qR, qX, qC, qGW, qC1, c0, c1, c2, c3, c4, c5, c6, c7, c8, c9, c10, c11, c12, c13, c14, c15, c16, c17⟩ := HS9.out
      exact hK.out _ _ ⟨fun z9 => qR (fun z => z9 (.inl z)), qX, fun z9 => qC (fun z => z9 (.inl z)), qGW, fun z8 z9 => qC1 (z8.resolve_right (by decide)) (fun z => z9 (.inl z)), fun h => c0 (h.resolve_right (by decide)), fun h => c1 (h.resolve_right (by decide)), fun h => c2 (h.resolve_right (by decide)), fun h => c3 (h.resolve_right (by decide)), fun h => c4 (h.resolve_right (by decide)), fun h => c5 (h.resolve_right (by decide)), fun h => c6 (h.resolve_right (by decide)), fun h => c7 (h.resolve_right (by decide)), fun h => c8 (h.resolve_right (by decide)), fun _ => rfl, fun h => c10 (h.resolve_right (by decide)), fun h => c11 (h.resolve_right (by decide)), fun h => c12 (h.resolve_right (by decide)), fun h t0 => c13 (h.resolve_right (by decide)) (fun z => t0 (.inl z)), fun h => c14 (h.resolve_right (by decide)), fun h => c15 (h.resolve_right (by decide)), fun h => c16 (h.resolve_right (by decide)), fun h => c17 (h.resolve_right (by decide))⟩ _ (by simp only [e8] <;> rfl)
    apply RelH.op2
    · intro L f u K hN hS hK
      simp only [puts, Act.put, List.setIfInBounds_toArray, List.set_cons_zero, List.set_cons_succ, upd, Nat.reduceEqDiff, ↓reduceIte, if_true, if_false] at hK ⊢
      have HS9 := Lib.hid hS
      obtain ⟨qR, qX, qC, qGW, qC1, c0, c1, c2, c3, c4, c5, c6, c7, c8, c9, c10, c11, c12, c13, c14, c15, c16, c17⟩ := hS
      clear qR qC qC1 c0 c1 c2 c3 c4 c5 c6 c7 c8 c9 c10 c11 c12 c13 c14 c15 c16 c17
      go_simp
      obtain ⟨qR, qX, qC, qGW, qC1, c0, c1, c2, c3, c4, c5, c6, c7, c8, c9, c10, c11, c12, c13, c14, c15, c16, c17⟩ := HS9.out
      exact hK.out _ _ ⟨fun z9 => qR (fun z => z9 (.inl z)), qX, fun z9 => qC (fun z => z9 (.inl z)), qGW, fun z8 z9 => qC1 (z8.resolve_right (by decide)) (fun z => z9 (.inl z)), fun h => c0 (h.resolve_right (by decide)), fun h => c1 (h.resolve_right (by decide)), fun h => c2 (h.resolve_right (by decide)), fun h => c3 (h.resolve_right (by decide)), fun h => c4 (h.resolve_right (by decide)), fun h => c5 (h.resolve_right (by decide)), fun h => c6 (h.resolve_right (by decide)), fun h => c7 (h.resolve_right (by decide)), fun h => c8 (h.resolve_right (by decide)), fun h => c9 (h.resolve_right (by decide)), fun _ => rfl, fun h => c11 (h.resolve_right (by decide)), fun h => c12 (h.resolve_right (by decide)), fun h t0 => c13 (h.resolve_right (by decide)) (fun z => t0 (.inl z)), fun h => c14 (h.resolve_right (by decide)), fun h => c15 (h.resolve_right (by decide)), fun h => c16 (h.resolve_right (by decide)), fun h => c17 (h.resolve_right (by decide))⟩ _ rfl
    apply RelH.op2
    · intro L f u K hN hS hK
      simp only [puts, Act.put, List.setIfInBounds_toArray, List.set_cons_zero, List.set_cons_succ, upd, Nat.reduceEqDiff, ↓reduceIte, if_true, if_false] at hK ⊢
      have HS9 := Lib.hid hS
      obtain ⟨qR, qX, qC, qGW, qC1, c0, c1, c2, c3, c4, c5, c6, c7, c8, c9, c10, c11, c12, c13, c14, c15, c16, c17⟩ := hS
      have e10 := c10 (hN.out.2 10 (by decide +kernel))
      have X_0 := qX.cells 0 _ rfl
      have X_1 := qX.cells 1 _ rfl
      have X_2 := qX.cells 2 _ rfl
      clear qR qC qC1 c0 c1 c2 c3 c4 c5 c6 c7 c8 c9 c10 c11 c12 c13 c14 c15 c16 c17
      go_simp
      obtain ⟨qR, qX, qC, qGW, qC1, c0, c1, c2, c3, c4, c5, c6, c7, c8, c9, c10, c11, c12, c13, c14, c15, c16, c17⟩ := HS9.out
      exact hK.out _ _ ⟨fun z9 => qR (fun z => z9 (.inl z)), qX, fun z9 => qC (fun z => z9 (.inl z)), qGW, fun z8 z9 => qC1 (z8.resolve_right (by decide)) (fun z => z9 (.inl z)), fun h => c0 (h.resolve_right (by decide)), fun h => c1 (h.resolve_right (by decide)), fun h => c2 (h.resolve_right (by decide)), fun h => c3 (h.resolve_right (by decide)), fun h => c4 (h.resolve_right (by decide)), fun h => c5 (h.resolve_right (by decide)), fun h => c6 (h.resolve_right (by decide)), fun h => c7 (h.resolve_right (by decide)), fun h => c8 (h.resolve_right (by decide)), fun h => c9 (h.resolve_right (by decide)), fun h => c10 (h.resolve_right (by decide)), fun _ => rfl, fun h => c12 (h.resolve_right (by decide)), fun h t0 => c13 (h.resolve_right (by decide)) (fun z => t0 (.inl z)), fun h => c14 (h.resolve_right (by decide)), fun h => c15 (h.resolve_right (by decide)), fun h => c16 (h.resolve_right (by decide)), fun h => c17 (h.resolve_right (by decide))⟩ _ (by simp only [e10] <;> rfl)
    apply RelH.op2
    · intro L f u K hN hS hK
      simp only [puts, Act.put, List.setIfInBounds_toArray, List.set_cons_zero, List.set_cons_succ, upd, Nat.reduceEqDiff, ↓reduceIte, if_true, if_false] at hK ⊢
      have HS9 := Lib.hid hS
      obtain ⟨qR, qX, qC, qGW, qC1, c0, c1, c2, c3, c4, c5, c6, c7, c8, c9, c10, c11, c12, c13, c14, c15, c16, c17⟩ := hS
      have e11 := c11 (hN.out.2 11 (by decide +kernel))
      clear qR qC qC1 c0 c1 c2 c3 c4 c5 c6 c7 c8 c9 c10 c11 c12 c13 c14 c15 c16 c17
      go_simp
      obtain ⟨qR, qX, qC, qGW, qC1, c0, c1, c2, c3, c4, c5, c6, c7, c8, c9, c10, c11, c12, c13, c14, c15, c16, c17⟩ := HS9.out
      exact hK.out _ _ ⟨fun z9 => qR (fun z => z9 (.inl z)), qX, fun z9 => qC (fun z => z9 (.inl z)), qGW, fun z8 z9 => qC1 (z8.resolve_right (by decide)) (fun z => z9 (.inl z)), fun h => c0 (h.resolve_right (by decide)), fun h => c1 (h.resolve_right (by decide)), fun h => c2 (h.resolve_right (by decide)), fun h => c3 (h.resolve_right (by decide)), fun h => c4 (h.resolve_right (by decide)), fun h => c5 (h.resolve_right (by decide)), fun h => c6 (h.resolve_right (by decide)), fun h => c7 (h.resolve_right (by decide)), fun h => c8 (h.resolve_right (by decide)), fun h => c9 (h.resolve_right (by decide)), fun h => c10 (h.resolve_right (by decide)), fun h => c11 (h.resolve_right (by decide)), fun _ => rfl, fun h t0 => c13 (h.resolve_right (by decide)) (fun z => t0 (.inl z)), fun h => c14 (h.resolve_right (by decide)), fun h => c15 (h.resolve_right (by decide)), fun h => c16 (h.resolve_right (by decide)), fun h => c17 (h.resolve_right (by decide))⟩ _ (by simp only [e11] <;> rfl)
    apply RelH.op2
    · intro L f u K hN hS hK
      simp only [puts, Act.put, List.setIfInBounds_toArray, List.set_cons_zero, List.set_cons_succ, upd, Nat.reduceEqDiff, ↓reduceIte, if_true, if_false] at hK ⊢
      have HS9 := Lib.hid hS
      obtain ⟨qR, qX, qC, qGW, qC1, c0, c1, c2, c3, c4, c5, c6, c7, c8, c9, c10, c11, c12, c13, c14, c15, c16, c17⟩ := hS
      have e6 := c6 (hN.out.2 6 (by decide +kernel))
      have e9 := c9 (hN.out.2 9 (by decide +kernel))
      have e12 := c12 (hN.out.2 12 (by decide +kernel))
      have hT := lst_at u [Value.int .i64 0, Value.int .i64 1, Value.int .i64 5, Value.int .i64 h2, Value.int .i64 h10, Value.int .i64 h50, Value.int .i64 (-1)] 3 (g := u.heap.size) rfl
      have hpu : p < u.heap.size := by have := qX.there; omega
      clear qR qC qC1 c0 c1 c2 c3 c4 c5 c6 c7 c8 c9 c10 c11 c12 c13 c14 c15 c16 c17
      go_simp
      obtain ⟨qR, qX, qC, qGW, qC1, c0, c1, c2, c3, c4, c5, c6, c7, c8, c9, c10, c11, c12, c13, c14, c15, c16, c17⟩ := HS9.out
      exact hK.out _ _ ⟨fun z9 => (qR (fun z => z9 (.inl z))).alloc _, qX.alloc _, fun z9 => (qC (fun z => z9 (.inl z))).alloc _, grown_trans qGW (grown_alloc _ _ _), fun z8 z9 => (qC1 (z8.resolve_right (by decide)) (fun z => z9 (.inl z))).alloc _, fun h => c0 (h.resolve_right (by decide)), fun h => c1 (h.resolve_right (by decide)), fun h => c2 (h.resolve_right (by decide)), fun h => c3 (h.resolve_right (by decide)), fun h => c4 (h.resolve_right (by decide)), fun h => c5 (h.resolve_right (by decide)), fun h => c6 (h.resolve_right (by decide)), fun h => c7 (h.resolve_right (by decide)), fun h => c8 (h.resolve_right (by decide)), fun h => c9 (h.resolve_right (by decide)), fun h => c10 (h.resolve_right (by decide)), fun h => c11 (h.resolve_right (by decide)), fun h => c12 (h.resolve_right (by decide)), fun _ _ => ⟨_, rfl, by omega, hT⟩, fun h => c14 (h.resolve_right (by decide)), fun h => ((c15 (h.resolve_right (by decide)))).alloc _, fun h => c16 (h.resolve_right (by decide)), fun h => c17 (h.resolve_right (by decide))⟩ _ (by simp only [e6, e9, e12] <;> rfl)
    apply RelH.op2
    · intro L f u K hN hS hK
      simp only [puts, Act.put, List.setIfInBounds_toArray, List.set_cons_zero, List.set_cons_succ, upd, Nat.reduceEqDiff, ↓reduceIte, if_true, if_false] at hK ⊢
      have HS9 := Lib.hid hS
      obtain ⟨qR, qX, qC, qGW, qC1, c0, c1, c2, c3, c4, c5, c6, c7, c8, c9, c10, c11, c12, c13, c14, c15, c16, c17⟩ := hS
      have e3 := c3 (hN.out.2 3 (by decide +kernel))
      obtain ⟨gl, e13, h9, T⟩ := c13 (hN.out.2 13 (by decide +kernel)) (hN.out.1 14 (by decide +kernel))
      have HCON := Lib.hid (among_d B zs p (K0 + 4) u gl 7 [0, 1, 5, h2, h10, h50, -1] (qC1 (hN.out.2 2 (by decide +kernel)) (hN.out.1 14 (by decide +kernel))) (by omega) T h9 (by simp) (by simp))
      clear qR qC qC1 c0 c1 c2 c3 c4 c5 c6 c7 c8 c9 c10 c11 c12 c13 c14 c15 c16 c17
      go_simp
      go_at_call 51
      refine HCON.out.mono ?_
      rintro e uw1 ⟨m, hm, rfl, C9, G⟩
      go_wp2_with fail
      obtain ⟨qR, qX, qC, qGW, qC1, c0, c1, c2, c3, c4, c5, c6, c7, c8, c9, c10, c11, c12, c13, c14, c15, c16, c17⟩ := HS9.out
      exact hK.out _ _ ⟨fun z9 => (qR (fun z => z9 (.inl z))).went G (by omega), qX.went G (by omega), fun z9 => (z9 (.inl (hN.out.2 2 (by decide +kernel)))).elim, grown_trans qGW G, fun _ z9 => (z9 (by simp)).elim, fun h => c0 (h.resolve_right (by decide)), fun h => c1 (h.resolve_right (by decide)), fun h => c2 (h.resolve_right (by decide)), fun h => c3 (h.resolve_right (by decide)), fun h => c4 (h.resolve_right (by decide)), fun h => c5 (h.resolve_right (by decide)), fun h => c6 (h.resolve_right (by decide)), fun h => c7 (h.resolve_right (by decide)), fun h => c8 (h.resolve_right (by decide)), fun h => c9 (h.resolve_right (by decide)), fun h => c10 (h.resolve_right (by decide)), fun h => c11 (h.resolve_right (by decide)), fun h => c12 (h.resolve_right (by decide)), fun h t0 => (t0 (by simp)).elim, fun _ => ⟨m, rfl⟩, fun h => ((c15 (h.resolve_right (by decide)))).went G (by omega), fun h => c16 (h.resolve_right (by decide)), fun h => c17 (h.resolve_right (by decide))⟩ _ (by simp only [e3, e13] <;> rfl)
    apply RelH.op2
    · intro L f u K hN hS hK
      simp only [puts, Act.put, List.setIfInBounds_toArray, List.set_cons_zero, List.set_cons_succ, upd, Nat.reduceEqDiff, ↓reduceIte, if_true, if_false] at hK ⊢
      have HS9 := Lib.hid hS
      obtain ⟨qR, qX, qC, qGW, qC1, c0, c1, c2, c3, c4, c5, c6, c7, c8, c9, c10, c11, c12, c13, c14, c15, c16, c17⟩ := hS
      have e0 := c0 (hN.out.2 0 (by decide +kernel))
      have qR1 := qR (hN.out.1 15 (by decide +kernel))
      have R_0 := qR1.cells 0 _ rfl
      have R_1 := qR1.cells 1 _ rfl
      have R_2 := qR1.cells 2 _ rfl
      have R_f0 := qR1.free 0 (by simp)
      have R_f1 := qR1.free 1 (by simp)
      have R_f2 := qR1.free 2 (by simp)
      clear qR qC qC1 c0 c1 c2 c3 c4 c5 c6 c7 c8 c9 c10 c11 c12 c13 c14 c15 c16 c17
      go_simp
      obtain ⟨qR, qX, qC, qGW, qC1, c0, c1, c2, c3, c4, c5, c6, c7, c8, c9, c10, c11, c12, c13, c14, c15, c16, c17⟩ := HS9.out
      exact hK.out undef _ ⟨fun z9 => (z9 (by simp)).elim, (((qX.far (k := w.heap.size) (by omega) 0 (.int .i64 x.f0)).far (k := w.heap.size) (by omega) 1 (.int .i64 x.f1)).far (k := w.heap.size) (by omega) 2 (.int .i64 x.f2)), fun z9 => (z9 (.inl (hN.out.2 2 (by decide +kernel)))).elim, (grown_set (grown_set (grown_set qGW (Nat.le_refl _) 0 (.int .i64 x.f0)) (Nat.le_refl _) 1 (.int .i64 x.f1)) (Nat.le_refl _) 2 (.int .i64 x.f2)), fun _ z9 => (z9 (.inl (hN.out.2 14 (by decide +kernel)))).elim, fun h => c0 (h.resolve_right (by decide)), fun h => c1 (h.resolve_right (by decide)), fun h => c2 (h.resolve_right (by decide)), fun h => c3 (h.resolve_right (by decide)), fun h => c4 (h.resolve_right (by decide)), fun h => c5 (h.resolve_right (by decide)), fun h => c6 (h.resolve_right (by decide)), fun h => c7 (h.resolve_right (by decide)), fun h => c8 (h.resolve_right (by decide)), fun h => c9 (h.resolve_right (by decide)), fun h => c10 (h.resolve_right (by decide)), fun h => c11 (h.resolve_right (by decide)), fun h => c12 (h.resolve_right (by decide)), fun _ t0 => (t0 (.inl (hN.out.2 14 (by decide +kernel)))).elim, fun h => c14 (h.resolve_right (by decide)), fun _ => ((qR1.set 0 (.int .i64 x.f0)).set 1 (.int .i64 x.f1)).set 2 (.int .i64 x.f2), fun h => c16 (h.resolve_right (by decide)), fun h => c17 (h.resolve_right (by decide))⟩ _ (by simp only [e0] <;> rfl)
    apply RelH.op2
    · intro L f u K hN hS hK
      simp only [puts, Act.put, List.setIfInBounds_toArray, List.set_cons_zero, List.set_cons_succ, upd, Nat.reduceEqDiff, ↓reduceIte, if_true, if_false] at hK ⊢
      have HS9 := Lib.hid hS
      obtain ⟨qR, qX, qC, qGW, qC1, c0, c1, c2, c3, c4, c5, c6, c7, c8, c9, c10, c11, c12, c13, c14, c15, c16, c17⟩ := hS
      obtain ⟨m, e2⟩ := c2 (hN.out.2 2 (by decide +kernel))
      clear qR qC qC1 c0 c1 c2 c3 c4 c5 c6 c7 c8 c9 c10 c11 c12 c13 c14 c15 c16 c17
      go_simp
      obtain ⟨qR, qX, qC, qGW, qC1, c0, c1, c2, c3, c4, c5, c6, c7, c8, c9, c10, c11, c12, c13, c14, c15, c16, c17⟩ := HS9.out
      exact hK.out _ _ ⟨fun z9 => qR (fun z => z9 (.inl z)), qX, fun z9 => qC (fun z => z9 (.inl z)), qGW, fun z8 z9 => qC1 (z8.resolve_right (by decide)) (fun z => z9 (.inl z)), fun h => c0 (h.resolve_right (by decide)), fun h => c1 (h.resolve_right (by decide)), fun h => c2 (h.resolve_right (by decide)), fun h => c3 (h.resolve_right (by decide)), fun h => c4 (h.resolve_right (by decide)), fun h => c5 (h.resolve_right (by decide)), fun h => c6 (h.resolve_right (by decide)), fun h => c7 (h.resolve_right (by decide)), fun h => c8 (h.resolve_right (by decide)), fun h => c9 (h.resolve_right (by decide)), fun h => c10 (h.resolve_right (by decide)), fun h => c11 (h.resolve_right (by decide)), fun h => c12 (h.resolve_right (by decide)), fun h t0 => c13 (h.resolve_right (by decide)) (fun z => t0 (.inl z)), fun h => c14 (h.resolve_right (by decide)), fun h => c15 (h.resolve_right (by decide)), fun _ => ⟨m, rfl⟩, fun h => c17 (h.resolve_right (by decide))⟩ _ (by simp only [e2] <;> rfl)
    apply RelH.op2
    · intro L f u K hN hS hK
      simp only [puts, Act.put, List.setIfInBounds_toArray, List.set_cons_zero, List.set_cons_succ, upd, Nat.reduceEqDiff, ↓reduceIte, if_true, if_false] at hK ⊢
      have HS9 := Lib.hid hS
      obtain ⟨qR, qX, qC, qGW, qC1, c0, c1, c2, c3, c4, c5, c6, c7, c8, c9, c10, c11, c12, c13, c14, c15, c16, c17⟩ := hS
      obtain ⟨m, e14⟩ := c14 (hN.out.2 14 (by decide +kernel))
      clear qR qC qC1 c0 c1 c2 c3 c4 c5 c6 c7 c8 c9 c10 c11 c12 c13 c14 c15 c16 c17
      go_simp
      obtain ⟨qR, qX, qC, qGW, qC1, c0, c1, c2, c3, c4, c5, c6, c7, c8, c9, c10, c11, c12, c13, c14, c15, c16, c17⟩ := HS9.out
      exact hK.out _ _ ⟨fun z9 => qR (fun z => z9 (.inl z)), qX, fun z9 => qC (fun z => z9 (.inl z)), qGW, fun z8 z9 => qC1 (z8.resolve_right (by decide)) (fun z => z9 (.inl z)), fun h => c0 (h.resolve_right (by decide)), fun h => c1 (h.resolve_right (by decide)), fun h => c2 (h.resolve_right (by decide)), fun h => c3 (h.resolve_right (by decide)), fun h => c4 (h.resolve_right (by decide)), fun h => c5 (h.resolve_right (by decide)), fun h => c6 (h.resolve_right (by decide)), fun h => c7 (h.resolve_right (by decide)), fun h => c8 (h.resolve_right (by decide)), fun h => c9 (h.resolve_right (by decide)), fun h => c10 (h.resolve_right (by decide)), fun h => c11 (h.resolve_right (by decide)), fun h => c12 (h.resolve_right (by decide)), fun h t0 => c13 (h.resolve_right (by decide)) (fun z => t0 (.inl z)), fun h => c14 (h.resolve_right (by decide)), fun h => c15 (h.resolve_right (by decide)), fun h => c16 (h.resolve_right (by decide)), fun _ => ⟨m, rfl⟩⟩ _ (by simp only [e14] <;> rfl)
    exact RelH.done
  intro L f V0 hL hS
  simp only [puts, Act.put, List.setIfInBounds_toArray, List.set_cons_zero, List.set_cons_succ]
  obtain ⟨qR, qX, qC, qGW, qC1, c0, c1, c2, c3, c4, c5, c6, c7, c8, c9, c10, c11, c12, c13, c14, c15, c16, c17⟩ := hS
  have R9 := c15 (hL 15 (by decide))
  have HB := below_of (Below.refl w.heap.size w) qGW (fun k hk => by injection hk with hk; omega)
  obtain ⟨a, e16⟩ := c16 (hL 16 (by decide))
  obtain ⟨b, e17⟩ := c17 (hL 17 (by decide))
  simp only [e16, e17]
  clear c0 c1 c2 c3 c4 c5 c6 c7 c8 c9 c10 c11 c12 c13 c14 c15 c16 c17 hL e16 e17 qC qX qR qC1
  have q0 := R9.cells 0 _ rfl
  have q1 := R9.cells 1 _ rfl
  have q2 := R9.cells 2 _ rfl
  go_wp2
  exact bodyPost_ret (v := .tuple #[.agg #[.int .i64 x.f0, .int .i64 x.f1, .int .i64 x.f2], .int .i64 a, .int .i64 b]) (by simp [results, Try.results26, go_sem, q0, q1, q2]) rfl ⟨x, a, b, rfl, HB⟩
end Go.Proofs.Ytpokgnkcnibapaa.DBat3
