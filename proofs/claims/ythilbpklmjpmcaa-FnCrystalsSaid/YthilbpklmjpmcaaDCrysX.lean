/- The draw DrawAfterDrying. Made by tools/mk_dcrys2.py. -/
import Derived.Test.YthilbpklmjpmcaaDCrys
import Derived.Test.YthilbpklmjpmcaaRegn3
namespace Go.Proofs.Ythilbpklmjpmcaa.DCrysX
open Go.RowKit Go.Proofs.Ythilbpklmjpmcaa.Mem Go.Proofs.Ythilbpklmjpmcaa.Base Go.Proofs.Ythilbpklmjpmcaa.Draw Go.Proofs.Ythilbpklmjpmcaa.Boxes Go.Proofs.Ythilbpklmjpmcaa.Keep Go.Proofs.Ythilbpklmjpmcaa.Dr Go.Proofs.Ythilbpklmjpmcaa.Regn Go.Proofs.Ythilbpklmjpmcaa.SInt Go.Proofs.Ythilbpklmjpmcaa.Nest Go.Proofs.Ythilbpklmjpmcaa.LiqG Go.Proofs.Ythilbpklmjpmcaa.DCrys
open Go.Proofs.Ythilbpklmjpmcaa.DKind (own_low)
set_option linter.unusedVariables false
set_option linter.unusedSimpArgs false
set_option maxRecDepth 100000
/-- kinds, a liquor, any number. -/
def DY (w : World) (e : Ending) (w' : World) : Prop := ∃ (L : List SKind.R) (P : Option Addr) (cap : Nat) (wt : Int) (A : Option Addr) (c : Nat) (s : List Int) (i : Int), L.length ≤ 5 ∧ s.length ≤ 7 ∧ e = .returned (.tuple #[.slice P L.length cap, .agg #[.int .i64 wt, .slice A s.length c], .int .i64 i]) ∧ w'.ownsRow w.heap.size 37 3 (.slice P L.length cap) L.length (SKind.flat L) ∧ (∀ x ∈ L, x.f0.size ≤ maxLen) ∧ w'.ownsRow w.heap.size 3 1 (.slice A s.length c) s.length (iv s) ∧ Below w.heap.size w w'
set_option maxHeartbeats 8000000 in
theorem drawAfter (A : Option Addr) (cap : Nat) (zs : List Int) (w : World) (h : Draw.Src w A zs) : Calls Try.prog 25 #[.slice A zs.length cap] w (DY w) := by
  have C0 := cu_at (h.below (al (Below.refl _ w) (o := .cells #[.int .i64 0, .slice none 0 0] 27))) cap (p := w.heap.size + 1) (by rw [size_alloc'])
  have R0 := (Cb.new w [.int .i64 0, .slice none 0 0] 27 (g := w.heap.size) rfl).alloc (.cells #[.slice A zs.length cap, .int .i64 0, .int .u64 0] 70)
  have G0 : w.grownBy ((w.alloc (.cells #[.int .i64 0, .slice none 0 0] 27)).alloc (.cells #[.slice A zs.length cap, .int .i64 0, .int .u64 0] 70)) (some (w.heap.size + 1)) := grown_trans (grown_alloc w _ _) (grown_alloc _ _ _)
  have S0 : ((w.alloc (.cells #[.int .i64 0, .slice none 0 0] 27)).alloc (.cells #[.slice A zs.length cap, .int .i64 0, .int .u64 0] 70)).heap.size = w.heap.size + 1 + 1 := by rw [size_alloc', size_alloc']
  have H0 := Lib.hid (And.intro C0 (And.intro R0 (And.intro G0 S0))); clear C0 R0 G0 S0
  go_enter Try.func25, Try.ntmps25
  go_wp2_with fail
  obtain ⟨C0, R, GW, sv⟩ := H0.out
  obtain ⟨B, C⟩ : ∃ B, Cu B zs (w.heap.size + 1) 0 ((w.alloc (.cells #[.int .i64 0, .slice none 0 0] 27)).alloc (.cells #[.slice A zs.length cap, .int .i64 0, .int .u64 0] 70)) := ⟨_, C0⟩
  clear C0 H0
  generalize (w.alloc (.cells #[.int .i64 0, .slice none 0 0] 27)).alloc (.cells #[.slice A zs.length cap, .int .i64 0, .int .u64 0] 70) = v at C R GW sv ⊢
  have zw : w.heap.size < w.heap.size + 1 := Nat.lt_succ_self _
  have zv := GW.size
  have hp := C.lt
  have hB := C.base
  generalize w.heap.size + 1 = p at *
  refine (DKind.kinds_d B zs p 0 v C (by omega)).mono ?_
  rintro e V1 ⟨M, g, c, hl, hn, rfl, O, C1, G1⟩
  rw [sv] at O
  replace GW := grown_trans GW G1
  replace R := R.went G1 (by omega)
  have zv1 := G1.size
  clear C G1
  have C := C1; clear C1
  have hg0 := own_ge O g rfl
  have hln : ∀ x ∈ M, x.f0.size ≤ maxLen := fun x hx => by have := hn x hx; unfold maxLen; omega
  clear hn
  go_wp2_with fail
  refine (DLiq.liquor_d B zs p _ V1 C (by omega) (some ⟨g, 0, none⟩) M.length c (by omega)).mono ?_
  rintro e V2 ⟨wt, AS, cs, s, hs, rfl, OS, C2, G2⟩
  replace OS : V2.ownsRow (p + 1) 3 1 (.slice AS s.length cs) s.length (iv s) := OS
  replace GW := grown_trans GW G2
  replace R := R.went G2 (by omega)
  replace O := own_grown O G2 (fun k hk => by injection hk with hk; omega)
  have zv2 := G2.size
  clear C G2
  have C := C2; clear C2
  go_wp2_with fail
  have X : Cb V2.heap.size [.int .i64 wt, .slice AS s.length cs] (V2.alloc (.cells #[.int .i64 wt, .slice AS s.length cs] 27)) := Cb.new _ _ _ rfl
  replace C := C.alloc (.cells #[.int .i64 wt, .slice AS s.length cs] 27)
  replace R := R.alloc (.cells #[.int .i64 wt, .slice AS s.length cs] 27)
  replace GW := grown_trans GW (grown_alloc _ (.cells #[.int .i64 wt, .slice AS s.length cs] 27) _)
  replace O := own_keep O (al (Below.refl _ _) (o := .cells #[.int .i64 wt, .slice AS s.length cs] 27))
  replace OS := own_keep OS (al (Below.refl _ _) (o := .cells #[.int .i64 wt, .slice AS s.length cs] 27))
  replace O := own_base O (base' := p + 1) (by omega)
  have hpx : p < V2.heap.size := by omega
  obtain ⟨gx, hgx⟩ : ∃ g, V2.heap.size = g := ⟨_, rfl⟩
  obtain ⟨W3, hW3⟩ : ∃ W, V2.alloc (.cells #[.int .i64 wt, .slice AS s.length cs] 27) = W := ⟨_, rfl⟩
  rw [hW3] at C R GW O OS X ⊢
  rw [hgx] at X hpx ⊢
  clear hW3
  obtain ⟨a1, e1⟩ : ∃ a, IntKind.i64.wrap (wt.tdiv 2) = a := ⟨_, rfl⟩
  obtain ⟨a2, e2⟩ : ∃ a, IntKind.i64.wrap (wt - 1) = a := ⟨_, rfl⟩
  obtain ⟨a3, e3⟩ : ∃ a, IntKind.i64.wrap (wt + 1) = a := ⟨_, rfl⟩
  obtain ⟨K0, hK0, hK1⟩ : ∃ K0 : Nat, K0 ≤ 600000000 ∧ 0 + 100 + 100 = K0 := ⟨_, by omega, rfl⟩
  rw [hK1] at C
  clear hK1
  refine wp_region_rel [16, 17, 18, 19, 20, 21, 22, 23, 24, 25, 26, 27, 28, 29, 30, 31, 2, 4] (fun L f w' => (¬ L 17 → Cb w.heap.size [.int .i64 0, .slice none 0 0] w') ∧ (Cb gx [.int .i64 wt, .slice AS s.length cs] w') ∧ (¬ L 15 → Cu B zs p K0 w') ∧ (w.grownBy w' (some p)) ∧ (w'.ownsRow (p + 1) 37 3 (.slice (some ⟨g, 0, none⟩) M.length c) M.length (SKind.flat M)) ∧ (w'.ownsRow (p + 1) 3 1 (.slice AS s.length cs) s.length (iv s)) ∧ (L 0 → f 16 = .slice (some ⟨g, 0, none⟩) M.length c) ∧ (L 1 → f 17 = .agg #[.int .i64 wt, .slice AS s.length cs]) ∧ (L 2 → f 18 = .pointer (some ⟨p, 0, none⟩)) ∧ (L 3 → f 19 = .pointer (some ⟨gx, 0, none⟩)) ∧ (L 4 → f 20 = .int .i64 wt) ∧ (L 5 → f 21 = .pointer (some ⟨gx, 0, none⟩)) ∧ (L 6 → f 22 = .int .i64 wt) ∧ (L 7 → f 23 = .int .i64 a1) ∧ (L 8 → f 24 = .pointer (some ⟨gx, 0, none⟩)) ∧ (L 9 → f 25 = .int .i64 wt) ∧ (L 10 → f 26 = .int .i64 a2) ∧ (L 11 → f 27 = .pointer (some ⟨gx, 0, none⟩)) ∧ (L 12 → f 28 = .int .i64 wt) ∧ (L 13 → f 29 = .int .i64 a3) ∧ (L 14 → ¬ L 15 → ∃ gl, f 30 = .slice (some ⟨gl, 0, none⟩) 7 7 ∧ gl ≠ p ∧ Lst w' gl (([0, 1, wt, a1, a2, a3, -1] : List Int).map (Value.int .i64))) ∧ (L 15 → ∃ m, f 31 = .int .i64 m) ∧ (L 16 → f 2 = .slice (some ⟨g, 0, none⟩) M.length c) ∧ (L 17 → Cb w.heap.size [.int .i64 wt, .slice AS s.length cs] w') ∧ (L 18 → ∃ m, f 4 = .int .i64 m)) (by kernel_rfl) (by kernel_rfl) (by kernel_rfl) (fun f => ⟨fun _ => R.more (Below.refl _ _).drew, X.more (Below.refl _ _).drew, fun _ => C.more (Below.refl _ _).drew, grown_more GW (Below.refl _ _).drew, own_keep O (Below.refl _ _).drew, own_keep OS (Below.refl _ _).drew, fun h => h.elim, fun h => h.elim, fun h => h.elim, fun h => h.elim, fun h => h.elim, fun h => h.elim, fun h => h.elim, fun h => h.elim, fun h => h.elim, fun h => h.elim, fun h => h.elim, fun h => h.elim, fun h => h.elim, fun h => h.elim, fun h => h.elim, fun h => h.elim, fun h => h.elim, fun h => h.elim, fun h => h.elim⟩) ?_ ?_
  · apply RelH.op2
    · intro L f u K hN hS hK
      simp only [puts, Act.put, List.setIfInBounds_toArray, List.set_cons_zero, List.set_cons_succ, upd, Nat.reduceEqDiff, ↓reduceIte, if_true, if_false] at hK ⊢
      have HS9 := Lib.hid hS
      obtain ⟨qR, qX, qC, qGW, qO, qOS, c0, c1, c2, c3, c4, c5, c6, c7, c8, c9, c10, c11, c12, c13, c14, c15, c16, c17, c18⟩ := hS
      clear qR qC c0 c1 c2 c3 c4 c5 c6 c7 c8 c9 c10 c11 c12 c13 c14 c15 c16 c17 c18
      go_simp
      obtain ⟨qR, qX, qC, qGW, qO, qOS, c0, c1, c2, c3, c4, c5, c6, c7, c8, c9, c10, c11, c12, c13, c14, c15, c16, c17, c18⟩ := HS9.out
      exact hK.out _ _ ⟨fun z9 => qR (fun z => z9 (.inl z)), qX, fun z9 => qC (fun z => z9 (.inl z)), qGW, qO, qOS, fun _ => rfl, fun h => c1 (h.resolve_right (by decide)), fun h => c2 (h.resolve_right (by decide)), fun h => c3 (h.resolve_right (by decide)), fun h => c4 (h.resolve_right (by decide)), fun h => c5 (h.resolve_right (by decide)), fun h => c6 (h.resolve_right (by decide)), fun h => c7 (h.resolve_right (by decide)), fun h => c8 (h.resolve_right (by decide)), fun h => c9 (h.resolve_right (by decide)), fun h => c10 (h.resolve_right (by decide)), fun h => c11 (h.resolve_right (by decide)), fun h => c12 (h.resolve_right (by decide)), fun h => c13 (h.resolve_right (by decide)), fun h t0 => c14 (h.resolve_right (by decide)) (fun z => t0 (.inl z)), fun h => c15 (h.resolve_right (by decide)), fun h => c16 (h.resolve_right (by decide)), fun h => c17 (h.resolve_right (by decide)), fun h => c18 (h.resolve_right (by decide))⟩ _ rfl
    apply RelH.op2
    · intro L f u K hN hS hK
      simp only [puts, Act.put, List.setIfInBounds_toArray, List.set_cons_zero, List.set_cons_succ, upd, Nat.reduceEqDiff, ↓reduceIte, if_true, if_false] at hK ⊢
      have HS9 := Lib.hid hS
      obtain ⟨qR, qX, qC, qGW, qO, qOS, c0, c1, c2, c3, c4, c5, c6, c7, c8, c9, c10, c11, c12, c13, c14, c15, c16, c17, c18⟩ := hS
      have X_0 := qX.cells 0 _ rfl
      have X_1 := qX.cells 1 _ rfl
      clear qR qC c0 c1 c2 c3 c4 c5 c6 c7 c8 c9 c10 c11 c12 c13 c14 c15 c16 c17 c18
      go_simp
      obtain ⟨qR, qX, qC, qGW, qO, qOS, c0, c1, c2, c3, c4, c5, c6, c7, c8, c9, c10, c11, c12, c13, c14, c15, c16, c17, c18⟩ := HS9.out
      exact hK.out _ _ ⟨fun z9 => qR (fun z => z9 (.inl z)), qX, fun z9 => qC (fun z => z9 (.inl z)), qGW, qO, qOS, fun h => c0 (h.resolve_right (by decide)), fun _ => rfl, fun h => c2 (h.resolve_right (by decide)), fun h => c3 (h.resolve_right (by decide)), fun h => c4 (h.resolve_right (by decide)), fun h => c5 (h.resolve_right (by decide)), fun h => c6 (h.resolve_right (by decide)), fun h => c7 (h.resolve_right (by decide)), fun h => c8 (h.resolve_right (by decide)), fun h => c9 (h.resolve_right (by decide)), fun h => c10 (h.resolve_right (by decide)), fun h => c11 (h.resolve_right (by decide)), fun h => c12 (h.resolve_right (by decide)), fun h => c13 (h.resolve_right (by decide)), fun h t0 => c14 (h.resolve_right (by decide)) (fun z => t0 (.inl z)), fun h => c15 (h.resolve_right (by decide)), fun h => c16 (h.resolve_right (by decide)), fun h => c17 (h.resolve_right (by decide)), fun h => c18 (h.resolve_right (by decide))⟩ _ rfl
    apply RelH.op2
    · intro L f u K hN hS hK
      simp only [puts, Act.put, List.setIfInBounds_toArray, List.set_cons_zero, List.set_cons_succ, upd, Nat.reduceEqDiff, ↓reduceIte, if_true, if_false] at hK ⊢
      have HS9 := Lib.hid hS
      obtain ⟨qR, qX, qC, qGW, qO, qOS, c0, c1, c2, c3, c4, c5, c6, c7, c8, c9, c10, c11, c12, c13, c14, c15, c16, c17, c18⟩ := hS
      clear qR qC c0 c1 c2 c3 c4 c5 c6 c7 c8 c9 c10 c11 c12 c13 c14 c15 c16 c17 c18
      go_simp
      obtain ⟨qR, qX, qC, qGW, qO, qOS, c0, c1, c2, c3, c4, c5, c6, c7, c8, c9, c10, c11, c12, c13, c14, c15, c16, c17, c18⟩ := HS9.out
      exact hK.out _ _ ⟨fun z9 => qR (fun z => z9 (.inl z)), qX, fun z9 => qC (fun z => z9 (.inl z)), qGW, qO, qOS, fun h => c0 (h.resolve_right (by decide)), fun h => c1 (h.resolve_right (by decide)), fun _ => rfl, fun h => c3 (h.resolve_right (by decide)), fun h => c4 (h.resolve_right (by decide)), fun h => c5 (h.resolve_right (by decide)), fun h => c6 (h.resolve_right (by decide)), fun h => c7 (h.resolve_right (by decide)), fun h => c8 (h.resolve_right (by decide)), fun h => c9 (h.resolve_right (by decide)), fun h => c10 (h.resolve_right (by decide)), fun h => c11 (h.resolve_right (by decide)), fun h => c12 (h.resolve_right (by decide)), fun h => c13 (h.resolve_right (by decide)), fun h t0 => c14 (h.resolve_right (by decide)) (fun z => t0 (.inl z)), fun h => c15 (h.resolve_right (by decide)), fun h => c16 (h.resolve_right (by decide)), fun h => c17 (h.resolve_right (by decide)), fun h => c18 (h.resolve_right (by decide))⟩ _ rfl
    apply RelH.op2
    · intro L f u K hN hS hK
      simp only [puts, Act.put, List.setIfInBounds_toArray, List.set_cons_zero, List.set_cons_succ, upd, Nat.reduceEqDiff, ↓reduceIte, if_true, if_false] at hK ⊢
      have HS9 := Lib.hid hS
      obtain ⟨qR, qX, qC, qGW, qO, qOS, c0, c1, c2, c3, c4, c5, c6, c7, c8, c9, c10, c11, c12, c13, c14, c15, c16, c17, c18⟩ := hS
      clear qR qC c0 c1 c2 c3 c4 c5 c6 c7 c8 c9 c10 c11 c12 c13 c14 c15 c16 c17 c18
      go_simp
      obtain ⟨qR, qX, qC, qGW, qO, qOS, c0, c1, c2, c3, c4, c5, c6, c7, c8, c9, c10, c11, c12, c13, c14, c15, c16, c17, c18⟩ := HS9.out
      exact hK.out _ _ ⟨fun z9 => qR (fun z => z9 (.inl z)), qX, fun z9 => qC (fun z => z9 (.inl z)), qGW, qO, qOS, fun h => c0 (h.resolve_right (by decide)), fun h => c1 (h.resolve_right (by decide)), fun h => c2 (h.resolve_right (by decide)), fun _ => rfl, fun h => c4 (h.resolve_right (by decide)), fun h => c5 (h.resolve_right (by decide)), fun h => c6 (h.resolve_right (by decide)), fun h => c7 (h.resolve_right (by decide)), fun h => c8 (h.resolve_right (by decide)), fun h => c9 (h.resolve_right (by decide)), fun h => c10 (h.resolve_right (by decide)), fun h => c11 (h.resolve_right (by decide)), fun h => c12 (h.resolve_right (by decide)), fun h => c13 (h.resolve_right (by decide)), fun h t0 => c14 (h.resolve_right (by decide)) (fun z => t0 (.inl z)), fun h => c15 (h.resolve_right (by decide)), fun h => c16 (h.resolve_right (by decide)), fun h => c17 (h.resolve_right (by decide)), fun h => c18 (h.resolve_right (by decide))⟩ _ rfl
    apply RelH.op2
    · intro L f u K hN hS hK
      simp only [puts, Act.put, List.setIfInBounds_toArray, List.set_cons_zero, List.set_cons_succ, upd, Nat.reduceEqDiff, ↓reduceIte, if_true, if_false] at hK ⊢
      have HS9 := Lib.hid hS
      obtain ⟨qR, qX, qC, qGW, qO, qOS, c0, c1, c2, c3, c4, c5, c6, c7, c8, c9, c10, c11, c12, c13, c14, c15, c16, c17, c18⟩ := hS
      have e3 := c3 (hN.out.2 3 (by decide +kernel))
      have X_0 := qX.cells 0 _ rfl
      have X_1 := qX.cells 1 _ rfl
      clear qR qC c0 c1 c2 c3 c4 c5 c6 c7 c8 c9 c10 c11 c12 c13 c14 c15 c16 c17 c18
      go_simp
      obtain ⟨qR, qX, qC, qGW, qO, qOS, c0, c1, c2, c3, c4, c5, c6, c7, c8, c9, c10, c11, c12, c13, c14, c15, c16, c17, c18⟩ := HS9.out
      exact hK.out _ _ ⟨fun z9 => qR (fun z => z9 (.inl z)), qX, fun z9 => qC (fun z => z9 (.inl z)), qGW, qO, qOS, fun h => c0 (h.resolve_right (by decide)), fun h => c1 (h.resolve_right (by decide)), fun h => c2 (h.resolve_right (by decide)), fun h => c3 (h.resolve_right (by decide)), fun _ => rfl, fun h => c5 (h.resolve_right (by decide)), fun h => c6 (h.resolve_right (by decide)), fun h => c7 (h.resolve_right (by decide)), fun h => c8 (h.resolve_right (by decide)), fun h => c9 (h.resolve_right (by decide)), fun h => c10 (h.resolve_right (by decide)), fun h => c11 (h.resolve_right (by decide)), fun h => c12 (h.resolve_right (by decide)), fun h => c13 (h.resolve_right (by decide)), fun h t0 => c14 (h.resolve_right (by decide)) (fun z => t0 (.inl z)), fun h => c15 (h.resolve_right (by decide)), fun h => c16 (h.resolve_right (by decide)), fun h => c17 (h.resolve_right (by decide)), fun h => c18 (h.resolve_right (by decide))⟩ _ (by simp only [e3] <;> rfl)
    apply RelH.op2
    · intro L f u K hN hS hK
      simp only [puts, Act.put, List.setIfInBounds_toArray, List.set_cons_zero, List.set_cons_succ, upd, Nat.reduceEqDiff, ↓reduceIte, if_true, if_false] at hK ⊢
      have HS9 := Lib.hid hS
      obtain ⟨qR, qX, qC, qGW, qO, qOS, c0, c1, c2, c3, c4, c5, c6, c7, c8, c9, c10, c11, c12, c13, c14, c15, c16, c17, c18⟩ := hS
      clear qR qC c0 c1 c2 c3 c4 c5 c6 c7 c8 c9 c10 c11 c12 c13 c14 c15 c16 c17 c18
      go_simp
      obtain ⟨qR, qX, qC, qGW, qO, qOS, c0, c1, c2, c3, c4, c5, c6, c7, c8, c9, c10, c11, c12, c13, c14, c15, c16, c17, c18⟩ := HS9.out
      exact hK.out _ _ ⟨fun z9 => qR (fun z => z9 (.inl z)), qX, fun z9 => qC (fun z => z9 (.inl z)), qGW, qO, qOS, fun h => c0 (h.resolve_right (by decide)), fun h => c1 (h.resolve_right (by decide)), fun h => c2 (h.resolve_right (by decide)), fun h => c3 (h.resolve_right (by decide)), fun h => c4 (h.resolve_right (by decide)), fun _ => rfl, fun h => c6 (h.resolve_right (by decide)), fun h => c7 (h.resolve_right (by decide)), fun h => c8 (h.resolve_right (by decide)), fun h => c9 (h.resolve_right (by decide)), fun h => c10 (h.resolve_right (by decide)), fun h => c11 (h.resolve_right (by decide)), fun h => c12 (h.resolve_right (by decide)), fun h => c13 (h.resolve_right (by decide)), fun h t0 => c14 (h.resolve_right (by decide)) (fun z => t0 (.inl z)), fun h => c15 (h.resolve_right (by decide)), fun h => c16 (h.resolve_right (by decide)), fun h => c17 (h.resolve_right (by decide)), fun h => c18 (h.resolve_right (by decide))⟩ _ rfl
    apply RelH.op2
    · intro L f u K hN hS hK
      simp only [puts, Act.put, List.setIfInBounds_toArray, List.set_cons_zero, List.set_cons_succ, upd, Nat.reduceEqDiff, ↓reduceIte, if_true, if_false] at hK ⊢
      have HS9 := Lib.hid hS
      obtain ⟨qR, qX, qC, qGW, qO, qOS, c0, c1, c2, c3, c4, c5, c6, c7, c8, c9, c10, c11, c12, c13, c14, c15, c16, c17, c18⟩ := hS
      have e5 := c5 (hN.out.2 5 (by decide +kernel))
      have X_0 := qX.cells 0 _ rfl
      have X_1 := qX.cells 1 _ rfl
      clear qR qC c0 c1 c2 c3 c4 c5 c6 c7 c8 c9 c10 c11 c12 c13 c14 c15 c16 c17 c18
      go_simp
      obtain ⟨qR, qX, qC, qGW, qO, qOS, c0, c1, c2, c3, c4, c5, c6, c7, c8, c9, c10, c11, c12, c13, c14, c15, c16, c17, c18⟩ := HS9.out
      exact hK.out _ _ ⟨fun z9 => qR (fun z => z9 (.inl z)), qX, fun z9 => qC (fun z => z9 (.inl z)), qGW, qO, qOS, fun h => c0 (h.resolve_right (by decide)), fun h => c1 (h.resolve_right (by decide)), fun h => c2 (h.resolve_right (by decide)), fun h => c3 (h.resolve_right (by decide)), fun h => c4 (h.resolve_right (by decide)), fun h => c5 (h.resolve_right (by decide)), fun _ => rfl, fun h => c7 (h.resolve_right (by decide)), fun h => c8 (h.resolve_right (by decide)), fun h => c9 (h.resolve_right (by decide)), fun h => c10 (h.resolve_right (by decide)), fun h => c11 (h.resolve_right (by decide)), fun h => c12 (h.resolve_right (by decide)), fun h => c13 (h.resolve_right (by decide)), fun h t0 => c14 (h.resolve_right (by decide)) (fun z => t0 (.inl z)), fun h => c15 (h.resolve_right (by decide)), fun h => c16 (h.resolve_right (by decide)), fun h => c17 (h.resolve_right (by decide)), fun h => c18 (h.resolve_right (by decide))⟩ _ (by simp only [e5] <;> rfl)
    apply RelH.op2
    · intro L f u K hN hS hK
      simp only [puts, Act.put, List.setIfInBounds_toArray, List.set_cons_zero, List.set_cons_succ, upd, Nat.reduceEqDiff, ↓reduceIte, if_true, if_false] at hK ⊢
      have HS9 := Lib.hid hS
      obtain ⟨qR, qX, qC, qGW, qO, qOS, c0, c1, c2, c3, c4, c5, c6, c7, c8, c9, c10, c11, c12, c13, c14, c15, c16, c17, c18⟩ := hS
      have e6 := c6 (hN.out.2 6 (by decide +kernel))
      clear qR qC c0 c1 c2 c3 c4 c5 c6 c7 c8 c9 c10 c11 c12 c13 c14 c15 c16 c17 c18
      go_simp
      obtain ⟨qR, qX, qC, qGW, qO, qOS, c0, c1, c2, c3, c4, c5, c6, c7, c8, c9, c10, c11, c12, c13, c14, c15, c16, c17, c18⟩ := HS9.out
      exact hK.out _ _ ⟨fun z9 => qR (fun z => z9 (.inl z)), qX, fun z9 => qC (fun z => z9 (.inl z)), qGW, qO, qOS, fun h => c0 (h.resolve_right (by decide)), fun h => c1 (h.resolve_right (by decide)), fun h => c2 (h.resolve_right (by decide)), fun h => c3 (h.resolve_right (by decide)), fun h => c4 (h.resolve_right (by decide)), fun h => c5 (h.resolve_right (by decide)), fun h => c6 (h.resolve_right (by decide)), fun _ => rfl, fun h => c8 (h.resolve_right (by decide)), fun h => c9 (h.resolve_right (by decide)), fun h => c10 (h.resolve_right (by decide)), fun h => c11 (h.resolve_right (by decide)), fun h => c12 (h.resolve_right (by decide)), fun h => c13 (h.resolve_right (by decide)), fun h t0 => c14 (h.resolve_right (by decide)) (fun z => t0 (.inl z)), fun h => c15 (h.resolve_right (by decide)), fun h => c16 (h.resolve_right (by decide)), fun h => c17 (h.resolve_right (by decide)), fun h => c18 (h.resolve_right (by decide))⟩ _ (by simp only [e6] <;> rfl)
    apply RelH.op2
    · intro L f u K hN hS hK
      simp only [puts, Act.put, List.setIfInBounds_toArray, List.set_cons_zero, List.set_cons_succ, upd, Nat.reduceEqDiff, ↓reduceIte, if_true, if_false] at hK ⊢
      have HS9 := Lib.hid hS
      obtain ⟨qR, qX, qC, qGW, qO, qOS, c0, c1, c2, c3, c4, c5, c6, c7, c8, c9, c10, c11, c12, c13, c14, c15, c16, c17, c18⟩ := hS
      clear qR qC c0 c1 c2 c3 c4 c5 c6 c7 c8 c9 c10 c11 c12 c13 c14 c15 c16 c17 c18
      go_simp
      obtain ⟨qR, qX, qC, qGW, qO, qOS, c0, c1, c2, c3, c4, c5, c6, c7, c8, c9, c10, c11, c12, c13, c14, c15, c16, c17, c18⟩ := HS9.out
      exact hK.out _ _ ⟨fun z9 => qR (fun z => z9 (.inl z)), qX, fun z9 => qC (fun z => z9 (.inl z)), qGW, qO, qOS, fun h => c0 (h.resolve_right (by decide)), fun h => c1 (h.resolve_right (by decide)), fun h => c2 (h.resolve_right (by decide)), fun h => c3 (h.resolve_right (by decide)), fun h => c4 (h.resolve_right (by decide)), fun h => c5 (h.resolve_right (by decide)), fun h => c6 (h.resolve_right (by decide)), fun h => c7 (h.resolve_right (by decide)), fun _ => rfl, fun h => c9 (h.resolve_right (by decide)), fun h => c10 (h.resolve_right (by decide)), fun h => c11 (h.resolve_right (by decide)), fun h => c12 (h.resolve_right (by decide)), fun h => c13 (h.resolve_right (by decide)), fun h t0 => c14 (h.resolve_right (by decide)) (fun z => t0 (.inl z)), fun h => c15 (h.resolve_right (by decide)), fun h => c16 (h.resolve_right (by decide)), fun h => c17 (h.resolve_right (by decide)), fun h => c18 (h.resolve_right (by decide))⟩ _ rfl
    apply RelH.op2
    · intro L f u K hN hS hK
      simp only [puts, Act.put, List.setIfInBounds_toArray, List.set_cons_zero, List.set_cons_succ, upd, Nat.reduceEqDiff, ↓reduceIte, if_true, if_false] at hK ⊢
      have HS9 := Lib.hid hS
      obtain ⟨qR, qX, qC, qGW, qO, qOS, c0, c1, c2, c3, c4, c5, c6, c7, c8, c9, c10, c11, c12, c13, c14, c15, c16, c17, c18⟩ := hS
      have e8 := c8 (hN.out.2 8 (by decide +kernel))
      have X_0 := qX.cells 0 _ rfl
      have X_1 := qX.cells 1 _ rfl
      clear qR qC c0 c1 c2 c3 c4 c5 c6 c7 c8 c9 c10 c11 c12 c13 c14 c15 c16 c17 c18
      go_simp
      obtain ⟨qR, qX, qC, qGW, qO, qOS, c0, c1, c2, c3, c4, c5, c6, c7, c8, c9, c10, c11, c12, c13, c14, c15, c16, c17, c18⟩ := HS9.out
      exact hK.out _ _ ⟨fun z9 => qR (fun z => z9 (.inl z)), qX, fun z9 => qC (fun z => z9 (.inl z)), qGW, qO, qOS, fun h => c0 (h.resolve_right (by decide)), fun h => c1 (h.resolve_right (by decide)), fun h => c2 (h.resolve_right (by decide)), fun h => c3 (h.resolve_right (by decide)), fun h => c4 (h.resolve_right (by decide)), fun h => c5 (h.resolve_right (by decide)), fun h => c6 (h.resolve_right (by decide)), fun h => c7 (h.resolve_right (by decide)), fun h => c8 (h.resolve_right (by decide)), fun _ => rfl, fun h => c10 (h.resolve_right (by decide)), fun h => c11 (h.resolve_right (by decide)), fun h => c12 (h.resolve_right (by decide)), fun h => c13 (h.resolve_right (by decide)), fun h t0 => c14 (h.resolve_right (by decide)) (fun z => t0 (.inl z)), fun h => c15 (h.resolve_right (by decide)), fun h => c16 (h.resolve_right (by decide)), fun h => c17 (h.resolve_right (by decide)), fun h => c18 (h.resolve_right (by decide))⟩ _ (by simp only [e8] <;> rfl)
    apply RelH.op2
    · intro L f u K hN hS hK
      simp only [puts, Act.put, List.setIfInBounds_toArray, List.set_cons_zero, List.set_cons_succ, upd, Nat.reduceEqDiff, ↓reduceIte, if_true, if_false] at hK ⊢
      have HS9 := Lib.hid hS
      obtain ⟨qR, qX, qC, qGW, qO, qOS, c0, c1, c2, c3, c4, c5, c6, c7, c8, c9, c10, c11, c12, c13, c14, c15, c16, c17, c18⟩ := hS
      have e9 := c9 (hN.out.2 9 (by decide +kernel))
      clear qR qC c0 c1 c2 c3 c4 c5 c6 c7 c8 c9 c10 c11 c12 c13 c14 c15 c16 c17 c18
      go_simp
      obtain ⟨qR, qX, qC, qGW, qO, qOS, c0, c1, c2, c3, c4, c5, c6, c7, c8, c9, c10, c11, c12, c13, c14, c15, c16, c17, c18⟩ := HS9.out
      exact hK.out _ _ ⟨fun z9 => qR (fun z => z9 (.inl z)), qX, fun z9 => qC (fun z => z9 (.inl z)), qGW, qO, qOS, fun h => c0 (h.resolve_right (by decide)), fun h => c1 (h.resolve_right (by decide)), fun h => c2 (h.resolve_right (by decide)), fun h => c3 (h.resolve_right (by decide)), fun h => c4 (h.resolve_right (by decide)), fun h => c5 (h.resolve_right (by decide)), fun h => c6 (h.resolve_right (by decide)), fun h => c7 (h.resolve_right (by decide)), fun h => c8 (h.resolve_right (by decide)), fun h => c9 (h.resolve_right (by decide)), fun _ => rfl, fun h => c11 (h.resolve_right (by decide)), fun h => c12 (h.resolve_right (by decide)), fun h => c13 (h.resolve_right (by decide)), fun h t0 => c14 (h.resolve_right (by decide)) (fun z => t0 (.inl z)), fun h => c15 (h.resolve_right (by decide)), fun h => c16 (h.resolve_right (by decide)), fun h => c17 (h.resolve_right (by decide)), fun h => c18 (h.resolve_right (by decide))⟩ _ (by simp only [e9] <;> rfl)
    apply RelH.op2
    · intro L f u K hN hS hK
      simp only [puts, Act.put, List.setIfInBounds_toArray, List.set_cons_zero, List.set_cons_succ, upd, Nat.reduceEqDiff, ↓reduceIte, if_true, if_false] at hK ⊢
      have HS9 := Lib.hid hS
      obtain ⟨qR, qX, qC, qGW, qO, qOS, c0, c1, c2, c3, c4, c5, c6, c7, c8, c9, c10, c11, c12, c13, c14, c15, c16, c17, c18⟩ := hS
      clear qR qC c0 c1 c2 c3 c4 c5 c6 c7 c8 c9 c10 c11 c12 c13 c14 c15 c16 c17 c18
      go_simp
      obtain ⟨qR, qX, qC, qGW, qO, qOS, c0, c1, c2, c3, c4, c5, c6, c7, c8, c9, c10, c11, c12, c13, c14, c15, c16, c17, c18⟩ := HS9.out
      exact hK.out _ _ ⟨fun z9 => qR (fun z => z9 (.inl z)), qX, fun z9 => qC (fun z => z9 (.inl z)), qGW, qO, qOS, fun h => c0 (h.resolve_right (by decide)), fun h => c1 (h.resolve_right (by decide)), fun h => c2 (h.resolve_right (by decide)), fun h => c3 (h.resolve_right (by decide)), fun h => c4 (h.resolve_right (by decide)), fun h => c5 (h.resolve_right (by decide)), fun h => c6 (h.resolve_right (by decide)), fun h => c7 (h.resolve_right (by decide)), fun h => c8 (h.resolve_right (by decide)), fun h => c9 (h.resolve_right (by decide)), fun h => c10 (h.resolve_right (by decide)), fun _ => rfl, fun h => c12 (h.resolve_right (by decide)), fun h => c13 (h.resolve_right (by decide)), fun h t0 => c14 (h.resolve_right (by decide)) (fun z => t0 (.inl z)), fun h => c15 (h.resolve_right (by decide)), fun h => c16 (h.resolve_right (by decide)), fun h => c17 (h.resolve_right (by decide)), fun h => c18 (h.resolve_right (by decide))⟩ _ rfl
    apply RelH.op2
    · intro L f u K hN hS hK
      simp only [puts, Act.put, List.setIfInBounds_toArray, List.set_cons_zero, List.set_cons_succ, upd, Nat.reduceEqDiff, ↓reduceIte, if_true, if_false] at hK ⊢
      have HS9 := Lib.hid hS
      obtain ⟨qR, qX, qC, qGW, qO, qOS, c0, c1, c2, c3, c4, c5, c6, c7, c8, c9, c10, c11, c12, c13, c14, c15, c16, c17, c18⟩ := hS
      have e11 := c11 (hN.out.2 11 (by decide +kernel))
      have X_0 := qX.cells 0 _ rfl
      have X_1 := qX.cells 1 _ rfl
      clear qR qC c0 c1 c2 c3 c4 c5 c6 c7 c8 c9 c10 c11 c12 c13 c14 c15 c16 c17 c18
      go_simp
      obtain ⟨qR, qX, qC, qGW, qO, qOS, c0, c1, c2, c3, c4, c5, c6, c7, c8, c9, c10, c11, c12, c13, c14, c15, c16, c17, c18⟩ := HS9.out
      exact hK.out _ _ ⟨fun z9 => qR (fun z => z9 (.inl z)), qX, fun z9 => qC (fun z => z9 (.inl z)), qGW, qO, qOS, fun h => c0 (h.resolve_right (by decide)), fun h => c1 (h.resolve_right (by decide)), fun h => c2 (h.resolve_right (by decide)), fun h => c3 (h.resolve_right (by decide)), fun h => c4 (h.resolve_right (by decide)), fun h => c5 (h.resolve_right (by decide)), fun h => c6 (h.resolve_right (by decide)), fun h => c7 (h.resolve_right (by decide)), fun h => c8 (h.resolve_right (by decide)), fun h => c9 (h.resolve_right (by decide)), fun h => c10 (h.resolve_right (by decide)), fun h => c11 (h.resolve_right (by decide)), fun _ => rfl, fun h => c13 (h.resolve_right (by decide)), fun h t0 => c14 (h.resolve_right (by decide)) (fun z => t0 (.inl z)), fun h => c15 (h.resolve_right (by decide)), fun h => c16 (h.resolve_right (by decide)), fun h => c17 (h.resolve_right (by decide)), fun h => c18 (h.resolve_right (by decide))⟩ _ (by simp only [e11] <;> rfl)
    apply RelH.op2
    · intro L f u K hN hS hK
      simp only [puts, Act.put, List.setIfInBounds_toArray, List.set_cons_zero, List.set_cons_succ, upd, Nat.reduceEqDiff, ↓reduceIte, if_true, if_false] at hK ⊢
      have HS9 := Lib.hid hS
      obtain ⟨qR, qX, qC, qGW, qO, qOS, c0, c1, c2, c3, c4, c5, c6, c7, c8, c9, c10, c11, c12, c13, c14, c15, c16, c17, c18⟩ := hS
      have e12 := c12 (hN.out.2 12 (by decide +kernel))
      clear qR qC c0 c1 c2 c3 c4 c5 c6 c7 c8 c9 c10 c11 c12 c13 c14 c15 c16 c17 c18
      go_simp
      obtain ⟨qR, qX, qC, qGW, qO, qOS, c0, c1, c2, c3, c4, c5, c6, c7, c8, c9, c10, c11, c12, c13, c14, c15, c16, c17, c18⟩ := HS9.out
      exact hK.out _ _ ⟨fun z9 => qR (fun z => z9 (.inl z)), qX, fun z9 => qC (fun z => z9 (.inl z)), qGW, qO, qOS, fun h => c0 (h.resolve_right (by decide)), fun h => c1 (h.resolve_right (by decide)), fun h => c2 (h.resolve_right (by decide)), fun h => c3 (h.resolve_right (by decide)), fun h => c4 (h.resolve_right (by decide)), fun h => c5 (h.resolve_right (by decide)), fun h => c6 (h.resolve_right (by decide)), fun h => c7 (h.resolve_right (by decide)), fun h => c8 (h.resolve_right (by decide)), fun h => c9 (h.resolve_right (by decide)), fun h => c10 (h.resolve_right (by decide)), fun h => c11 (h.resolve_right (by decide)), fun h => c12 (h.resolve_right (by decide)), fun _ => rfl, fun h t0 => c14 (h.resolve_right (by decide)) (fun z => t0 (.inl z)), fun h => c15 (h.resolve_right (by decide)), fun h => c16 (h.resolve_right (by decide)), fun h => c17 (h.resolve_right (by decide)), fun h => c18 (h.resolve_right (by decide))⟩ _ (by simp only [e12] <;> rfl)
    apply RelH.op2
    · intro L f u K hN hS hK
      simp only [puts, Act.put, List.setIfInBounds_toArray, List.set_cons_zero, List.set_cons_succ, upd, Nat.reduceEqDiff, ↓reduceIte, if_true, if_false] at hK ⊢
      have HS9 := Lib.hid hS
      obtain ⟨qR, qX, qC, qGW, qO, qOS, c0, c1, c2, c3, c4, c5, c6, c7, c8, c9, c10, c11, c12, c13, c14, c15, c16, c17, c18⟩ := hS
      have e4 := c4 (hN.out.2 4 (by decide +kernel))
      have e7 := c7 (hN.out.2 7 (by decide +kernel))
      have e10 := c10 (hN.out.2 10 (by decide +kernel))
      have e13 := c13 (hN.out.2 13 (by decide +kernel))
      have hT := lst_at u [Value.int .i64 0, Value.int .i64 1, Value.int .i64 wt, Value.int .i64 a1, Value.int .i64 a2, Value.int .i64 a3, Value.int .i64 (-1)] 3 (g := u.heap.size) rfl
      have hpu : p < u.heap.size := by have := qX.there; omega
      clear qR qC c0 c1 c2 c3 c4 c5 c6 c7 c8 c9 c10 c11 c12 c13 c14 c15 c16 c17 c18
      go_simp
      obtain ⟨qR, qX, qC, qGW, qO, qOS, c0, c1, c2, c3, c4, c5, c6, c7, c8, c9, c10, c11, c12, c13, c14, c15, c16, c17, c18⟩ := HS9.out
      exact hK.out _ _ ⟨fun z9 => (qR (fun z => z9 (.inl z))).alloc _, qX.alloc _, fun z9 => (qC (fun z => z9 (.inl z))).alloc _, grown_trans qGW (grown_alloc _ _ _), own_keep qO (al (Below.refl _ _)), own_keep qOS (al (Below.refl _ _)), fun h => c0 (h.resolve_right (by decide)), fun h => c1 (h.resolve_right (by decide)), fun h => c2 (h.resolve_right (by decide)), fun h => c3 (h.resolve_right (by decide)), fun h => c4 (h.resolve_right (by decide)), fun h => c5 (h.resolve_right (by decide)), fun h => c6 (h.resolve_right (by decide)), fun h => c7 (h.resolve_right (by decide)), fun h => c8 (h.resolve_right (by decide)), fun h => c9 (h.resolve_right (by decide)), fun h => c10 (h.resolve_right (by decide)), fun h => c11 (h.resolve_right (by decide)), fun h => c12 (h.resolve_right (by decide)), fun h => c13 (h.resolve_right (by decide)), fun _ _ => ⟨_, rfl, by omega, hT⟩, fun h => c15 (h.resolve_right (by decide)), fun h => c16 (h.resolve_right (by decide)), fun h => ((c17 (h.resolve_right (by decide)))).alloc _, fun h => c18 (h.resolve_right (by decide))⟩ _ (by simp only [e4, e7, e10, e13] <;> rfl)
    apply RelH.op2
    · intro L f u K hN hS hK
      simp only [puts, Act.put, List.setIfInBounds_toArray, List.set_cons_zero, List.set_cons_succ, upd, Nat.reduceEqDiff, ↓reduceIte, if_true, if_false] at hK ⊢
      have HS9 := Lib.hid hS
      obtain ⟨qR, qX, qC, qGW, qO, qOS, c0, c1, c2, c3, c4, c5, c6, c7, c8, c9, c10, c11, c12, c13, c14, c15, c16, c17, c18⟩ := hS
      have e2 := c2 (hN.out.2 2 (by decide +kernel))
      obtain ⟨gl, e14, h14, T⟩ := c14 (hN.out.2 14 (by decide +kernel)) (hN.out.1 15 (by decide +kernel))
      have HCON := Lib.hid (among_d B zs p K0 u gl 7 [0, 1, wt, a1, a2, a3, -1] (qC (hN.out.1 15 (by decide +kernel))) (by omega) T h14 (by simp) (by simp))
      clear qR qC c0 c1 c2 c3 c4 c5 c6 c7 c8 c9 c10 c11 c12 c13 c14 c15 c16 c17 c18
      go_simp
      go_at_call 63
      refine HCON.out.mono ?_
      rintro e uw1 ⟨m, hm, rfl, C9, G⟩
      go_wp2_with fail
      obtain ⟨qR, qX, qC, qGW, qO, qOS, c0, c1, c2, c3, c4, c5, c6, c7, c8, c9, c10, c11, c12, c13, c14, c15, c16, c17, c18⟩ := HS9.out
      exact hK.out _ _ ⟨fun z9 => (qR (fun z => z9 (.inl z))).went G (by omega), qX.went G (by omega), fun z9 => (z9 (by simp)).elim, grown_trans qGW G, own_grown qO G (fun k hk => by injection hk with hk; omega), own_grown qOS G (fun k hk => by injection hk with hk; omega), fun h => c0 (h.resolve_right (by decide)), fun h => c1 (h.resolve_right (by decide)), fun h => c2 (h.resolve_right (by decide)), fun h => c3 (h.resolve_right (by decide)), fun h => c4 (h.resolve_right (by decide)), fun h => c5 (h.resolve_right (by decide)), fun h => c6 (h.resolve_right (by decide)), fun h => c7 (h.resolve_right (by decide)), fun h => c8 (h.resolve_right (by decide)), fun h => c9 (h.resolve_right (by decide)), fun h => c10 (h.resolve_right (by decide)), fun h => c11 (h.resolve_right (by decide)), fun h => c12 (h.resolve_right (by decide)), fun h => c13 (h.resolve_right (by decide)), fun h t0 => (t0 (by simp)).elim, fun _ => ⟨m, rfl⟩, fun h => c16 (h.resolve_right (by decide)), fun h => ((c17 (h.resolve_right (by decide)))).went G (by omega), fun h => c18 (h.resolve_right (by decide))⟩ _ (by simp only [e2, e14] <;> rfl)
    apply RelH.op2
    · intro L f u K hN hS hK
      simp only [puts, Act.put, List.setIfInBounds_toArray, List.set_cons_zero, List.set_cons_succ, upd, Nat.reduceEqDiff, ↓reduceIte, if_true, if_false] at hK ⊢
      have HS9 := Lib.hid hS
      obtain ⟨qR, qX, qC, qGW, qO, qOS, c0, c1, c2, c3, c4, c5, c6, c7, c8, c9, c10, c11, c12, c13, c14, c15, c16, c17, c18⟩ := hS
      have e0 := c0 (hN.out.2 0 (by decide +kernel))
      clear qR qC c0 c1 c2 c3 c4 c5 c6 c7 c8 c9 c10 c11 c12 c13 c14 c15 c16 c17 c18
      go_simp
      obtain ⟨qR, qX, qC, qGW, qO, qOS, c0, c1, c2, c3, c4, c5, c6, c7, c8, c9, c10, c11, c12, c13, c14, c15, c16, c17, c18⟩ := HS9.out
      exact hK.out _ _ ⟨fun z9 => qR (fun z => z9 (.inl z)), qX, fun z9 => qC (fun z => z9 (.inl z)), qGW, qO, qOS, fun h => c0 (h.resolve_right (by decide)), fun h => c1 (h.resolve_right (by decide)), fun h => c2 (h.resolve_right (by decide)), fun h => c3 (h.resolve_right (by decide)), fun h => c4 (h.resolve_right (by decide)), fun h => c5 (h.resolve_right (by decide)), fun h => c6 (h.resolve_right (by decide)), fun h => c7 (h.resolve_right (by decide)), fun h => c8 (h.resolve_right (by decide)), fun h => c9 (h.resolve_right (by decide)), fun h => c10 (h.resolve_right (by decide)), fun h => c11 (h.resolve_right (by decide)), fun h => c12 (h.resolve_right (by decide)), fun h => c13 (h.resolve_right (by decide)), fun h t0 => c14 (h.resolve_right (by decide)) (fun z => t0 (.inl z)), fun h => c15 (h.resolve_right (by decide)), fun _ => rfl, fun h => c17 (h.resolve_right (by decide)), fun h => c18 (h.resolve_right (by decide))⟩ _ (by simp only [e0] <;> rfl)
    apply RelH.op2
    · intro L f u K hN hS hK
      simp only [puts, Act.put, List.setIfInBounds_toArray, List.set_cons_zero, List.set_cons_succ, upd, Nat.reduceEqDiff, ↓reduceIte, if_true, if_false] at hK ⊢
      have HS9 := Lib.hid hS
      obtain ⟨qR, qX, qC, qGW, qO, qOS, c0, c1, c2, c3, c4, c5, c6, c7, c8, c9, c10, c11, c12, c13, c14, c15, c16, c17, c18⟩ := hS
      have e1 := c1 (hN.out.2 1 (by decide +kernel))
      have qR1 := qR (hN.out.1 17 (by decide +kernel))
      have R_0 := qR1.cells 0 _ rfl
      have R_1 := qR1.cells 1 _ rfl
      have R_f0 := qR1.free 0 (by simp)
      have R_f1 := qR1.free 1 (by simp)
      clear qR qC c0 c1 c2 c3 c4 c5 c6 c7 c8 c9 c10 c11 c12 c13 c14 c15 c16 c17 c18
      go_simp
      obtain ⟨qR, qX, qC, qGW, qO, qOS, c0, c1, c2, c3, c4, c5, c6, c7, c8, c9, c10, c11, c12, c13, c14, c15, c16, c17, c18⟩ := HS9.out
      exact hK.out undef _ ⟨fun z9 => (z9 (by simp)).elim, (qX.far (k := w.heap.size) (by omega) 0 (.int .i64 wt)).far (k := w.heap.size) (by omega) 1 (.slice AS s.length cs), fun z9 => (z9 (.inl (hN.out.2 15 (by decide +kernel)))).elim, grown_set (grown_set qGW (Nat.le_refl _) 0 (.int .i64 wt)) (Nat.le_refl _) 1 (.slice AS s.length cs), own_low (own_low qO (k := w.heap.size) (by omega) 0 (.int .i64 wt)) (k := w.heap.size) (by omega) 1 (.slice AS s.length cs), own_low (own_low qOS (k := w.heap.size) (by omega) 0 (.int .i64 wt)) (k := w.heap.size) (by omega) 1 (.slice AS s.length cs), fun h => c0 (h.resolve_right (by decide)), fun h => c1 (h.resolve_right (by decide)), fun h => c2 (h.resolve_right (by decide)), fun h => c3 (h.resolve_right (by decide)), fun h => c4 (h.resolve_right (by decide)), fun h => c5 (h.resolve_right (by decide)), fun h => c6 (h.resolve_right (by decide)), fun h => c7 (h.resolve_right (by decide)), fun h => c8 (h.resolve_right (by decide)), fun h => c9 (h.resolve_right (by decide)), fun h => c10 (h.resolve_right (by decide)), fun h => c11 (h.resolve_right (by decide)), fun h => c12 (h.resolve_right (by decide)), fun h => c13 (h.resolve_right (by decide)), fun _ t0 => (t0 (.inl (hN.out.2 15 (by decide +kernel)))).elim, fun h => c15 (h.resolve_right (by decide)), fun h => c16 (h.resolve_right (by decide)), fun _ => (qR1.set 0 (.int .i64 wt)).set 1 (.slice AS s.length cs), fun h => c18 (h.resolve_right (by decide))⟩ _ (by simp only [e1] <;> rfl)
    apply RelH.op2
    · intro L f u K hN hS hK
      simp only [puts, Act.put, List.setIfInBounds_toArray, List.set_cons_zero, List.set_cons_succ, upd, Nat.reduceEqDiff, ↓reduceIte, if_true, if_false] at hK ⊢
      have HS9 := Lib.hid hS
      obtain ⟨qR, qX, qC, qGW, qO, qOS, c0, c1, c2, c3, c4, c5, c6, c7, c8, c9, c10, c11, c12, c13, c14, c15, c16, c17, c18⟩ := hS
      obtain ⟨m, e15⟩ := c15 (hN.out.2 15 (by decide +kernel))
      clear qR qC c0 c1 c2 c3 c4 c5 c6 c7 c8 c9 c10 c11 c12 c13 c14 c15 c16 c17 c18
      go_simp
      obtain ⟨qR, qX, qC, qGW, qO, qOS, c0, c1, c2, c3, c4, c5, c6, c7, c8, c9, c10, c11, c12, c13, c14, c15, c16, c17, c18⟩ := HS9.out
      exact hK.out _ _ ⟨fun z9 => qR (fun z => z9 (.inl z)), qX, fun z9 => qC (fun z => z9 (.inl z)), qGW, qO, qOS, fun h => c0 (h.resolve_right (by decide)), fun h => c1 (h.resolve_right (by decide)), fun h => c2 (h.resolve_right (by decide)), fun h => c3 (h.resolve_right (by decide)), fun h => c4 (h.resolve_right (by decide)), fun h => c5 (h.resolve_right (by decide)), fun h => c6 (h.resolve_right (by decide)), fun h => c7 (h.resolve_right (by decide)), fun h => c8 (h.resolve_right (by decide)), fun h => c9 (h.resolve_right (by decide)), fun h => c10 (h.resolve_right (by decide)), fun h => c11 (h.resolve_right (by decide)), fun h => c12 (h.resolve_right (by decide)), fun h => c13 (h.resolve_right (by decide)), fun h t0 => c14 (h.resolve_right (by decide)) (fun z => t0 (.inl z)), fun h => c15 (h.resolve_right (by decide)), fun h => c16 (h.resolve_right (by decide)), fun h => c17 (h.resolve_right (by decide)), fun _ => ⟨m, rfl⟩⟩ _ (by simp only [e15] <;> rfl)
    exact RelH.done
  intro L f V0 hL hS
  simp only [puts, Act.put, List.setIfInBounds_toArray, List.set_cons_zero, List.set_cons_succ]
  obtain ⟨qR, qX, qC, qGW, qO, qOS, c0, c1, c2, c3, c4, c5, c6, c7, c8, c9, c10, c11, c12, c13, c14, c15, c16, c17, c18⟩ := hS
  have R9 := c17 (hL 17 (by decide))
  have HB := below_of qGW (by omega)
  have e16 := c16 (hL 16 (by decide))
  obtain ⟨m, e18⟩ := c18 (hL 18 (by decide))
  simp only [e16, e18]
  clear c0 c1 c2 c3 c4 c5 c6 c7 c8 c9 c10 c11 c12 c13 c14 c15 c16 c17 c18 hL e16 e18 qC qX qR
  have q0 := R9.cells 0 _ rfl
  have q1 := R9.cells 1 _ rfl
  have hHO := Lib.hid (And.intro qO qOS)
  clear qO qOS
  go_wp2
  exact bodyPost_ret (v := .tuple #[.slice (some ⟨g, 0, none⟩) M.length c, .agg #[.int .i64 wt, .slice AS s.length cs], .int .i64 m]) (by simp [results, Try.results25, go_sem, q0, q1]) rfl ⟨M, _, c, wt, AS, cs, s, m, hl, hs, rfl, own_base hHO.out.1 (by omega), hln, own_base hHO.out.2 (by omega), HB⟩
end Go.Proofs.Ythilbpklmjpmcaa.DCrysX
