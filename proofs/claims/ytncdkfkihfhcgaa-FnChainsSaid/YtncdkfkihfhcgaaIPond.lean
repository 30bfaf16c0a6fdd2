/- The program's small functions on ponds. -/
import Derived.Test.YtncdkfkihfhcgaaWithin
import Derived.Test.YtncdkfkihfhcgaaPond2
namespace Go.Proofs.Ytncdkfkihfhcgaa.IPond
open Go.RowKit Go.Proofs.Ytncdkfkihfhcgaa.Mem Go.Proofs.Ytncdkfkihfhcgaa.Base Go.Proofs.Ytncdkfkihfhcgaa.Within Go.Proofs.Ytncdkfkihfhcgaa.SPond Go.Proofs.Ytncdkfkihfhcgaa.Regn Go.Proofs.Ytncdkfkihfhcgaa.Boxes Go.Proofs.Ytncdkfkihfhcgaa.Pond
set_option linter.unusedVariables false
set_option maxRecDepth 100000
def grid (s n : Int) : Bool := inB s 0 49 && inB n 1 20 && decide (s + n ≤ 50)
theorem okP_grid (x : R) : okP x = (inB x.f0 1 99 && inB x.f5 5 200 && grid x.f1 x.f3 && grid x.f2 x.f4) := by
  unfold okP grid
  cases inB x.f0 1 99 <;> cases inB x.f1 0 49 <;> cases inB x.f2 0 49 <;> cases inB x.f3 1 20 <;> cases inB x.f4 1 20 <;> cases inB x.f5 5 200 <;> simp
theorem grid_any (s n : Int) (w : World) : Calls Try.prog 57 #[.int .i64 s, .int .i64 n] w (BPost (grid s n) w) := by
  cases h0 : inB s 0 49
  · have H := Lib.hid (show grid s n = false by unfold grid; rw [h0]; rfl)
    go_enter Try.func57, Try.ntmps57
    go_wp2_with (go_at_call 49; (with_reducible refine (within_any _ _ _ _).mono ?_); rintro e' w' ⟨rfl, rfl⟩)
    go_ret
    exact bpost H.out.symm
  cases h1 : inB n 1 20
  · have H := Lib.hid (show grid s n = false by unfold grid; rw [h0, h1]; rfl)
    go_enter Try.func57, Try.ntmps57
    go_wp2_with (go_at_call 49; (with_reducible refine (within_any _ _ _ _).mono ?_); rintro e' w' ⟨rfl, rfl⟩)
    go_ret
    exact bpost H.out.symm
  have H := Lib.hid (show grid s n = decide (s + n ≤ 50) by unfold grid; rw [h0, h1]; rfl)
  have i0 := of_inB h0
  have i1 := of_inB h1
  have y1 : IntKind.i64.wrap (s + n) = s + n := IntWalk.i64_in _ (by omega)
  clear i0 i1
  go_enter Try.func57, Try.ntmps57
  go_wp2_with (go_at_call 49; (with_reducible refine (within_any _ _ _ _).mono ?_); rintro e' w' ⟨rfl, rfl⟩)
  go_ret
  exact bpost H.out.symm
theorem pond_impl (x : R) (w : World) : Calls Try.prog 39 #[.agg #[.int .i64 x.f0, .int .i64 x.f1, .int .i64 x.f2, .int .i64 x.f3, .int .i64 x.f4, .int .i64 x.f5]] w (RPost (.bool (okP x)) w) := by
  have HG := Lib.hid (okP_grid x)
  cases h0 : inB x.f0 1 99
  · go_enter Try.func39, Try.ntmps39
    go_wp2_with (go_at_call 49; (with_reducible refine (within_any _ _ _ _).mono ?_); rintro e' w' ⟨rfl, rfl⟩)
    go_ret
    exact rpost (by rw [HG.out, h0] <;> rfl) (al (Below.refl _ _))
  cases h1 : inB x.f5 5 200
  · go_enter Try.func39, Try.ntmps39
    go_wp2_with (go_at_call 49; (with_reducible refine (within_any _ _ _ _).mono ?_); rintro e' w' ⟨rfl, rfl⟩)
    go_ret
    exact rpost (by rw [HG.out, h0, h1] <;> rfl) (al (Below.refl _ _))
  cases h2 : grid x.f1 x.f3
  · go_enter Try.func39, Try.ntmps39
    go_wp2_with (first | (go_at_call 49; (with_reducible refine (within_any _ _ _ _).mono ?_); rintro e' w' ⟨rfl, rfl⟩) | (go_at_call 57; (with_reducible refine (grid_any _ _ _).mono ?_); rintro e' w' ⟨rfl, rfl⟩))
    go_ret
    exact rpost (by rw [HG.out, h0, h1, h2] <;> rfl) (al (Below.refl _ _))
  go_enter Try.func39, Try.ntmps39
  go_wp2_with (first | (go_at_call 49; (with_reducible refine (within_any _ _ _ _).mono ?_); rintro e' w' ⟨rfl, rfl⟩) | (go_at_call 57; (with_reducible refine (grid_any _ _ _).mono ?_); rintro e' w' ⟨rfl, rfl⟩))
  go_ret
  exact rpost (by rw [HG.out, h0, h1, h2] <;> rfl) (al (Below.refl _ _))
/-- how many columns (rows) two ponds have in common; negative where there are some between them. -/
def cols (x y : R) : Int := least (x.f1 + x.f3) (y.f1 + y.f3) - most x.f1 y.f1
def rows (x y : R) : Int := least (x.f2 + x.f4) (y.f2 + y.f4) - most x.f2 y.f2
theorem wrap_is {a b : Int} (h : a = b) (h1 : -1000000 ≤ b) (h2 : b ≤ 1000000) : Value.int .i64 (wrap64 a) = .int .i64 b := by
  subst h
  rw [IntWalk.wrap64_in _ ⟨by omega, by omega⟩]
theorem cols_bd {x y : R} (hx : okP x = true) (hy : okP y = true) : -50 ≤ cols x y ∧ cols x y ≤ 20 := by
  obtain ⟨_, _, a1, a2, a3, a4, a5, a6, a7, a8, _, _, _, _⟩ := okP_true hx
  obtain ⟨_, _, b1, b2, b3, b4, b5, b6, b7, b8, _, _, _, _⟩ := okP_true hy
  unfold cols least most
  split <;> split <;> omega
theorem rows_bd {x y : R} (hx : okP x = true) (hy : okP y = true) : -50 ≤ rows x y ∧ rows x y ≤ 20 := by
  obtain ⟨_, _, a1, a2, a3, a4, a5, a6, a7, a8, _, _, _, _⟩ := okP_true hx
  obtain ⟨_, _, b1, b2, b3, b4, b5, b6, b7, b8, _, _, _, _⟩ := okP_true hy
  unfold rows least most
  split <;> split <;> omega
theorem cols_any (x y : R) (hx : okP x = true) (hy : okP y = true) (w : World) : Calls Try.prog 54 #[.agg #[.int .i64 x.f0, .int .i64 x.f1, .int .i64 x.f2, .int .i64 x.f3, .int .i64 x.f4, .int .i64 x.f5], .agg #[.int .i64 y.f0, .int .i64 y.f1, .int .i64 y.f2, .int .i64 y.f3, .int .i64 y.f4, .int .i64 y.f5]] w (RPost (.int .i64 (cols x y)) w) := by
  have HB := Lib.hid (cols_bd hx hy)
  obtain ⟨_, _, a1, a2, a3, a4, a5, a6, a7, a8, _, _, _, _⟩ := okP_true hx
  obtain ⟨_, _, b1, b2, b3, b4, b5, b6, b7, b8, _, _, _, _⟩ := okP_true hy
  have y1 : IntKind.i64.wrap (x.f1 + x.f3) = x.f1 + x.f3 := IntWalk.i64_in _ (by omega)
  have y2 : IntKind.i64.wrap (y.f1 + y.f3) = y.f1 + y.f3 := IntWalk.i64_in _ (by omega)
  have H := Lib.hid (show cols x y = least (x.f1 + x.f3) (y.f1 + y.f3) - most x.f1 y.f1 from rfl)
  clear a1 a2 a3 a4 a5 a6 a7 a8 b1 b2 b3 b4 b5 b6 b7 b8 hx hy
  go_enter Try.func54, Try.ntmps54
  go_wp2
  all_goals
    go_ret
    exact rpost (wrap_is (by rw [H.out]; unfold least most; split <;> split <;> omega) (by have := HB.out; omega) (by have := HB.out; omega)) (al (al (Below.refl _ _)))
theorem rows_any (x y : R) (hx : okP x = true) (hy : okP y = true) (w : World) : Calls Try.prog 55 #[.agg #[.int .i64 x.f0, .int .i64 x.f1, .int .i64 x.f2, .int .i64 x.f3, .int .i64 x.f4, .int .i64 x.f5], .agg #[.int .i64 y.f0, .int .i64 y.f1, .int .i64 y.f2, .int .i64 y.f3, .int .i64 y.f4, .int .i64 y.f5]] w (RPost (.int .i64 (rows x y)) w) := by
  have HB := Lib.hid (rows_bd hx hy)
  obtain ⟨_, _, a1, a2, a3, a4, a5, a6, a7, a8, _, _, _, _⟩ := okP_true hx
  obtain ⟨_, _, b1, b2, b3, b4, b5, b6, b7, b8, _, _, _, _⟩ := okP_true hy
  have y1 : IntKind.i64.wrap (x.f2 + x.f4) = x.f2 + x.f4 := IntWalk.i64_in _ (by omega)
  have y2 : IntKind.i64.wrap (y.f2 + y.f4) = y.f2 + y.f4 := IntWalk.i64_in _ (by omega)
  have H := Lib.hid (show rows x y = least (x.f2 + x.f4) (y.f2 + y.f4) - most x.f2 y.f2 from rfl)
  clear a1 a2 a3 a4 a5 a6 a7 a8 b1 b2 b3 b4 b5 b6 b7 b8 hx hy
  go_enter Try.func55, Try.ntmps55
  go_wp2
  all_goals
    go_ret
    exact rpost (wrap_is (by rw [H.out]; unfold least most; split <;> split <;> omega) (by have := HB.out; omega) (by have := HB.out; omega)) (al (al (Below.refl _ _)))
theorem area_any (x : R) (h1 : 0 ≤ x.f3) (h2 : x.f3 ≤ 1000) (h3 : 0 ≤ x.f4) (h4 : x.f4 ≤ 1000) (w : World) : Calls Try.prog 37 #[.agg #[.int .i64 x.f0, .int .i64 x.f1, .int .i64 x.f2, .int .i64 x.f3, .int .i64 x.f4, .int .i64 x.f5]] w (RPost (.int .i64 (x.f3 * x.f4)) w) := by
  have m0 : 0 ≤ x.f3 * x.f4 := Int.mul_nonneg (by omega) (by omega)
  have m1 : x.f3 * x.f4 ≤ 1000 * 1000 := Int.mul_le_mul h2 h4 (by omega) (by omega)
  have y1 : IntKind.i64.wrap (x.f3 * x.f4) = x.f3 * x.f4 := IntWalk.i64_in _ (by omega)
  clear m0 m1 h1 h2 h3 h4
  go_enter Try.func37, Try.ntmps37
  go_wp2
  go_ret
  exact rpost rfl (al (Below.refl _ _))
/-- the bank as the program computes it. -/
def bankI (x y : R) : Int := if cols x y = 0 then most (rows x y) 0 else if rows x y = 0 then most (cols x y) 0 else 0
theorem bankI_eq {x y : R} (hx : okP x = true) (hy : okP y = true) : bankI x y = bank x y := by
  obtain ⟨_, _, a1, a2, a3, a4, a5, a6, a7, a8, _, _, _, _⟩ := okP_true hx
  obtain ⟨_, _, b1, b2, b3, b4, b5, b6, b7, b8, _, _, _, _⟩ := okP_true hy
  have e1 : cols x y = 0 ↔ (x.f1 + x.f3 = y.f1 ∨ y.f1 + y.f3 = x.f1) := by unfold cols least most; split <;> split <;> omega
  have e2 : rows x y = 0 ↔ (x.f2 + x.f4 = y.f2 ∨ y.f2 + y.f4 = x.f2) := by unfold rows least most; split <;> split <;> omega
  have e3 : common x.f1 x.f3 y.f1 y.f3 = most (cols x y) 0 := by show most 0 (cols x y) = _; unfold most; split <;> split <;> omega
  have e4 : common x.f2 x.f4 y.f2 y.f4 = most (rows x y) 0 := by show most 0 (rows x y) = _; unfold most; split <;> split <;> omega
  unfold bankI bank
  rw [e3, e4]
  simp only [e1, e2]
theorem bank_bd {x y : R} (hx : okP x = true) (hy : okP y = true) : 0 ≤ bank x y ∧ bank x y ≤ 20 := by
  rw [← bankI_eq hx hy]
  have := cols_bd hx hy
  have := rows_bd hx hy
  unfold bankI most
  split <;> (try split) <;> (try split) <;> omega
theorem between_any (x y : R) (hx : okP x = true) (hy : okP y = true) (w : World) : Calls Try.prog 36 #[.agg #[.int .i64 x.f0, .int .i64 x.f1, .int .i64 x.f2, .int .i64 x.f3, .int .i64 x.f4, .int .i64 x.f5], .agg #[.int .i64 y.f0, .int .i64 y.f1, .int .i64 y.f2, .int .i64 y.f3, .int .i64 y.f4, .int .i64 y.f5]] w (RPost (.int .i64 (bank x y)) w) := by
  rw [← bankI_eq hx hy]
  have HX := Lib.hid hx; have HY := Lib.hid hy; clear hx hy
  go_enter Try.func36, Try.ntmps36
  go_wp2_with fail
  have X := (Box.new (Below.refl _ w) [.int .i64 x.f0, .int .i64 x.f1, .int .i64 x.f2, .int .i64 x.f3, .int .i64 x.f4, .int .i64 x.f5] 54 (g := w.heap.size) rfl).alloc (.cells #[.int .i64 y.f0, .int .i64 y.f1, .int .i64 y.f2, .int .i64 y.f3, .int .i64 y.f4, .int .i64 y.f5] 54)
  have Y := Box.new (al (Below.refl _ w) (o := (.cells #[.int .i64 x.f0, .int .i64 x.f1, .int .i64 x.f2, .int .i64 x.f3, .int .i64 x.f4, .int .i64 x.f5] 54))) [.int .i64 y.f0, .int .i64 y.f1, .int .i64 y.f2, .int .i64 y.f3, .int .i64 y.f4, .int .i64 y.f5] 54 (g := w.heap.size + 1) (by simp only [size_alloc'])
  generalize ((w.alloc (.cells #[.int .i64 x.f0, .int .i64 x.f1, .int .i64 x.f2, .int .i64 x.f3, .int .i64 x.f4, .int .i64 x.f5] 54)).alloc (.cells #[.int .i64 y.f0, .int .i64 y.f1, .int .i64 y.f2, .int .i64 y.f3, .int .i64 y.f4, .int .i64 y.f5] 54)) = W1 at X Y ⊢
  have X_0 := X.cells 0 _ rfl
  have X_1 := X.cells 1 _ rfl
  have X_2 := X.cells 2 _ rfl
  have X_3 := X.cells 3 _ rfl
  have X_4 := X.cells 4 _ rfl
  have X_5 := X.cells 5 _ rfl
  have X_f0 := X.free 0 (by simp)
  have X_f1 := X.free 1 (by simp)
  have X_f2 := X.free 2 (by simp)
  have X_f3 := X.free 3 (by simp)
  have X_f4 := X.free 4 (by simp)
  have X_f5 := X.free 5 (by simp)
  have X_t := X.there
  have Y_0 := Y.cells 0 _ rfl
  have Y_1 := Y.cells 1 _ rfl
  have Y_2 := Y.cells 2 _ rfl
  have Y_3 := Y.cells 3 _ rfl
  have Y_4 := Y.cells 4 _ rfl
  have Y_5 := Y.cells 5 _ rfl
  have Y_f0 := Y.free 0 (by simp)
  have Y_f1 := Y.free 1 (by simp)
  have Y_f2 := Y.free 2 (by simp)
  have Y_f3 := Y.free 3 (by simp)
  have Y_f4 := Y.free 4 (by simp)
  have Y_f5 := Y.free 5 (by simp)
  have Y_t := Y.there
  refine wp_region_last 6 (fun w' => Box (w.heap.size) [.int .i64 x.f0, .int .i64 x.f1, .int .i64 x.f2, .int .i64 x.f3, .int .i64 x.f4, .int .i64 x.f5] w w' ∧ Box (w.heap.size + 1) [.int .i64 y.f0, .int .i64 y.f1, .int .i64 y.f2, .int .i64 y.f3, .int .i64 y.f4, .int .i64 y.f5] w w') (by kernel_rfl) (by kernel_rfl) (by kernel_rfl) ⟨X.drew, Y.drew⟩ ?_
  clear X_0 X_1 X_2 X_3 X_4 X_5 X_f0 X_f1 X_f2 X_f3 X_f4 X_f5 X_t
  clear Y_0 Y_1 Y_2 Y_3 Y_4 Y_5 Y_f0 Y_f1 Y_f2 Y_f3 Y_f4 Y_f5 Y_t
  simp only [List.take_succ_cons, List.take_zero]
  iterate 6 (
    apply SeqH.one
    · intro uw K hS hK
      obtain ⟨qX, qY⟩ := hS
      have qX_0 := qX.cells 0 _ rfl
      have qX_1 := qX.cells 1 _ rfl
      have qX_2 := qX.cells 2 _ rfl
      have qX_3 := qX.cells 3 _ rfl
      have qX_4 := qX.cells 4 _ rfl
      have qX_5 := qX.cells 5 _ rfl
      have qY_0 := qY.cells 0 _ rfl
      have qY_1 := qY.cells 1 _ rfl
      have qY_2 := qY.cells 2 _ rfl
      have qY_3 := qY.cells 3 _ rfl
      have qY_4 := qY.cells 4 _ rfl
      have qY_5 := qY.cells 5 _ rfl
      first
        | (go_simp; exact hK.out _ ⟨qX, qY⟩)
        | (go_simp; go_at_call 54; (with_reducible refine (cols_any x y HX.out HY.out _).mono ?_); rintro e uw1 ⟨rfl, hv⟩; go_wp2_with fail; exact hK.out _ ⟨qX.more hv, qY.more hv⟩)
        | (go_simp; go_at_call 55; (with_reducible refine (rows_any x y HX.out HY.out _).mono ?_); rintro e uw1 ⟨rfl, hv⟩; go_wp2_with fail; exact hK.out _ ⟨qX.more hv, qY.more hv⟩)
    try simp only [Act.put, List.setIfInBounds_toArray, List.set_cons_zero, List.set_cons_succ])
  refine SeqH.rest rfl ?_
  intro v2 hS
  clear X Y
  obtain ⟨X, Y⟩ := hS
  simp only [List.drop_succ_cons, List.drop_zero]
  have X_0 := X.cells 0 _ rfl
  have X_1 := X.cells 1 _ rfl
  have X_2 := X.cells 2 _ rfl
  have X_3 := X.cells 3 _ rfl
  have X_4 := X.cells 4 _ rfl
  have X_5 := X.cells 5 _ rfl
  have X_f0 := X.free 0 (by simp)
  have X_f1 := X.free 1 (by simp)
  have X_f2 := X.free 2 (by simp)
  have X_f3 := X.free 3 (by simp)
  have X_f4 := X.free 4 (by simp)
  have X_f5 := X.free 5 (by simp)
  have X_t := X.there
  have Y_0 := Y.cells 0 _ rfl
  have Y_1 := Y.cells 1 _ rfl
  have Y_2 := Y.cells 2 _ rfl
  have Y_3 := Y.cells 3 _ rfl
  have Y_4 := Y.cells 4 _ rfl
  have Y_5 := Y.cells 5 _ rfl
  have Y_f0 := Y.free 0 (by simp)
  have Y_f1 := Y.free 1 (by simp)
  have Y_f2 := Y.free 2 (by simp)
  have Y_f3 := Y.free 3 (by simp)
  have Y_f4 := Y.free 4 (by simp)
  have Y_f5 := Y.free 5 (by simp)
  have Y_t := Y.there
  clear X_0 X_1 X_2 X_3 X_4 X_5 X_f0 X_f1 X_f2 X_f3 X_f4 X_f5 X_t
  clear Y_0 Y_1 Y_2 Y_3 Y_4 Y_5 Y_f0 Y_f1 Y_f2 Y_f3 Y_f4 Y_f5 Y_t
  have HC := Lib.hid (show bankI x y = if cols x y = 0 then most (rows x y) 0 else if rows x y = 0 then most (cols x y) 0 else 0 from rfl)
  generalize cols x y = c at *
  generalize rows x y = r at *
  by_cases hc : c = 0
  · subst hc
    go_wp2
    all_goals
      go_ret
      exact rpost (by rw [HC.out]; simp only [if_true]; unfold most; split <;> first | rfl | (exact congrArg (Value.int .i64) (by omega)) | omega) X.below
  have hc' : (c == 0) = false := by simp [hc]
  by_cases hr : r = 0
  · subst hr
    go_wp2
    all_goals
      go_ret
      exact rpost (by rw [HC.out, if_neg hc]; simp only [if_true]; unfold most; split <;> first | rfl | (exact congrArg (Value.int .i64) (by omega)) | omega) X.below
  have hr' : (r == 0) = false := by simp [hr]
  go_wp2
  go_ret
  exact rpost (by rw [HC.out, if_neg hc, if_neg hr] <;> rfl) X.below
end Go.Proofs.Ytncdkfkihfhcgaa.IPond
