/- Ponds by value: the model's small functions. -/
import Derived.Test.YtncdkfkihfhcgaaSPond
import Derived.Test.YtncdkfkihfhcgaaRegn2
import Derived.Test.YtncdkfkihfhcgaaBox
namespace Go.Proofs.Ytncdkfkihfhcgaa.Pond
open Go.RowKit Go.Proofs.Ytncdkfkihfhcgaa.Mem Go.Proofs.Ytncdkfkihfhcgaa.Base Go.Proofs.Ytncdkfkihfhcgaa.SPond Go.Proofs.Ytncdkfkihfhcgaa.Regn Go.Proofs.Ytncdkfkihfhcgaa.Boxes
set_option linter.unusedVariables false
set_option maxRecDepth 100000
def okP (x : R) : Bool := inB x.f0 1 99 && inB x.f1 0 49 && inB x.f2 0 49 && inB x.f3 1 20 && inB x.f4 1 20 && decide (x.f1 + x.f3 ≤ 50) && decide (x.f2 + x.f4 ≤ 50) && inB x.f5 5 200
theorem okP_true {x : R} (h : okP x = true) : 1 ≤ x.f0 ∧ x.f0 ≤ 99 ∧ 0 ≤ x.f1 ∧ x.f1 ≤ 49 ∧ 0 ≤ x.f2 ∧ x.f2 ≤ 49 ∧ 1 ≤ x.f3 ∧ x.f3 ≤ 20 ∧ 1 ≤ x.f4 ∧ x.f4 ≤ 20 ∧ x.f1 + x.f3 ≤ 50 ∧ x.f2 + x.f4 ≤ 50 ∧ 5 ≤ x.f5 ∧ x.f5 ≤ 200 := by
  unfold okP at h
  simp only [Bool.and_eq_true, decide_eq_true_eq] at h
  obtain ⟨⟨⟨⟨⟨⟨⟨h0, h1⟩, h2⟩, h3⟩, h4⟩, h5⟩, h6⟩, h7⟩ := h
  have i0 := of_inB h0; have i1 := of_inB h1; have i2 := of_inB h2; have i3 := of_inB h3; have i4 := of_inB h4; have i7 := of_inB h7
  omega
theorem one_spec (a b c d e f : Int) (w : World) : Calls Try.prog 56 #[.agg #[.int .i64 a, .int .i64 b, .int .i64 c, .int .i64 d, .int .i64 e, .int .i64 f]] w (RPost (.bool (okP ⟨a, b, c, d, e, f⟩)) w) := by
  cases h0 : inB a 1 99
  · have H := Lib.hid (show okP ⟨a, b, c, d, e, f⟩ = false by unfold okP; simp only [h0]; rfl)
    go_enter Try.func56, Try.ntmps56
    go_wp2_with (go_at_call 50; (with_reducible refine (in_any _ _ _ _).mono ?_); rintro e' w' ⟨rfl, rfl⟩)
    go_ret
    exact rpost (by rw [H.out] <;> rfl) (al (Below.refl _ _))
  cases h1 : inB b 0 49
  · have H := Lib.hid (show okP ⟨a, b, c, d, e, f⟩ = false by unfold okP; simp only [h0, h1]; rfl)
    go_enter Try.func56, Try.ntmps56
    go_wp2_with (go_at_call 50; (with_reducible refine (in_any _ _ _ _).mono ?_); rintro e' w' ⟨rfl, rfl⟩)
    go_ret
    exact rpost (by rw [H.out] <;> rfl) (al (Below.refl _ _))
  cases h2 : inB c 0 49
  · have H := Lib.hid (show okP ⟨a, b, c, d, e, f⟩ = false by unfold okP; simp only [h0, h1, h2]; rfl)
    go_enter Try.func56, Try.ntmps56
    go_wp2_with (go_at_call 50; (with_reducible refine (in_any _ _ _ _).mono ?_); rintro e' w' ⟨rfl, rfl⟩)
    go_ret
    exact rpost (by rw [H.out] <;> rfl) (al (Below.refl _ _))
  cases h3 : inB d 1 20
  · have H := Lib.hid (show okP ⟨a, b, c, d, e, f⟩ = false by unfold okP; simp only [h0, h1, h2, h3]; rfl)
    go_enter Try.func56, Try.ntmps56
    go_wp2_with (go_at_call 50; (with_reducible refine (in_any _ _ _ _).mono ?_); rintro e' w' ⟨rfl, rfl⟩)
    go_ret
    exact rpost (by rw [H.out] <;> rfl) (al (Below.refl _ _))
  cases h4 : inB e 1 20
  · have H := Lib.hid (show okP ⟨a, b, c, d, e, f⟩ = false by unfold okP; simp only [h0, h1, h2, h3, h4]; rfl)
    go_enter Try.func56, Try.ntmps56
    go_wp2_with (go_at_call 50; (with_reducible refine (in_any _ _ _ _).mono ?_); rintro e' w' ⟨rfl, rfl⟩)
    go_ret
    exact rpost (by rw [H.out] <;> rfl) (al (Below.refl _ _))
  have i1 := of_inB h1
  have i2 := of_inB h2
  have i3 := of_inB h3
  have i4 := of_inB h4
  have y1 : IntKind.i64.wrap (b + d) = b + d := IntWalk.i64_in _ (by omega)
  have y2 : IntKind.i64.wrap (c + e) = c + e := IntWalk.i64_in _ (by omega)
  clear i1 i2 i3 i4
  cases h5 : decide (b + d ≤ 50)
  · have H := Lib.hid (show okP ⟨a, b, c, d, e, f⟩ = false by unfold okP; simp only [h0, h1, h2, h3, h4, h5]; rfl)
    go_enter Try.func56, Try.ntmps56
    go_wp2_with (go_at_call 50; (with_reducible refine (in_any _ _ _ _).mono ?_); rintro e' w' ⟨rfl, rfl⟩)
    go_ret
    exact rpost (by rw [H.out] <;> rfl) (al (Below.refl _ _))
  cases h6 : decide (c + e ≤ 50)
  · have H := Lib.hid (show okP ⟨a, b, c, d, e, f⟩ = false by unfold okP; simp only [h0, h1, h2, h3, h4, h5, h6]; rfl)
    go_enter Try.func56, Try.ntmps56
    go_wp2_with (go_at_call 50; (with_reducible refine (in_any _ _ _ _).mono ?_); rintro e' w' ⟨rfl, rfl⟩)
    go_ret
    exact rpost (by rw [H.out] <;> rfl) (al (Below.refl _ _))
  have H := Lib.hid (show okP ⟨a, b, c, d, e, f⟩ = inB f 5 200 by unfold okP; simp only [h0, h1, h2, h3, h4, h5, h6]; rfl)
  go_enter Try.func56, Try.ntmps56
  go_wp2_with (go_at_call 50; (with_reducible refine (in_any _ _ _ _).mono ?_); rintro e' w' ⟨rfl, rfl⟩)
  go_ret
  exact rpost (by rw [H.out] <;> rfl) (al (Below.refl _ _))
/-- how many numbers two ranges have in common. -/
def common (a n b m : Int) : Int := most 0 (least (a + n) (b + m) - most a b)
theorem common_bd {a n b m : Int} (hn : 0 ≤ n) : 0 ≤ common a n b m ∧ common a n b m ≤ n := by
  unfold common most least
  split <;> split <;> split <;> omega
theorem common_spec (a n b m : Int) (ha : -1000 ≤ a) (ha1 : a ≤ 1000) (hn : -1000 ≤ n) (hn1 : n ≤ 1000) (hb : -1000 ≤ b) (hb1 : b ≤ 1000) (hm : -1000 ≤ m) (hm1 : m ≤ 1000) (w : World) :
    Calls Try.prog 53 #[.int .i64 a, .int .i64 n, .int .i64 b, .int .i64 m] w fun e w' => e = .returned (.int .i64 (common a n b m)) ∧ w = w' := by
  have y1 : IntKind.i64.wrap (a + n) = a + n := IntWalk.i64_in _ (by omega)
  have y2 : IntKind.i64.wrap (b + m) = b + m := IntWalk.i64_in _ (by omega)
  have y3 : IntKind.i64.wrap (least (a + n) (b + m) - most a b) = least (a + n) (b + m) - most a b := IntWalk.i64_in _ (by unfold least most; split <;> split <;> omega)
  have H := Lib.hid (show common a n b m = most 0 (least (a + n) (b + m) - most a b) from rfl)
  go_enter Try.func53, Try.ntmps53
  go_wp2_with (first | (go_at_call 44; (with_reducible refine (least_any _ _ _).mono ?_); rintro e' w' ⟨rfl, rfl⟩) | (go_at_call 45; (with_reducible refine (most_any _ _ _).mono ?_); rintro e' w' ⟨rfl, rfl⟩))
  go_ret
  exact ⟨by rw [H.out] <;> rfl, rfl⟩
/-- the bank of two ponds. -/
def bank (x y : R) : Int :=
  if x.f1 + x.f3 = y.f1 ∨ y.f1 + y.f3 = x.f1 then common x.f2 x.f4 y.f2 y.f4
  else if x.f2 + x.f4 = y.f2 ∨ y.f2 + y.f4 = x.f2 then common x.f1 x.f3 y.f1 y.f3 else 0
set_option maxHeartbeats 1000000 in
theorem bank_spec (x y : R) (hx : okP x = true) (hy : okP y = true) (w : World) : Calls Try.prog 34 #[.agg #[.int .i64 x.f0, .int .i64 x.f1, .int .i64 x.f2, .int .i64 x.f3, .int .i64 x.f4, .int .i64 x.f5], .agg #[.int .i64 y.f0, .int .i64 y.f1, .int .i64 y.f2, .int .i64 y.f3, .int .i64 y.f4, .int .i64 y.f5]] w (RPost (.int .i64 (bank x y)) w) := by
  obtain ⟨_, _, a1, a2, a3, a4, a5, a6, a7, a8, _, _, _, _⟩ := okP_true hx
  obtain ⟨_, _, b1, b2, b3, b4, b5, b6, b7, b8, _, _, _, _⟩ := okP_true hy
  have y1 : IntKind.i64.wrap (x.f1 + x.f3) = x.f1 + x.f3 := IntWalk.i64_in _ (by omega)
  have y2 : IntKind.i64.wrap (y.f1 + y.f3) = y.f1 + y.f3 := IntWalk.i64_in _ (by omega)
  have y3 : IntKind.i64.wrap (x.f2 + x.f4) = x.f2 + x.f4 := IntWalk.i64_in _ (by omega)
  have y4 : IntKind.i64.wrap (y.f2 + y.f4) = y.f2 + y.f4 := IntWalk.i64_in _ (by omega)
  by_cases h1 : x.f1 + x.f3 = y.f1
  · have H := Lib.hid (show bank x y = common x.f2 x.f4 y.f2 y.f4 by unfold bank; rw [if_pos (.inl h1)])
    go_enter Try.func34, Try.ntmps34
    go_wp2_with (go_at_call 53; (with_reducible refine (common_spec x.f2 x.f4 y.f2 y.f4 (by omega) (by omega) (by omega) (by omega) (by omega) (by omega) (by omega) (by omega) _).mono ?_); rintro e' w' ⟨rfl, rfl⟩)
    go_ret
    exact rpost (by rw [H.out] <;> rfl) (al (al (Below.refl _ _)))
  have e1 : (x.f1 + x.f3 == y.f1) = false := by simp [h1]
  by_cases h2 : y.f1 + y.f3 = x.f1
  · have H := Lib.hid (show bank x y = common x.f2 x.f4 y.f2 y.f4 by unfold bank; rw [if_pos (.inr h2)])
    go_enter Try.func34, Try.ntmps34
    go_wp2_with (go_at_call 53; (with_reducible refine (common_spec x.f2 x.f4 y.f2 y.f4 (by omega) (by omega) (by omega) (by omega) (by omega) (by omega) (by omega) (by omega) _).mono ?_); rintro e' w' ⟨rfl, rfl⟩)
    go_ret
    exact rpost (by rw [H.out] <;> rfl) (al (al (Below.refl _ _)))
  have e2 : (y.f1 + y.f3 == x.f1) = false := by simp [h2]
  by_cases h3 : x.f2 + x.f4 = y.f2
  · have H := Lib.hid (show bank x y = common x.f1 x.f3 y.f1 y.f3 by unfold bank; rw [if_neg (by simp [h1, h2]), if_pos (.inl h3)])
    go_enter Try.func34, Try.ntmps34
    go_wp2_with (go_at_call 53; (with_reducible refine (common_spec x.f1 x.f3 y.f1 y.f3 (by omega) (by omega) (by omega) (by omega) (by omega) (by omega) (by omega) (by omega) _).mono ?_); rintro e' w' ⟨rfl, rfl⟩)
    go_ret
    exact rpost (by rw [H.out] <;> rfl) (al (al (Below.refl _ _)))
  have e3 : (x.f2 + x.f4 == y.f2) = false := by simp [h3]
  by_cases h4 : y.f2 + y.f4 = x.f2
  · have H := Lib.hid (show bank x y = common x.f1 x.f3 y.f1 y.f3 by unfold bank; rw [if_neg (by simp [h1, h2]), if_pos (.inr h4)])
    go_enter Try.func34, Try.ntmps34
    go_wp2_with (go_at_call 53; (with_reducible refine (common_spec x.f1 x.f3 y.f1 y.f3 (by omega) (by omega) (by omega) (by omega) (by omega) (by omega) (by omega) (by omega) _).mono ?_); rintro e' w' ⟨rfl, rfl⟩)
    go_ret
    exact rpost (by rw [H.out] <;> rfl) (al (al (Below.refl _ _)))
  have e4 : (y.f2 + y.f4 == x.f2) = false := by simp [h4]
  have H := Lib.hid (show bank x y = 0 by unfold bank; rw [if_neg (by simp [h1, h2]), if_neg (by simp [h3, h4])])
  go_enter Try.func34, Try.ntmps34
  go_wp2_with (go_at_call 53; (with_reducible refine (common_spec x.f1 x.f3 y.f1 y.f3 (by omega) (by omega) (by omega) (by omega) (by omega) (by omega) (by omega) (by omega) _).mono ?_); rintro e' w' ⟨rfl, rfl⟩)
  go_ret
  exact rpost (by rw [H.out] <;> rfl) (al (al (Below.refl _ _)))
end Go.Proofs.Ytncdkfkihfhcgaa.Pond
