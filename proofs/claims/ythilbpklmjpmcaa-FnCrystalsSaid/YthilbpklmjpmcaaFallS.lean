/- l10Falls, fallingFrom, waterWith; l10Fall. -/
import Derived.Test.YthilbpklmjpmcaaLiqG
import Derived.Test.YthilbpklmjpmcaaFallP
import Derived.Test.YthilbpklmjpmcaaRegn3
import Derived.Lib.MinMax
import Derived.Deep.AppendLies
import Derived.Maps.AppendAt
namespace Go.Proofs.Ythilbpklmjpmcaa.FallS
open Go.RowKit Go.Proofs.Ythilbpklmjpmcaa.Mem Go.Proofs.Ythilbpklmjpmcaa.Base Go.Proofs.Ythilbpklmjpmcaa.SInt Go.Proofs.Ythilbpklmjpmcaa.Regn Go.Proofs.Ythilbpklmjpmcaa.Boxes Go.Proofs.Ythilbpklmjpmcaa.Keep Go.Proofs.Ythilbpklmjpmcaa.Within Go.Proofs.Ythilbpklmjpmcaa.Nest Go.Proofs.Ythilbpklmjpmcaa.SKind Go.Proofs.Ythilbpklmjpmcaa.KindP Go.Proofs.Ythilbpklmjpmcaa.KindG Go.Proofs.Ythilbpklmjpmcaa.LiqP Go.Proofs.Ythilbpklmjpmcaa.LiqG Go.Proofs.Ythilbpklmjpmcaa.FallP
set_option linter.unusedVariables false
set_option maxRecDepth 100000
theorem most_max (a b : Int) : most a b = max a b := by unfold most; split <;> omega
theorem least_min (a b : Int) : least a b = min a b := by unfold least; split <;> omega
set_option maxHeartbeats 800000 in
theorem falls_spec (x : R) (sl wt : Int) (hk : 0 ≤ x.f1 ∧ x.f1 ≤ 9) (h0 : 1 ≤ x.f2) (h1 : x.f2 ≤ 1000) (h2 : 0 ≤ sl) (h3 : sl ≤ 1000000) (h4 : 0 ≤ wt) (h5 : wt ≤ 1000000) (w : World) :
    Calls Try.prog 82 #[.agg #[.string x.f0, .int .i64 x.f1, .int .i64 x.f2], .int .i64 sl, .int .i64 wt] w (RPost (.int .i64 (fallI x.f1 x.f2 sl wt)) w) := by
  have hkr := (keep_range (show 0 ≤ x.f2 by omega) h1 h4 h5).2
  have HK := Lib.hid (keeps_spec x wt h0 h1 h4 h5)
  obtain ⟨kp, hkp⟩ : ∃ v, keepI x.f2 wt = v := ⟨_, rfl⟩
  have hf0 := fun h : x.f1 = 0 => show fallI x.f1 x.f2 sl wt = most 0 (sl - kp) by rw [h, fall_zero, hkp]
  have hf1 := fun h : 0 < x.f1 => show fallI x.f1 x.f2 sl wt = least (most 0 (sl - kp)) ((10 * wt + 9) / x.f1) by rw [fall_pos h, hkp]
  rw [hkp] at HK hkr
  have HF0 := Lib.hid hf0
  have HF1 := Lib.hid hf1
  clear hf0 hf1 hkp
  have e1 : IntKind.i64.wrap (sl - kp) = sl - kp := IntWalk.i64_in _ (by omega)
  have e2 : IntKind.i64.wrap (10 * wt) = 10 * wt := IntWalk.i64_in _ (by omega)
  have e3 : IntKind.i64.wrap (10 * wt + 9) = 10 * wt + 9 := IntWalk.i64_in _ (by omega)
  go_enter Try.func82, Try.ntmps82
  go_wp2_with fail
  have X := Box.new (Below.refl _ w) [.string x.f0, .int .i64 x.f1, .int .i64 x.f2] 37 (g := w.heap.size) rfl
  generalize (w.alloc (.cells #[.string x.f0, .int .i64 x.f1, .int .i64 x.f2] 37)) = W1 at X ⊢
  have X_0 := X.cells 0 _ rfl
  have X_1 := X.cells 1 _ rfl
  have X_2 := X.cells 2 _ rfl
  have X_f0 := X.free 0 (by simp)
  have X_f1 := X.free 1 (by simp)
  have X_f2 := X.free 2 (by simp)
  have X_t := X.there
  go_wp2_with fail
  refine (HK.out _).mono ?_
  rintro e v2 ⟨rfl, hv2⟩
  clear X_0 X_1 X_2 X_f0 X_f1 X_f2 X_t
  replace X := X.more hv2
  have zhv2 := hv2.size
  clear hv2
  have X_0 := X.cells 0 _ rfl
  have X_1 := X.cells 1 _ rfl
  have X_2 := X.cells 2 _ rfl
  have X_f0 := X.free 0 (by simp)
  have X_f1 := X.free 1 (by simp)
  have X_f2 := X.free 2 (by simp)
  have X_t := X.there
  have X_0 := X.cells 0 _ rfl
  have X_1 := X.cells 1 _ rfl
  have X_2 := X.cells 2 _ rfl
  have X_f0 := X.free 0 (by simp)
  have X_f1 := X.free 1 (by simp)
  have X_f2 := X.free 2 (by simp)
  have X_t := X.there
  by_cases hz : x.f1 = 0
  · have HQ := Lib.hid (HF0.out hz)
    have hq : decide ((0 : Int) < x.f1) = false := decide_eq_false (by omega)
    clear hz
    go_wp2_with (go_at_call 88; (with_reducible refine (most_any _ _ _).mono ?_); rintro e _ ⟨rfl, rfl⟩)
    go_ret
    exact rpost (by rw [HQ.out] <;> rfl) X.below
  · have HQ := Lib.hid (HF1.out (by omega))
    have hq : decide ((0 : Int) < x.f1) = true := decide_eq_true (by omega)
    have hd := div_range (a := 10 * wt + 9) (g := x.f1) (by omega) (by omega) (by omega)
    have e4 : (10 * wt + 9).tdiv x.f1 = (10 * wt + 9) / x.f1 := Int.tdiv_eq_ediv_of_nonneg (by omega)
    have e5 : ¬ (x.f1 = 0) := hz
    have e6 : IntKind.i64.wrap ((10 * wt + 9) / x.f1) = (10 * wt + 9) / x.f1 := IntWalk.i64_in _ (by omega)
    clear hz hd
    go_wp2_with (first | (go_at_call 88; (with_reducible refine (most_any _ _ _).mono ?_); rintro e _ ⟨rfl, rfl⟩) | (go_at_call 75; (with_reducible refine (least_any _ _ _).mono ?_); rintro e _ ⟨rfl, rfl⟩))
    go_ret
    exact rpost (by rw [HQ.out] <;> rfl) X.below
set_option maxHeartbeats 800000 in
theorem falls_impl (x : R) (sl wt : Int) (hk : 0 ≤ x.f1 ∧ x.f1 ≤ 9) (h0 : 1 ≤ x.f2) (h1 : x.f2 ≤ 1000) (h2 : 0 ≤ sl) (h3 : sl ≤ 1000000) (h4 : 0 ≤ wt) (h5 : wt ≤ 1000000) (w : World) :
    Calls Try.prog 64 #[.int .i64 wt, .agg #[.string x.f0, .int .i64 x.f1, .int .i64 x.f2], .int .i64 sl] w (RPost (.int .i64 (fallI x.f1 x.f2 sl wt)) w) := by
  have hkr := (keep_range (show 0 ≤ x.f2 by omega) h1 h4 h5).2
  have HK := Lib.hid (keeps_impl x wt h0 h1 h4 h5)
  obtain ⟨kp, hkp⟩ : ∃ v, keepI x.f2 wt = v := ⟨_, rfl⟩
  have hmm : most 0 (sl - kp) = max (sl - kp) 0 := by rw [most_max]; omega
  have hf0 := fun h : x.f1 = 0 => show fallI x.f1 x.f2 sl wt = max (sl - kp) 0 by rw [h, fall_zero, hkp, hmm]
  have hf1 := fun h : 0 < x.f1 => show fallI x.f1 x.f2 sl wt = min (max (sl - kp) 0) ((10 * wt + 9) / x.f1) by rw [fall_pos h, hkp, hmm, least_min]
  rw [hkp] at HK hkr
  have HF0 := Lib.hid hf0
  have HF1 := Lib.hid hf1
  clear hf0 hf1 hkp hmm
  have e1 : IntKind.i64.wrap (sl - kp) = sl - kp := IntWalk.i64_in _ (by omega)
  have e2 : IntKind.i64.wrap (wt + 1) = wt + 1 := IntWalk.i64_in _ (by omega)
  have e3 : IntKind.i64.wrap ((wt + 1) * 10) = (wt + 1) * 10 := IntWalk.i64_in _ (by omega)
  have e7 : IntKind.i64.wrap ((wt + 1) * 10 - 1) = 10 * wt + 9 := by rw [IntWalk.i64_in _ (by omega)]; omega
  go_enter Try.func64, Try.ntmps64
  go_wp2_with fail
  have X := Box.new (Below.refl _ w) [.string x.f0, .int .i64 x.f1, .int .i64 x.f2] 37 (g := w.heap.size) rfl
  generalize (w.alloc (.cells #[.string x.f0, .int .i64 x.f1, .int .i64 x.f2] 37)) = W1 at X ⊢
  have X_0 := X.cells 0 _ rfl
  have X_1 := X.cells 1 _ rfl
  have X_2 := X.cells 2 _ rfl
  have X_f0 := X.free 0 (by simp)
  have X_f1 := X.free 1 (by simp)
  have X_f2 := X.free 2 (by simp)
  have X_t := X.there
  go_wp2_with fail
  refine (HK.out _).mono ?_
  rintro e v2 ⟨rfl, hv2⟩
  clear X_0 X_1 X_2 X_f0 X_f1 X_f2 X_t
  replace X := X.more hv2
  have zhv2 := hv2.size
  clear hv2
  have X_0 := X.cells 0 _ rfl
  have X_1 := X.cells 1 _ rfl
  have X_2 := X.cells 2 _ rfl
  have X_f0 := X.free 0 (by simp)
  have X_f1 := X.free 1 (by simp)
  have X_f2 := X.free 2 (by simp)
  have X_t := X.there
  have X_0 := X.cells 0 _ rfl
  have X_1 := X.cells 1 _ rfl
  have X_2 := X.cells 2 _ rfl
  have X_f0 := X.free 0 (by simp)
  have X_f1 := X.free 1 (by simp)
  have X_f2 := X.free 2 (by simp)
  have X_t := X.there
  by_cases hz : x.f1 = 0
  · have HQ := Lib.hid (HF0.out hz)
    have hq : ((x.f1 : Int) == 0) = true := by rw [beq_iff_eq]; exact hz
    clear hz
    go_wp2
    go_ret
    exact rpost (by rw [HQ.out] <;> rfl) X.below
  · have HQ := Lib.hid (HF1.out (by omega))
    have hq : ((x.f1 : Int) == 0) = false := by rw [beq_eq_false_iff_ne]; exact hz
    have hd := div_range (a := 10 * wt + 9) (g := x.f1) (by omega) (by omega) (by omega)
    have e4 : (10 * wt + 9).tdiv x.f1 = (10 * wt + 9) / x.f1 := Int.tdiv_eq_ediv_of_nonneg (by omega)
    have e5 : ¬ (x.f1 = 0) := hz
    have e6 : IntKind.i64.wrap ((10 * wt + 9) / x.f1) = (10 * wt + 9) / x.f1 := IntWalk.i64_in _ (by omega)
    clear hz hd
    go_wp2
    go_ret
    exact rpost (by rw [HQ.out] <;> rfl) X.below
theorem with_impl (x : R) (n : Int) (hk : 0 ≤ x.f1 ∧ x.f1 ≤ 9) (h2 : 0 ≤ n) (h3 : n ≤ 1000000) (w : World) :
    Calls Try.prog 65 #[.agg #[.string x.f0, .int .i64 x.f1, .int .i64 x.f2], .int .i64 n] w (RPost (.int .i64 (n * x.f1 / 10)) w) := by
  have a0 : 0 ≤ x.f1 * n := Int.mul_nonneg hk.1 h2
  have a1 : x.f1 * n ≤ 9 * 1000000 := Int.mul_le_mul hk.2 h3 h2 (by omega)
  have e1 : IntKind.i64.wrap (x.f1 * n) = x.f1 * n := IntWalk.i64_in _ (by omega)
  have e2 : (x.f1 * n).tdiv 10 = x.f1 * n / 10 := Int.tdiv_eq_ediv_of_nonneg a0
  have e3 : IntKind.i64.wrap (x.f1 * n / 10) = x.f1 * n / 10 := IntWalk.i64_in _ (by omega)
  have HC := Lib.hid (Int.mul_comm x.f1 n)
  clear a0 a1
  go_enter Try.func65, Try.ntmps65
  go_wp2
  go_ret
  exact rpost (by rw [← HC.out] <;> rfl) (al (Below.refl _ _))
end Go.Proofs.Ythilbpklmjpmcaa.FallS
