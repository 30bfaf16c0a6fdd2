/- The program's functions on brines: water to lose, to add, stronger. -/
import Derived.Test.YtcmomccdnkligaaIBrine
namespace Go.Proofs.Ytcmomccdnkligaa.IBrine2
open Go.RowKit Go.Proofs.Ytcmomccdnkligaa.Mem Go.Proofs.Ytcmomccdnkligaa.Base Go.Proofs.Ytcmomccdnkligaa.Brine Go.Proofs.Ytcmomccdnkligaa.Brine2 Go.Proofs.Ytcmomccdnkligaa.Regn Go.Proofs.Ytcmomccdnkligaa.Boxes Go.Proofs.Ytcmomccdnkligaa.IBrine Go.Proofs.Ytcmomccdnkligaa.Brine4 Go.Proofs.Ytcmomccdnkligaa.Brine5
set_option linter.unusedVariables false
set_option maxRecDepth 100000
theorem okR_eq (n d : Int) : (inB d 1 1000 && inB n 1 d) = okR n d := by
  unfold okR inB; rw [Bool.eq_iff_iff]; simp; omega
theorem rate_impl (n d : Int) (w : World) : Calls Try.prog 91 #[.int .i64 n, .int .i64 d] w fun e w' => e = .returned (.bool (okR n d)) ∧ w = w' := by
  cases h1 : inB d 1 1000
  all_goals
    have H := Lib.hid (okR_eq n d)
    go_enter Try.func91, Try.ntmps91
    go_wp2_with (go_at_call 57; refine (within_any _ _ _ _).mono ?_; rintro e w' ⟨rfl, rfl⟩)
    go_ret
    exact ⟨by rw [← H.out, h1]; rfl, rfl⟩
theorem lose_eq {a b n d : Int} (hn : 1 ≤ n) : max (a - b * (d - n) / n) 0 = loseI a b n d := by
  have e : b * (d - n) / n = b * d / n - b := by
    rw [Int.mul_sub, Int.sub_mul_ediv_right _ _ (by omega)]
  unfold loseI most
  rw [e]
  have : a + b - b * d / n = a - (b * d / n - b) := by omega
  rw [this]
  rw [Int.max_def]
  split <;> split <;> omega
theorem lose_impl (a b n d : Int) (w : World) : Calls Try.prog 73 #[.agg #[.int .i64 a, .int .i64 b], .int .i64 n, .int .i64 d] w (RPost (loseV a b n d) w) := by
  go_enter Try.func73, Try.ntmps73
  go_wp2_with fail
  have B := Box.new (Below.refl _ w) [.int .i64 a, .int .i64 b] 26 (g := w.heap.size) rfl
  generalize (w.alloc (.cells #[.int .i64 a, .int .i64 b] 26)) = W1 at B ⊢
  have B_0 := B.cells 0 _ rfl
  have B_1 := B.cells 1 _ rfl
  have B_f0 := B.free 0 (by simp)
  have B_f1 := B.free 1 (by simp)
  have B_t := B.there
  go_wp2_with fail
  refine (brine_impl a b _).mono ?_
  rintro e v2 ⟨rfl, hv2⟩
  clear B_0 B_1 B_f0 B_f1 B_t
  replace B := B.more hv2
  have zhv2 := hv2.size
  clear hv2
  have B_0 := B.cells 0 _ rfl
  have B_1 := B.cells 1 _ rfl
  have B_f0 := B.free 0 (by simp)
  have B_f1 := B.free 1 (by simp)
  have B_t := B.there
  cases hok : okB a b
  · go_wp2
    go_ret2
    exact rpost (lose_no (by unfold loseOk; rw [hok]; rfl)).out.symm B.below
  obtain ⟨ha, ha1, hb, hb1⟩ := okB_true hok
  by_cases h0 : b = 0
  · subst h0
    go_wp2
    go_ret2
    exact rpost (lose_no (by unfold loseOk; simp)).out.symm B.below
  have hz : (b == 0) = false := by rw [beq_eq_false_iff_ne]; exact h0
  go_wp2_with fail
  refine (rate_impl n d _).mono ?_
  rintro e _ ⟨rfl, rfl⟩
  cases hr : okR n d
  · go_wp2
    go_ret2
    exact rpost (lose_no (by unfold loseOk; rw [hr]; simp)).out.symm B.below
  obtain ⟨hn, hnd, hd⟩ := okR_true hr
  have H := lose_yes (a := a) (b := b) (n := n) (d := d) (by unfold loseOk; rw [hr, hok]; simp [h0])
  have HE := Lib.hid (lose_eq (a := a) (b := b) (d := d) hn)
  have m1 : 0 ≤ b * (d - n) := Int.mul_nonneg hb (by omega)
  have m2 : b * (d - n) ≤ 1000000 * 1000 := Int.mul_le_mul hb1 (by omega) (by omega) (by omega)
  have m3 : IntKind.i64.wrap (b * (d - n)) = b * (d - n) := IntWalk.i64_in _ (by omega)
  have m4 : (b * (d - n)).tdiv n = b * (d - n) / n := Int.tdiv_eq_ediv_of_nonneg m1
  have m5 : 0 ≤ b * (d - n) / n := Int.ediv_nonneg m1 (by omega)
  have m6 : b * (d - n) / n ≤ b * (d - n) := Int.ediv_le_self _ m1
  have m7 : IntKind.i64.wrap (b * (d - n) / n) = b * (d - n) / n := IntWalk.i64_in _ (by omega)
  have m8 : ¬ (n = 0) := by omega
  have m9 : IntKind.i64.wrap (a - b * (d - n) / n) = a - b * (d - n) / n := IntWalk.i64_in _ (by omega)
  clear m1 m2 m5 m6
  go_wp2
  · go_ret2
    exact rpost (by rw [H.out, ← HE.out, Int.max_eq_right (by omega)] <;> rfl) B.below
  · go_ret2
    exact rpost (by rw [H.out, ← HE.out, Int.max_eq_left (by omega)] <;> rfl) B.below
end Go.Proofs.Ytcmomccdnkligaa.IBrine2
