/- Brines by value: the model's small functions, and the laws' helpers on one brine. -/
import Derived.Test.YtbbnbkdglihhhaaBase
import Derived.WalkLawsBesides
import Derived.WalkSpells
namespace Go.Proofs.Ytbbnbkdglihhhaa.Brine
open Go.RowKit Go.Proofs.Ytbbnbkdglihhhaa.Mem Go.Proofs.Ytbbnbkdglihhhaa.Base
set_option linter.unusedVariables false

/-- A brine as a value. -/
def br (a b : Int) : Value := .agg #[.int .i64 a, .int .i64 b]
/-- returned with this value, only new memory. -/
def RPost (v : Value) (w : World) (e : Ending) (w' : World) : Prop := e = .returned v ∧ Below w.heap.size w w'
theorem rpost {v u : Value} {w w' : World} (h : u = v) (hw : Below w.heap.size w w') : RPost v w (.returned u) w' := ⟨by rw [h], hw⟩
def okB (a b : Int) : Bool := inB a 0 1000000 && inB b 0 1000000
theorem okB_true {a b : Int} (h : okB a b = true) : 0 ≤ a ∧ a ≤ 1000000 ∧ 0 ≤ b ∧ b ≤ 1000000 := by
  unfold okB at h
  rw [Bool.and_eq_true] at h
  have h1 := of_inB h.1; have h2 := of_inB h.2; omega

theorem brine_spec (a b : Int) (w : World) : Calls Try.prog 68 #[.agg #[.int .i64 a, .int .i64 b]] w (RPost (.bool (okB a b)) w) := by
  cases h1 : inB a 0 1000000
  · have H := Lib.hid (show okB a b = false by unfold okB; rw [h1]; rfl)
    go_enter Try.func68, Try.ntmps68
    go_wp2_with (go_at_call 96; refine (in_any _ _ _ _).mono ?_; rintro e w' ⟨rfl, rfl⟩)
    go_ret
    exact rpost (by rw [H.out]; rfl) (al (Below.refl _ _))
  · have H := Lib.hid (show okB a b = inB b 0 1000000 by unfold okB; rw [h1]; rfl)
    go_enter Try.func68, Try.ntmps68
    go_wp2_with (go_at_call 96; refine (in_any _ _ _ _).mono ?_; rintro e w' ⟨rfl, rfl⟩)
    go_ret
    exact rpost (by rw [H.out]; rfl) (al (Below.refl _ _))
theorem mass_spec (a b : Int) (ha : 0 ≤ a) (ha1 : a ≤ 1000000) (hb : 0 ≤ b) (hb1 : b ≤ 1000000) (w : World) : Calls Try.prog 71 #[.agg #[.int .i64 a, .int .i64 b]] w (RPost (.int .i64 (a + b)) w) := by
  go_enter Try.func71, Try.ntmps71
  go_wp2
  go_ret
  exact rpost rfl (al (Below.refl _ _))
theorem gcd_step (x y : Nat) : Nat.gcd y (x % y) = Nat.gcd x y := by rw [Nat.gcd_comm y (x % y), ← Nat.gcd_rec y x, Nat.gcd_comm]
set_option maxHeartbeats 400000 in
theorem reduce_spec (m n : Nat) (hm : m ≤ 10000000) (hn0 : 0 < n) (hn : n ≤ 10000000) (w : World) :
    Calls Try.prog 79 #[.int .i64 (m : Int), .int .i64 (n : Int)] w (RPost (.tuple #[.int .i64 ((m / Nat.gcd m n : Nat) : Int), .int .i64 ((n / Nat.gcd m n : Nat) : Int)]) w) := by
  have hmo : most (m : Int) (-(m : Int)) = m := by unfold most; split <;> omega
  have HM := Lib.hid hmo; clear hmo
  have hg := Nat.gcd_pos_of_pos_right m hn0
  go_enter Try.func79, Try.ntmps79
  go_wp2_with fail
  refine (most_any _ _ w).mono ?_
  rintro e w' ⟨rfl, rfl⟩
  rw [HM.out]
  go_wp2
  go_loopw [6, 7] (fun a b wr => ∃ x y : Nat, a = .int .i64 x ∧ b = .int .i64 y ∧ x ≤ 10000000 ∧ y ≤ 10000000 ∧ 0 < Nat.gcd x y ∧ Nat.gcd x y = Nat.gcd m n ∧ ∃ k, wr = w.drewN k) (fun _ b _ => (intOf b).toNat)
  case atStart => exact ⟨m, n, rfl, rfl, hm, hn, hg, rfl, 0, rfl⟩
  case round =>
    obtain ⟨x, y, rfl, rfl, hx, hy, hxy, hE, k, rfl⟩ := hrel
    have HE := Lib.hid hE; clear hE
    by_cases hy0 : y = 0
    · subst hy0
      have hx0 : 0 < x := by rwa [Nat.gcd_zero_right] at hxy
      have e1 : (m : Int).tdiv x = (m : Int) / x := Int.tdiv_eq_ediv_of_nonneg (by omega)
      have e2 : (n : Int).tdiv x = (n : Int) / x := Int.tdiv_eq_ediv_of_nonneg (by omega)
      have hz : ((x : Int) == 0) = false := by rw [beq_eq_false_iff_ne]; omega
      have l1 : (m : Int) / x ≤ m := Int.ediv_le_self _ (by omega)
      have l2 : (n : Int) / x ≤ n := Int.ediv_le_self _ (by omega)
      have l3 : 0 ≤ (m : Int) / x := Int.ediv_nonneg (by omega) (by omega)
      have l4 : 0 ≤ (n : Int) / x := Int.ediv_nonneg (by omega) (by omega)
      have w1 : IntKind.i64.wrap ((m : Int) / x) = (m : Int) / x := IntWalk.i64_in _ (by omega)
      have w2 : IntKind.i64.wrap ((n : Int) / x) = (n : Int) / x := IntWalk.i64_in _ (by omega)
      have HG := Lib.hid (show x = Nat.gcd m n by have := HE.out; rwa [Nat.gcd_zero_right] at this)
      clear HE hxy l1 l2 l3 l4
      go_wp2
      go_quiet (fail)
      go_wp2
      go_ret2
      exact rpost (by rw [← HG.out]; simp) ((Drawn.nn _ _ _).below _)
    · have hy1 : 0 < y := by omega
      have e1 : (x : Int).tmod y = (x : Int) % y := Int.tmod_eq_emod_of_nonneg (by omega)
      have hr : x % y < y := Nat.mod_lt _ hy1
      go_wp2
      exact ⟨⟨y, x % y, rfl, by rw [Int.natCast_emod], hy, by omega, by rw [gcd_step]; exact hxy, by rw [gcd_step]; exact HE.out, _, rfl⟩, by simp only [intOf]; omega⟩
end Go.Proofs.Ytbbnbkdglihhhaa.Brine
