/- Brines by value: the model's small functions, and the laws' helpers on one brine. -/
import Derived.Test.YtngominkeammiaaBase
import Derived.WalkLawsBesides
import Derived.WalkSpells
namespace Go.Proofs.Ytngominkeammiaa.Brine
open Go.RowKit Go.Proofs.Ytngominkeammiaa.Mem Go.Proofs.Ytngominkeammiaa.Base
set_option linter.unusedVariables false

/-- A brine as a value. -/
def br (a b : Int) : Value := .agg #[.int .i64 a, .int .i64 b]
/-- returned with this value, only new memory. -/
def RPost (v : Value) (w : World) (e : Ending) (w' : World) : Prop := e = .returned v ∧ Below w.heap.size w w'
theorem rpost {v u : Value} {w w' : World} (h : u = v) (hw : Below w.heap.size w w') : RPost v w (.returned u) w' := ⟨by rw [h], hw⟩
def okB (a b : Int) : Bool := inB a 0 1000000 && inB b 0 1000000
theorem okB_true {a b : Int} (h : okB a b = true) : 0 ≤ a ∧ a ≤ 1000000 ∧ 0 ≤ b ∧ b ≤ 1000000 := by
  unfold okB at h
  rw [Bool.and_eq_true] at h
  have h1 := of_inB h.1; have h2 := of_inB h.2; omega

theorem brine_spec (a b : Int) (w : World) : Calls Try.prog 68 #[.agg #[.int .i64 a, .int .i64 b]] w (RPost (.bool (okB a b)) w) := by
  cases h1 : inB a 0 1000000
  · have H := Lib.hid (show okB a b = false by unfold okB; rw [h1]; rfl)
    go_enter Try.func68, Try.ntmps68
    go_wp2_with (go_at_call 82; refine (in_any _ _ _ _).mono ?_; rintro e w' ⟨rfl, rfl⟩)
    go_ret
    exact rpost (by rw [H.out]; rfl) (al (Below.refl _ _))
  · have H := Lib.hid (show okB a b = inB b 0 1000000 by unfold okB; rw [h1]; rfl)
    go_enter Try.func68, Try.ntmps68
    go_wp2_with (go_at_call 82; refine (in_any _ _ _ _).mono ?_; rintro e w' ⟨rfl, rfl⟩)
    go_ret
    exact rpost (by rw [H.out]; rfl) (al (Below.refl _ _))
theorem mass_spec (a b : Int) (ha : 0 ≤ a) (ha1 : a ≤ 1000000) (hb : 0 ≤ b) (hb1 : b ≤ 1000000) (w : World) : Calls Try.prog 79 #[.agg #[.int .i64 a, .int .i64 b]] w (RPost (.int .i64 (a + b)) w) := by
  go_enter Try.func79, Try.ntmps79
  go_wp2
  go_ret
  exact rpost rfl (al (Below.refl _ _))
theorem gcd_step (x y : Nat) : Nat.gcd y (x % y) = Nat.gcd x y := by rw [Nat.gcd_comm y (x % y), ← Nat.gcd_rec y x, Nat.gcd_comm]
end Go.Proofs.Ytngominkeammiaa.Brine
