/- Contracts of the model's smallest helpers: l1In, l1Least, l1Most. -/
import Derived.Test.YtngominkeammiaaMem
namespace Go.Proofs.Ytngominkeammiaa.Base
open Go.RowKit Go.Proofs.Ytngominkeammiaa.Mem
set_option linter.unusedVariables false

/-- a ≤ x ≤ b, as a Bool that the walk does not open. -/
def inB (x a b : Int) : Bool := decide (a ≤ x ∧ x ≤ b)
theorem inB_true {x a b : Int} (h : a ≤ x ∧ x ≤ b) : inB x a b = true := decide_eq_true h
theorem inB_false {x a b : Int} (h : ¬ (a ≤ x ∧ x ≤ b)) : inB x a b = false := decide_eq_false h
theorem of_inB {x a b : Int} (h : inB x a b = true) : a ≤ x ∧ x ≤ b := of_decide_eq_true h
theorem of_not_inB {x a b : Int} (h : inB x a b = false) : ¬ (a ≤ x ∧ x ≤ b) := of_decide_eq_false h
def BPost (b : Bool) (w : World) (e : Ending) (w' : World) : Prop := e = .returned (.bool b) ∧ w = w'
theorem bpost {b c : Bool} {w : World} (h : c = b) : BPost b w (.returned (.bool c)) w := ⟨by rw [h], rfl⟩

theorem in_any (x a b : Int) (w : World) :
    Calls Try.prog 82 #[.int .i64 x, .int .i64 a, .int .i64 b] w (BPost (inB x a b) w) := by
  by_cases h1 : a ≤ x
  · by_cases h2 : x ≤ b
    · have hb := Lib.hid (inB_true ⟨h1, h2⟩)
      go_enter Try.func82, Try.ntmps82
      go_wp2
      go_ret
      exact bpost hb.out.symm
    · have hb := Lib.hid (inB_false (fun h : a ≤ x ∧ x ≤ b => h2 h.2))
      have h2' : decide (x ≤ b) = false := decide_eq_false h2
      go_enter Try.func82, Try.ntmps82
      go_wp2
      go_ret
      exact bpost hb.out.symm
  · have hb := Lib.hid (inB_false (fun h : a ≤ x ∧ x ≤ b => h1 h.1))
    have h1' : decide (a ≤ x) = false := decide_eq_false h1
    go_enter Try.func82, Try.ntmps82
    go_wp2
    go_ret
    exact bpost hb.out.symm
def most (a b : Int) : Int := if b < a then a else b
theorem most_any (a b : Int) (w : World) : Calls Try.prog 59 #[.int .i64 a, .int .i64 b] w fun e w' => e = .returned (.int .i64 (most a b)) ∧ w = w' := by
  by_cases h : b < a
  · have H := Lib.hid (show most a b = a by unfold most; rw [if_pos h])
    go_enter Try.func59, Try.ntmps59
    go_wp2
    go_ret
    exact ⟨by rw [H.out]; simp, rfl⟩
  · have H := Lib.hid (show most a b = b by unfold most; rw [if_neg h])
    go_enter Try.func59, Try.ntmps59
    go_wp2
    go_ret
    exact ⟨by rw [H.out]; simp, rfl⟩
def least (a b : Int) : Int := if a < b then a else b
theorem least_any (a b : Int) (w : World) : Calls Try.prog 60 #[.int .i64 a, .int .i64 b] w fun e w' => e = .returned (.int .i64 (least a b)) ∧ w = w' := by
  by_cases h : a < b
  · have H := Lib.hid (show least a b = a by unfold least; rw [if_pos h])
    go_enter Try.func60, Try.ntmps60
    go_wp2
    go_ret
    exact ⟨by rw [H.out]; simp, rfl⟩
  · have H := Lib.hid (show least a b = b by unfold least; rw [if_neg h])
    go_enter Try.func60, Try.ntmps60
    go_wp2
    go_ret
    exact ⟨by rw [H.out]; simp, rfl⟩
end Go.Proofs.Ytngominkeammiaa.Base
