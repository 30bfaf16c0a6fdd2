/- Contracts of the model's smallest helpers: l1In, l1Least, l1Most. -/
import Derived.Test.YtggloekjjnhhjaaDoorMem
namespace Go.Proofs.YtggloekjjnhhjaaDoor.Base
open Go.RowKit Go.Proofs.YtggloekjjnhhjaaDoor.Mem
set_option linter.unusedVariables false

/-- a ≤ x ≤ b, as a Bool that the walk does not open. -/
def inB (x a b : Int) : Bool := decide (a ≤ x ∧ x ≤ b)
theorem inB_true {x a b : Int} (h : a ≤ x ∧ x ≤ b) : inB x a b = true := decide_eq_true h
theorem inB_false {x a b : Int} (h : ¬ (a ≤ x ∧ x ≤ b)) : inB x a b = false := decide_eq_false h
theorem of_inB {x a b : Int} (h : inB x a b = true) : a ≤ x ∧ x ≤ b := of_decide_eq_true h
theorem of_not_inB {x a b : Int} (h : inB x a b = false) : ¬ (a ≤ x ∧ x ≤ b) := of_decide_eq_false h
def BPost (b : Bool) (w : World) (e : Ending) (w' : World) : Prop := e = .returned (.bool b) ∧ w = w'
theorem bpost {b c : Bool} {w : World} (h : c = b) : BPost b w (.returned (.bool c)) w := ⟨by rw [h], rfl⟩

end Go.Proofs.YtggloekjjnhhjaaDoor.Base
