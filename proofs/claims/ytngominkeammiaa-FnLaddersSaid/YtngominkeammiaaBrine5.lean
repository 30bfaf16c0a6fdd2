/- The model's exported functions on brines: water to add, stronger. -/
import Derived.Test.YtngominkeammiaaBrine4
namespace Go.Proofs.Ytngominkeammiaa.Brine5
open Go.RowKit Go.Proofs.Ytngominkeammiaa.Mem Go.Proofs.Ytngominkeammiaa.Base Go.Proofs.Ytngominkeammiaa.Brine Go.Proofs.Ytngominkeammiaa.Brine2 Go.Proofs.Ytngominkeammiaa.Brine4
set_option linter.unusedVariables false
def strongOk (a b c d : Int) : Bool := okB a b && (okB c d && (!(a + b == 0) && !(c + d == 0)))
def strongV (a b c d : Int) : Value := if strongOk a b c d = true then .tuple #[.bool (decide (b * c > d * a)), .bool true] else .tuple #[.bool false, .bool false]
theorem strong_no {a b c d : Int} (h : strongOk a b c d = false) : Hid (strongV a b c d = .tuple #[.bool false, .bool false]) := Lib.hid (by unfold strongV; rw [h]; rfl)
theorem strong_yes {a b c d : Int} (h : strongOk a b c d = true) : Hid (strongV a b c d = .tuple #[.bool (decide (b * c > d * a)), .bool true]) := Lib.hid (by unfold strongV; rw [if_pos h])
end Go.Proofs.Ytngominkeammiaa.Brine5
