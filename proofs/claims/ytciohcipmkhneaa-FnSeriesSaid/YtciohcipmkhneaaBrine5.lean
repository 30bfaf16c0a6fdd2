/- The model's exported functions on brines: water to add, stronger. -/
import Derived.Test.YtciohcipmkhneaaBrine4
namespace Go.Proofs.Ytciohcipmkhneaa.Brine5
open Go.RowKit Go.Proofs.Ytciohcipmkhneaa.Mem Go.Proofs.Ytciohcipmkhneaa.Base Go.Proofs.Ytciohcipmkhneaa.Brine Go.Proofs.Ytciohcipmkhneaa.Brine2 Go.Proofs.Ytciohcipmkhneaa.Brine4
set_option linter.unusedVariables false
def strongOk (a b c d : Int) : Bool := okB a b && (okB c d && (!(a + b == 0) && !(c + d == 0)))
def strongV (a b c d : Int) : Value := if strongOk a b c d = true then .tuple #[.bool (decide (b * c > d * a)), .bool true] else .tuple #[.bool false, .bool false]
theorem strong_no {a b c d : Int} (h : strongOk a b c d = false) : Hid (strongV a b c d = .tuple #[.bool false, .bool false]) := Lib.hid (by unfold strongV; rw [h]; rfl)
theorem strong_yes {a b c d : Int} (h : strongOk a b c d = true) : Hid (strongV a b c d = .tuple #[.bool (decide (b * c > d * a)), .bool true]) := Lib.hid (by unfold strongV; rw [if_pos h])
theorem stronger_spec (a b c d : Int) (h1 : okB a b = true) (h2 : okB c d = true) (w : World) : Calls Try.prog 99 #[.agg #[.int .i64 a, .int .i64 b], .agg #[.int .i64 c, .int .i64 d]] w (RPost (.bool (decide (b * c > d * a))) w) := by
  obtain ⟨ha, ha1, hb, hb1⟩ := okB_true h1
  obtain ⟨hc, hc1, hd, hd1⟩ := okB_true h2
  have m1 : 0 ≤ b * c := Int.mul_nonneg hb hc
  have m2 : b * c ≤ 1000000 * 1000000 := Int.mul_le_mul hb1 (by omega) (by omega) (by omega)
  have m3 : IntKind.i64.wrap (b * c) = b * c := IntWalk.i64_in _ (by omega)
  have m4 : 0 ≤ d * a := Int.mul_nonneg hd ha
  have m5 : d * a ≤ 1000000 * 1000000 := Int.mul_le_mul hd1 (by omega) (by omega) (by omega)
  have m6 : IntKind.i64.wrap (d * a) = d * a := IntWalk.i64_in _ (by omega)
  clear m1 m2 m4 m5
  go_enter Try.func99, Try.ntmps99
  go_wp2
  go_ret
  exact rpost rfl (al (al (Below.refl _ _)))
end Go.Proofs.Ytciohcipmkhneaa.Brine5
