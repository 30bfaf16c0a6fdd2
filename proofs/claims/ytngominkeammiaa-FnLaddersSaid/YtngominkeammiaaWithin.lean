/- The program's isWithin. -/
import Derived.Test.YtngominkeammiaaBase
namespace Go.Proofs.Ytngominkeammiaa.Within
open Go.RowKit Go.Proofs.Ytngominkeammiaa.Mem Go.Proofs.Ytngominkeammiaa.Base
set_option linter.unusedVariables false
theorem within_any (x a b : Int) (w : World) :
    Calls Try.prog 61 #[.int .i64 x, .int .i64 a, .int .i64 b] w (BPost (inB x a b) w) := by
  by_cases h1 : a ≤ x
  · by_cases h2 : x ≤ b
    · have hb := Lib.hid (inB_true ⟨h1, h2⟩)
      go_enter Try.func61, Try.ntmps61
      go_wp2
      go_ret
      exact bpost hb.out.symm
    · have hb := Lib.hid (inB_false (fun h : a ≤ x ∧ x ≤ b => h2 h.2))
      have h2' : decide (x ≤ b) = false := decide_eq_false h2
      go_enter Try.func61, Try.ntmps61
      go_wp2
      go_ret
      exact bpost hb.out.symm
  · have hb := Lib.hid (inB_false (fun h : a ≤ x ∧ x ≤ b => h1 h.1))
    have h1' : decide (a ≤ x) = false := decide_eq_false h1
    go_enter Try.func61, Try.ntmps61
    go_wp2
    go_ret
    exact bpost hb.out.symm
end Go.Proofs.Ytngominkeammiaa.Within
