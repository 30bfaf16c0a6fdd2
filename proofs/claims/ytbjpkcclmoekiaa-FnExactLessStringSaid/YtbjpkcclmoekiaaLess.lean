/- The exact law of LessString: both comparisons answer the same for every two strings. -/
import Derived.Test.YtbjpkcclmoekiaaRows
import Derived.WalkKit
import Derived.ProofKit
import Derived.OpenShut
import Derived.ShutString
import Derived.WalkLawsBesides
import Derived.Lib.Hide
namespace Go.Proofs.Ytbjpkcclmoekiaa.Less
open Go.RowKit
set_option linter.unusedVariables false

theorem spec_any (a b : ByteArray) (w : World) :
    Calls Try.prog 11 #[.string a, .string b] w fun e w' => e = .returned (.bool (Op.bytesLess a.toList b.toList)) ∧ w = w' := by
  go_enter Try.func11, Try.ntmps11
  go_wp2
  go_ret
  exact ⟨by simp, rfl⟩

theorem impl_any (a b : ByteArray) (w : World) :
    Calls Try.prog 12 #[.string a, .string b] w fun e w' => e = .returned (.bool (Op.bytesLess a.toList b.toList)) ∧ w = w' := by
  go_enter Try.func12, Try.ntmps12
  go_wp2
  go_ret
  exact ⟨by simp, rfl⟩

set_option maxHeartbeats 400000 in
theorem law (a b : ByteArray) (w : World) (ha : a.size ≤ maxLen) (hb : b.size ≤ maxLen) :
    Calls Try.prog 4 #[.string a, .string b] w fun e w' => e = .returned (.bool true) ∧ Grown w w' := by
  have hA := spec_any a b w
  have hB := impl_any a b w
  generalize Op.bytesLess a.toList b.toList = r at hA hB
  have HA := Lib.hid hA; clear hA
  have HB := Lib.hid hB; clear hB
  unfold maxLen at ha hb
  go_enter Try.func4, Try.ntmps4
  go_wp2_with (first | (go_at_call 11; refine HA.out.mono ?_; rintro e w' ⟨rfl, rfl⟩) | (go_at_call 12; refine HB.out.mono ?_; rintro e w' ⟨rfl, rfl⟩))
  all_goals (go_ret; exact ⟨rfl, Grown.refl _⟩)
end Go.Proofs.Ytbjpkcclmoekiaa.Less
