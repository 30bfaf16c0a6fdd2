/- The exact law of LessString: both comparisons answer the same for every two strings. -/
import Derived.Test.YtggloekjjnhhjaaDoorRows
import Derived.WalkKit
import Derived.ProofKit
import Derived.OpenShut
import Derived.ShutString
import Derived.WalkLawsBesides
import Derived.Lib.Hide
namespace Go.Proofs.YtggloekjjnhhjaaDoor.Less
open Go.RowKit
set_option linter.unusedVariables false

theorem spec_any (a b : ByteArray) (w : World) :
    Calls Tryd.prog 12 #[.string a, .string b] w fun e w' => e = .returned (.bool (Op.bytesLess a.toList b.toList)) ∧ w = w' := by
  go_enter Tryd.func12, Tryd.ntmps12
  go_wp2
  go_ret
  exact ⟨by simp, rfl⟩

theorem impl_any (a b : ByteArray) (w : World) :
    Calls Tryd.prog 11 #[.string a, .string b] w fun e w' => e = .returned (.bool (Op.bytesLess a.toList b.toList)) ∧ w = w' := by
  go_enter Tryd.func11, Tryd.ntmps11
  go_wp2
  go_ret
  exact ⟨by simp, rfl⟩

end Go.Proofs.YtggloekjjnhhjaaDoor.Less
