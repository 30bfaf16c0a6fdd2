/- math/bits.Len at 100000. -/
import Derived.Test.YtcmomccdnkligaaBase
namespace Go.Proofs.Ytcmomccdnkligaa.Bits
open Go.RowKit Go.Proofs.Ytcmomccdnkligaa.Mem Go.Proofs.Ytcmomccdnkligaa.Base
set_option linter.unusedVariables false
set_option maxRecDepth 100000
theorem len64_any (w : World) : Calls Try.prog 89 #[.int .u64 100000] w (fun e w' => e = .returned (.int .i64 17) ∧ w = w') := by
  go_enter Try.func89, Try.ntmps89
  go_wp2
  go_ret
  exact ⟨by kernel_rfl, rfl⟩
theorem len_any (w : World) : Calls Try.prog 71 #[.int .u64 100000] w (fun e w' => e = .returned (.int .i64 17) ∧ w = w') := by
  go_enter Try.func71, Try.ntmps71
  go_wp2_with fail
  refine (len64_any w).mono ?_
  rintro e _ ⟨rfl, rfl⟩
  go_wp2
  go_ret
  exact ⟨rfl, rfl⟩
end Go.Proofs.Ytcmomccdnkligaa.Bits
