/- The model's exported functions on brines: to take a part. -/
import Derived.Test.YtcmomccdnkligaaBrine5
import Derived.Test.YtcmomccdnkligaaRegn
import Derived.Test.YtcmomccdnkligaaBox
namespace Go.Proofs.Ytcmomccdnkligaa.Brine6
open Go.RowKit Go.Proofs.Ytcmomccdnkligaa.Mem Go.Proofs.Ytcmomccdnkligaa.Base Go.Proofs.Ytcmomccdnkligaa.Brine Go.Proofs.Ytcmomccdnkligaa.Brine2
set_option linter.unusedVariables false
set_option maxRecDepth 100000
end Go.Proofs.Ytcmomccdnkligaa.Brine6
