/- The model's exported functions on one or two brines. -/
import Derived.Test.YtcmomccdnkligaaBrine2
namespace Go.Proofs.Ytcmomccdnkligaa.Brine3
open Go.RowKit Go.Proofs.Ytcmomccdnkligaa.Mem Go.Proofs.Ytcmomccdnkligaa.Base Go.Proofs.Ytcmomccdnkligaa.Brine Go.Proofs.Ytcmomccdnkligaa.Brine2
set_option linter.unusedVariables false
end Go.Proofs.Ytcmomccdnkligaa.Brine3
