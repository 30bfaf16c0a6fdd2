/- The model's exported functions on brines: water to add, stronger. -/
import Derived.Test.YtcmomccdnkligaaBrine4
namespace Go.Proofs.Ytcmomccdnkligaa.Brine5
open Go.RowKit Go.Proofs.Ytcmomccdnkligaa.Mem Go.Proofs.Ytcmomccdnkligaa.Base Go.Proofs.Ytcmomccdnkligaa.Brine Go.Proofs.Ytcmomccdnkligaa.Brine2 Go.Proofs.Ytcmomccdnkligaa.Brine4
set_option linter.unusedVariables false
end Go.Proofs.Ytcmomccdnkligaa.Brine5
