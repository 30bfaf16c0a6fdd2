/- The model's exported functions on brines: water to lose, to add, stronger. -/
import Derived.Test.YtciohcipmkhneaaBrine3
namespace Go.Proofs.Ytciohcipmkhneaa.Brine4
open Go.RowKit Go.Proofs.Ytciohcipmkhneaa.Mem Go.Proofs.Ytciohcipmkhneaa.Base Go.Proofs.Ytciohcipmkhneaa.Brine Go.Proofs.Ytciohcipmkhneaa.Brine2
set_option linter.unusedVariables false
end Go.Proofs.Ytciohcipmkhneaa.Brine4
