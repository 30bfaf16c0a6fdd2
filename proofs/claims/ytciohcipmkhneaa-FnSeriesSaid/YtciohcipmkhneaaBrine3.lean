/- The model's exported functions on one or two brines. -/
import Derived.Test.YtciohcipmkhneaaBrine2
namespace Go.Proofs.Ytciohcipmkhneaa.Brine3
open Go.RowKit Go.Proofs.Ytciohcipmkhneaa.Mem Go.Proofs.Ytciohcipmkhneaa.Base Go.Proofs.Ytciohcipmkhneaa.Brine Go.Proofs.Ytciohcipmkhneaa.Brine2
set_option linter.unusedVariables false
end Go.Proofs.Ytciohcipmkhneaa.Brine3
