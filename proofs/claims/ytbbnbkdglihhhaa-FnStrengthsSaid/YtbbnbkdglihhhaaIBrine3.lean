/- The program's TakePart. -/
import Derived.Test.YtbbnbkdglihhhaaIBrine2
namespace Go.Proofs.Ytbbnbkdglihhhaa.IBrine3
open Go.RowKit Go.Proofs.Ytbbnbkdglihhhaa.Mem Go.Proofs.Ytbbnbkdglihhhaa.Base Go.Proofs.Ytbbnbkdglihhhaa.Brine Go.Proofs.Ytbbnbkdglihhhaa.Brine2 Go.Proofs.Ytbbnbkdglihhhaa.Regn Go.Proofs.Ytbbnbkdglihhhaa.Boxes Go.Proofs.Ytbbnbkdglihhhaa.IBrine Go.Proofs.Ytbbnbkdglihhhaa.Brine6
set_option linter.unusedVariables false
set_option maxRecDepth 100000
end Go.Proofs.Ytbbnbkdglihhhaa.IBrine3
