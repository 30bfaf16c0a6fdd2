/- The model's exported functions on brines: to take a part. -/
import Derived.Test.YtbbnbkdglihhhaaBrine5
import Derived.Test.YtbbnbkdglihhhaaRegn
import Derived.Test.YtbbnbkdglihhhaaBox
namespace Go.Proofs.Ytbbnbkdglihhhaa.Brine6
open Go.RowKit Go.Proofs.Ytbbnbkdglihhhaa.Mem Go.Proofs.Ytbbnbkdglihhhaa.Base Go.Proofs.Ytbbnbkdglihhhaa.Brine Go.Proofs.Ytbbnbkdglihhhaa.Brine2
set_option linter.unusedVariables false
set_option maxRecDepth 100000
end Go.Proofs.Ytbbnbkdglihhhaa.Brine6
