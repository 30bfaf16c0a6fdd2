/- The model's exported functions on brines: to take a part. -/
import Derived.Test.YtngominkeammiaaBrine5
import Derived.Test.YtngominkeammiaaRegn
import Derived.Test.YtngominkeammiaaBox
namespace Go.Proofs.Ytngominkeammiaa.Brine6
open Go.RowKit Go.Proofs.Ytngominkeammiaa.Mem Go.Proofs.Ytngominkeammiaa.Base Go.Proofs.Ytngominkeammiaa.Brine Go.Proofs.Ytngominkeammiaa.Brine2
set_option linter.unusedVariables false
set_option maxRecDepth 100000
end Go.Proofs.Ytngominkeammiaa.Brine6
