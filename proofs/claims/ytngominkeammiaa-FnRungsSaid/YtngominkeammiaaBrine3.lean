/- The model's exported functions on one or two brines. -/
import Derived.Test.YtngominkeammiaaBrine2
namespace Go.Proofs.Ytngominkeammiaa.Brine3
open Go.RowKit Go.Proofs.Ytngominkeammiaa.Mem Go.Proofs.Ytngominkeammiaa.Base Go.Proofs.Ytngominkeammiaa.Brine Go.Proofs.Ytngominkeammiaa.Brine2
set_option linter.unusedVariables false
end Go.Proofs.Ytngominkeammiaa.Brine3
