/- The model's exported functions on brines: water to lose, to add, stronger. -/
import Derived.Test.YtngominkeammiaaBrine3
namespace Go.Proofs.Ytngominkeammiaa.Brine4
open Go.RowKit Go.Proofs.Ytngominkeammiaa.Mem Go.Proofs.Ytngominkeammiaa.Base Go.Proofs.Ytngominkeammiaa.Brine Go.Proofs.Ytngominkeammiaa.Brine2
set_option linter.unusedVariables false
end Go.Proofs.Ytngominkeammiaa.Brine4
