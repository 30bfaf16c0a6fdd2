/- The model's exported functions on brines: water to add, stronger. -/
import Derived.Test.YtojhcnnffepicaaDoorBrine4
namespace Go.Proofs.YtojhcnnffepicaaDoor.Brine5
open Go.RowKit Go.Proofs.YtojhcnnffepicaaDoor.Mem Go.Proofs.YtojhcnnffepicaaDoor.Base Go.Proofs.YtojhcnnffepicaaDoor.Brine Go.Proofs.YtojhcnnffepicaaDoor.Brine2 Go.Proofs.YtojhcnnffepicaaDoor.Brine4
set_option linter.unusedVariables false
end Go.Proofs.YtojhcnnffepicaaDoor.Brine5
