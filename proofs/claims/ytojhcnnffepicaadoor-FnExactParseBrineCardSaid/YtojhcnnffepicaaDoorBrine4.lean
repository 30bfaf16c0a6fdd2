/- The model's exported functions on brines: water to lose, to add, stronger. -/
import Derived.Test.YtojhcnnffepicaaDoorBrine3
namespace Go.Proofs.YtojhcnnffepicaaDoor.Brine4
open Go.RowKit Go.Proofs.YtojhcnnffepicaaDoor.Mem Go.Proofs.YtojhcnnffepicaaDoor.Base Go.Proofs.YtojhcnnffepicaaDoor.Brine Go.Proofs.YtojhcnnffepicaaDoor.Brine2
set_option linter.unusedVariables false
end Go.Proofs.YtojhcnnffepicaaDoor.Brine4
