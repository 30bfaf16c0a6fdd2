/- The model's exported functions on one or two brines. -/
import Derived.Test.YtojhcnnffepicaaDoorBrine2
namespace Go.Proofs.YtojhcnnffepicaaDoor.Brine3
open Go.RowKit Go.Proofs.YtojhcnnffepicaaDoor.Mem Go.Proofs.YtojhcnnffepicaaDoor.Base Go.Proofs.YtojhcnnffepicaaDoor.Brine Go.Proofs.YtojhcnnffepicaaDoor.Brine2
set_option linter.unusedVariables false
end Go.Proofs.YtojhcnnffepicaaDoor.Brine3
