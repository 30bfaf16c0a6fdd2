/- The model's exported functions on brines: water to add, stronger. -/
import Derived.Test.YtpblkkfafmcnpaaDoorBrine4
namespace Go.Proofs.YtpblkkfafmcnpaaDoor.Brine5
open Go.RowKit Go.Proofs.YtpblkkfafmcnpaaDoor.Mem Go.Proofs.YtpblkkfafmcnpaaDoor.Base Go.Proofs.YtpblkkfafmcnpaaDoor.Brine Go.Proofs.YtpblkkfafmcnpaaDoor.Brine2 Go.Proofs.YtpblkkfafmcnpaaDoor.Brine4
set_option linter.unusedVariables false
end Go.Proofs.YtpblkkfafmcnpaaDoor.Brine5
