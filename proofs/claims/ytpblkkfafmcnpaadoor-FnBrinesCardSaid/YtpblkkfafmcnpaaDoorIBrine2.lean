/- The program's functions on brines: water to lose, to add, stronger. -/
import Derived.Test.YtpblkkfafmcnpaaDoorIBrine
namespace Go.Proofs.YtpblkkfafmcnpaaDoor.IBrine2
open Go.RowKit Go.Proofs.YtpblkkfafmcnpaaDoor.Mem Go.Proofs.YtpblkkfafmcnpaaDoor.Base Go.Proofs.YtpblkkfafmcnpaaDoor.Brine Go.Proofs.YtpblkkfafmcnpaaDoor.Brine2 Go.Proofs.YtpblkkfafmcnpaaDoor.Regn Go.Proofs.YtpblkkfafmcnpaaDoor.Boxes Go.Proofs.YtpblkkfafmcnpaaDoor.IBrine Go.Proofs.YtpblkkfafmcnpaaDoor.Brine4 Go.Proofs.YtpblkkfafmcnpaaDoor.Brine5
set_option linter.unusedVariables false
set_option maxRecDepth 100000
end Go.Proofs.YtpblkkfafmcnpaaDoor.IBrine2
