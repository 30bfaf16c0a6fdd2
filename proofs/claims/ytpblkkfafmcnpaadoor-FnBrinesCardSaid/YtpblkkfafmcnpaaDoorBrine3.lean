/- The model's exported functions on one or two brines. -/
import Derived.Test.YtpblkkfafmcnpaaDoorBrine2
namespace Go.Proofs.YtpblkkfafmcnpaaDoor.Brine3
open Go.RowKit Go.Proofs.YtpblkkfafmcnpaaDoor.Mem Go.Proofs.YtpblkkfafmcnpaaDoor.Base Go.Proofs.YtpblkkfafmcnpaaDoor.Brine Go.Proofs.YtpblkkfafmcnpaaDoor.Brine2
set_option linter.unusedVariables false
end Go.Proofs.YtpblkkfafmcnpaaDoor.Brine3
