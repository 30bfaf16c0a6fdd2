/- The program's functions on brines: water to lose, to add, stronger. -/
import Derived.Test.YtpbmncecejchjaaIBrine
namespace Go.Proofs.Ytpbmncecejchjaa.IBrine2
open Go.RowKit Go.Proofs.Ytpbmncecejchjaa.Mem Go.Proofs.Ytpbmncecejchjaa.Base Go.Proofs.Ytpbmncecejchjaa.Brine Go.Proofs.Ytpbmncecejchjaa.Brine2 Go.Proofs.Ytpbmncecejchjaa.Regn Go.Proofs.Ytpbmncecejchjaa.Boxes Go.Proofs.Ytpbmncecejchjaa.IBrine Go.Proofs.Ytpbmncecejchjaa.Brine4 Go.Proofs.Ytpbmncecejchjaa.Brine5
set_option linter.unusedVariables false
set_option maxRecDepth 100000
end Go.Proofs.Ytpbmncecejchjaa.IBrine2
