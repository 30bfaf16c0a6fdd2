/- The model's exported functions on brines: water to lose, to add, stronger. -/
import Derived.Test.YtpbmncecejchjaaBrine3
namespace Go.Proofs.Ytpbmncecejchjaa.Brine4
open Go.RowKit Go.Proofs.Ytpbmncecejchjaa.Mem Go.Proofs.Ytpbmncecejchjaa.Base Go.Proofs.Ytpbmncecejchjaa.Brine Go.Proofs.Ytpbmncecejchjaa.Brine2
set_option linter.unusedVariables false
end Go.Proofs.Ytpbmncecejchjaa.Brine4
