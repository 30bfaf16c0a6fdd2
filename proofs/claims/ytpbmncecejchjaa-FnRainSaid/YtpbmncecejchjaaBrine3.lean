/- The model's exported functions on one or two brines. -/
import Derived.Test.YtpbmncecejchjaaBrine2
namespace Go.Proofs.Ytpbmncecejchjaa.Brine3
open Go.RowKit Go.Proofs.Ytpbmncecejchjaa.Mem Go.Proofs.Ytpbmncecejchjaa.Base Go.Proofs.Ytpbmncecejchjaa.Brine Go.Proofs.Ytpbmncecejchjaa.Brine2
set_option linter.unusedVariables false
end Go.Proofs.Ytpbmncecejchjaa.Brine3
