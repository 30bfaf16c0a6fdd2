/- The model's exported functions on brines: to take a part. -/
import Derived.Test.YtpbmncecejchjaaBrine5
import Derived.Test.YtpbmncecejchjaaRegn
import Derived.Test.YtpbmncecejchjaaBox
namespace Go.Proofs.Ytpbmncecejchjaa.Brine6
open Go.RowKit Go.Proofs.Ytpbmncecejchjaa.Mem Go.Proofs.Ytpbmncecejchjaa.Base Go.Proofs.Ytpbmncecejchjaa.Brine Go.Proofs.Ytpbmncecejchjaa.Brine2
set_option linter.unusedVariables false
set_option maxRecDepth 100000
end Go.Proofs.Ytpbmncecejchjaa.Brine6
