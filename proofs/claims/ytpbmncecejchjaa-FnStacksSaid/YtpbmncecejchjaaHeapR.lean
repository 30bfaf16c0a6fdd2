/- Heaps: HeapFor, the model's. -/
import Derived.Test.YtpbmncecejchjaaHeapQ
namespace Go.Proofs.Ytpbmncecejchjaa.HeapR
open Go.RowKit Go.Proofs.Ytpbmncecejchjaa.Mem Go.Proofs.Ytpbmncecejchjaa.Base Go.Proofs.Ytpbmncecejchjaa.Within Go.Proofs.Ytpbmncecejchjaa.SInt Go.Proofs.Ytpbmncecejchjaa.Boxes Go.Proofs.Ytpbmncecejchjaa.Keep Go.Proofs.Ytpbmncecejchjaa.Regn Go.Proofs.Ytpbmncecejchjaa.Nest Go.Proofs.Ytpbmncecejchjaa.HeapS Go.Proofs.Ytpbmncecejchjaa.HeapW Go.Proofs.Ytpbmncecejchjaa.Heap Go.Proofs.Ytpbmncecejchjaa.Heap2 Go.Proofs.Ytpbmncecejchjaa.HeapG Go.Proofs.Ytpbmncecejchjaa.HeapP Go.Proofs.Ytpbmncecejchjaa.HeapT
set_option linter.unusedVariables false
set_option maxRecDepth 100000
/-- the best place so far, as the model's variable holds it. -/
def Ps (o : Option Nat) (u : Value) (n : Nat) : Prop := (o = none ∧ u = .int .i64 (-1)) ∨ ∃ b : Nat, o = some b ∧ b < n ∧ u = .int .i64 b
end Go.Proofs.Ytpbmncecejchjaa.HeapR
