/- Suns: the rate on a day, the sum within days. -/
import Derived.Test.YtciohcipmkhneaaSunG
namespace Go.Proofs.Ytciohcipmkhneaa.SunL
open Go.RowKit Go.Proofs.Ytciohcipmkhneaa.Mem Go.Proofs.Ytciohcipmkhneaa.Base Go.Proofs.Ytciohcipmkhneaa.Within Go.Proofs.Ytciohcipmkhneaa.SSun Go.Proofs.Ytciohcipmkhneaa.Regn Go.Proofs.Ytciohcipmkhneaa.Boxes Go.Proofs.Ytciohcipmkhneaa.Keep Go.Proofs.Ytciohcipmkhneaa.Sun Go.Proofs.Ytciohcipmkhneaa.SunS Go.Proofs.Ytciohcipmkhneaa.SunG
set_option linter.unusedVariables false
set_option maxRecDepth 100000
/-- a number, and the world as it was. -/
def IPost (n : Int) (w : World) (e : Ending) (w' : World) : Prop := e = .returned (.int .i64 n) ∧ w = w'
theorem ipost {n m : Int} {w : World} (h : m = n) : IPost n w (.returned (.int .i64 m)) w := ⟨by rw [h], rfl⟩
end Go.Proofs.Ytciohcipmkhneaa.SunL
