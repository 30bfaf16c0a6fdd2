/- Suns: l6Good and AreSuns. -/
import Derived.Test.YtciohcipmkhneaaSunS
namespace Go.Proofs.Ytciohcipmkhneaa.SunG
open Go.RowKit Go.Proofs.Ytciohcipmkhneaa.Mem Go.Proofs.Ytciohcipmkhneaa.Base Go.Proofs.Ytciohcipmkhneaa.SSun Go.Proofs.Ytciohcipmkhneaa.Regn Go.Proofs.Ytciohcipmkhneaa.Boxes Go.Proofs.Ytciohcipmkhneaa.Keep Go.Proofs.Ytciohcipmkhneaa.Sun Go.Proofs.Ytciohcipmkhneaa.SunS
set_option linter.unusedVariables false
set_option maxRecDepth 100000
theorem bad_day {x : R} (h : inB x.f0 0 4000 = false) : okS x = false := by unfold okS; rw [h]; rfl
theorem bad_rate {x : R} (h : inB x.f1 0 20000 = false) : okS x = false := by unfold okS; rw [h, Bool.and_false]
theorem ok_both {x : R} (h : inB x.f0 0 4000 = true) (h1 : inB x.f1 0 20000 = true) : okS x = true := by unfold okS; rw [h, h1]; rfl
end Go.Proofs.Ytciohcipmkhneaa.SunG
