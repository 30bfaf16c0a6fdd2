/- Suns: the small functions of the model and of the program. -/
import Derived.Test.YtciohcipmkhneaaSun
import Derived.Test.YtciohcipmkhneaaWithin
import Derived.Test.YtciohcipmkhneaaRegn2
import Derived.Test.YtciohcipmkhneaaKeep
namespace Go.Proofs.Ytciohcipmkhneaa.SunS
open Go.RowKit Go.Proofs.Ytciohcipmkhneaa.Mem Go.Proofs.Ytciohcipmkhneaa.Base Go.Proofs.Ytciohcipmkhneaa.Within Go.Proofs.Ytciohcipmkhneaa.SSun Go.Proofs.Ytciohcipmkhneaa.Regn Go.Proofs.Ytciohcipmkhneaa.Boxes Go.Proofs.Ytciohcipmkhneaa.Keep Go.Proofs.Ytciohcipmkhneaa.Sun
set_option linter.unusedVariables false
set_option maxRecDepth 100000
theorem cells2 {w W : World} {b o k : Nat} {l : List R} {x : R} (HB : Below w.heap.size w W) (hb : b < w.heap.size) (hc : ∀ (j : Nat) (v : Value), (flat l)[j]? = some v → w.cell? ⟨b, o + j, none⟩ = some v) (hlt : k < l.length) (hx : l[k] = x) :
    W.cell? ⟨b, o + k * 2, none⟩ = some (.int .i64 x.f0) ∧ W.cell? ⟨b, o + k * 2 + 1, none⟩ = some (.int .i64 x.f1) := by
  subst hx
  exact ⟨((bcell HB).1 _ _ hb).trans (hc _ _ (flat_0 l k hlt)), ((bcell HB).1 _ _ hb).trans (hc _ _ (flat_1 l k hlt))⟩
end Go.Proofs.Ytciohcipmkhneaa.SunS
