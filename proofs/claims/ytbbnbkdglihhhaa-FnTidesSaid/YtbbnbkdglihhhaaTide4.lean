/- IsTide of the model, and contracts in the form of the laws. -/
import Derived.Test.YtbbnbkdglihhhaaTide3
namespace Go.Proofs.Ytbbnbkdglihhhaa.Tide4
open Go.RowKit Go.Proofs.Ytbbnbkdglihhhaa.Mem Go.Proofs.Ytbbnbkdglihhhaa.Base Go.Proofs.Ytbbnbkdglihhhaa.SMark Go.Proofs.Ytbbnbkdglihhhaa.Regn Go.Proofs.Ytbbnbkdglihhhaa.Boxes Go.Proofs.Ytbbnbkdglihhhaa.Tide Go.Proofs.Ytbbnbkdglihhhaa.Tide2
set_option linter.unusedVariables false
set_option maxRecDepth 100000
theorem istide_spec (P : Option Addr) (cap : Nat) (l : List R) (w : World) (hr : Rd w w.heap.size P (flat l)) (hn : l.length ≤ 1048576) :
    Calls Try.prog 34 #[.slice P l.length cap] w (RPost (.bool (good l)) w) := by
  go_enter Try.func34, Try.ntmps34
  go_wp2_with fail
  refine (good_spec P cap l w hr hn).mono ?_
  rintro e w1 ⟨rfl, HB⟩
  go_wp2
  go_ret
  exact rpost rfl HB
theorem istide_impl (P : Option Addr) (cap : Nat) (l : List R) (w : World) (hr : Rd w w.heap.size P (flat l)) (hcap : l.length ≤ cap) (hn : l.length ≤ 1048576) :
    Calls Try.prog 33 #[.slice P l.length cap] w (RPost (.bool (good l)) w) := tide_impl P cap l w hr hn
end Go.Proofs.Ytbbnbkdglihhhaa.Tide4
