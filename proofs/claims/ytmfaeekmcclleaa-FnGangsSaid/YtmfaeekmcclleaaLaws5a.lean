/- The laws on workers whose answers are numbers, walked. -/
import Derived.Test.YtmfaeekmcclleaaWorkT
import Derived.Test.YtmfaeekmcclleaaWorkM
import Derived.Test.YtmfaeekmcclleaaWorkN
namespace Go.Proofs.Ytmfaeekmcclleaa.Laws5a
open Go.RowKit Go.Proofs.Ytmfaeekmcclleaa.Mem Go.Proofs.Ytmfaeekmcclleaa.Base Go.Proofs.Ytmfaeekmcclleaa.SWorker Go.Proofs.Ytmfaeekmcclleaa.Regn Go.Proofs.Ytmfaeekmcclleaa.Boxes Go.Proofs.Ytmfaeekmcclleaa.Keep Go.Proofs.Ytmfaeekmcclleaa.Work Go.Proofs.Ytmfaeekmcclleaa.Work2
set_option linter.unusedVariables false
set_option maxRecDepth 100000
/-- What each walk of a law ends in. -/
def Yes (w : World) (e : Ending) (w' : World) : Prop := e = .returned (.bool true) ∧ Below w.heap.size w w'
theorem are_spec (P : Option Addr) (cap : Nat) (l : List R) (w : World) (hr : Rd w w.heap.size P (flat l)) (hn : l.length ≤ 1048576) :
    Calls Try.prog 42 #[.slice P l.length cap] w (RPost (.bool (good l)) w) := by
  go_enter Try.func42, Try.ntmps42
  go_wp2_with fail
  refine (WorkG.good_spec P cap l w hr hn).mono ?_
  rintro e w1 ⟨rfl, HB⟩
  go_wp2
  go_ret
  exact rpost rfl HB
theorem are_impl (P : Option Addr) (cap : Nat) (l : List R) (w : World) (hr : Rd w w.heap.size P (flat l)) (hc : l.length ≤ cap) (hn : l.length ≤ 1048576) :
    Calls Try.prog 41 #[.slice P l.length cap] w (RPost (.bool (good l)) w) := WorkG.are_impl P cap l w hr hn
theorem on_form (l : List R) (g d : Int) : ∃ x q, WorkL.onV l g d = .tuple #[.int .i64 x, .bool q] := by
  unfold WorkL.onV
  split
  · exact ⟨_, _, rfl⟩
  · exact ⟨_, _, rfl⟩
end Go.Proofs.Ytmfaeekmcclleaa.Laws5a
