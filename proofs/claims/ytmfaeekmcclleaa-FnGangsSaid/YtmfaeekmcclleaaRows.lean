/-
  No cell of these rows narrows 'for every input' (looked for: loops, veiled, ifaces, maps, wideKeys, modest, calm, conditions, laid).
  DERIVED. THE GIVEN ROWS OF THIS SEAT. 5 by the template 'for every input the law returns true; each argument reads behind the call as it read before'; 0 by the template 'total and deterministic' (their statements: YtmfaeekmcclleaaTotals.lean).
  GIVEN WITH THE SEED: the statements are not yours to turn. If you find one false, say at which input.
  Laid BY PROGRAM, IN A SANDBOX (cutbox-rows.mjs): the forced cells as the released guide's own fill.sh prints them over the translation dc3e2c312912f14c… (all of the seat's roots in one cut). By AI agents, Wed Nov 11 2026. No macro, syntax, notation, axiom, sorry.
-/
import Derived.Test.YtmfaeekmcclleaaChecked
import GoSem.Claim
import GoSem.ClaimJoined
import GoSem.ClaimMapViews
import Derived.JoinedTies
import Derived.KernelRfl
namespace Go.Proofs.Ytmfaeekmcclleaa
/- THE CELL 'sum', in the pinned program and in every row, IS THE sha256 OF THE DUMP (.gsa) THAT YtmfaeekmcclleaaProg.lean LOADS. Nothing in Lean hashes anything: it is a label: what it is worth is what the hold of that sum in a sandbox is worth. -/
noncomputable def Try.pinned : Pinned := { name := "ytmfaeekmcclleaa", sum := "dc3e2c312912f14c053354a05d593ed79372bda67b5c7b95ca5a8be95925c1b1", checked := Try.checked }
namespace Rows
def none {H : Type} : Left H := { results := [], args := [] }

/-- 'laws.FnGangs': WHATEVER THE INPUT: true; the input reads as it did. -/
def fnGangsSpec : ChangeSpec := { name := "fnGangs", fn := fun _ => fun
  | [d] => { results := [.lit (.bool true)], args := [d] }
  | _ => none }
def fnGangsRow : OpenClaim := { program := "ytmfaeekmcclleaa", sum := "dc3e2c312912f14c053354a05d593ed79372bda67b5c7b95ca5a8be95925c1b1", func := "loop.example/g01019/laws.FnGangs", spec := "fnGangs", unfollowed := true, recurses := true, apart := false }
def FnGangsSaid : Prop := fnGangsRow.holds Try.pinned (OpenSpec.ofChange fnGangsSpec)

/-- ITS FALSE NEIGHBOUR: 'it returns false'. Refute it at one input. -/
def fnGangsWrong : ChangeSpec := { name := "fnGangs", fn := fun _ => fun
  | [d] => { results := [.lit (.bool false)], args := [d] }
  | _ => none }
def FnGangsWrongFalsely : Prop := fnGangsRow.holds Try.pinned (OpenSpec.ofChange fnGangsWrong)

/-- 'laws.FnWorkers': WHATEVER THE INPUT: true; the input reads as it did. -/
def fnWorkersSpec : ChangeSpec := { name := "fnWorkers", fn := fun _ => fun
  | [d] => { results := [.lit (.bool true)], args := [d] }
  | _ => none }
def fnWorkersRow : OpenClaim := { program := "ytmfaeekmcclleaa", sum := "dc3e2c312912f14c053354a05d593ed79372bda67b5c7b95ca5a8be95925c1b1", func := "loop.example/g01019/laws.FnWorkers", spec := "fnWorkers", unfollowed := true, recurses := true, apart := false }
def FnWorkersSaid : Prop := fnWorkersRow.holds Try.pinned (OpenSpec.ofChange fnWorkersSpec)

/-- ITS FALSE NEIGHBOUR: 'it returns false'. Refute it at one input. -/
def fnWorkersWrong : ChangeSpec := { name := "fnWorkers", fn := fun _ => fun
  | [d] => { results := [.lit (.bool false)], args := [d] }
  | _ => none }
def FnWorkersWrongFalsely : Prop := fnWorkersRow.holds Try.pinned (OpenSpec.ofChange fnWorkersWrong)

/-- 'laws.FnExactSpareWorkers': WHATEVER THE INPUT: true; the input reads as it did. -/
def fnExactSpareWorkersSpec : ChangeSpec := { name := "fnExactSpareWorkers", fn := fun _ => fun
  | [d1, d2, d3] => { results := [.lit (.bool true)], args := [d1, d2, d3] }
  | _ => none }
def fnExactSpareWorkersRow : OpenClaim := { program := "ytmfaeekmcclleaa", sum := "dc3e2c312912f14c053354a05d593ed79372bda67b5c7b95ca5a8be95925c1b1", func := "loop.example/g01019/laws.FnExactSpareWorkers", spec := "fnExactSpareWorkers", unfollowed := true, recurses := true, apart := false }
def FnExactSpareWorkersSaid : Prop := fnExactSpareWorkersRow.holds Try.pinned (OpenSpec.ofChange fnExactSpareWorkersSpec)

/-- ITS FALSE NEIGHBOUR: 'it returns false'. Refute it at one input. -/
def fnExactSpareWorkersWrong : ChangeSpec := { name := "fnExactSpareWorkers", fn := fun _ => fun
  | [d1, d2, d3] => { results := [.lit (.bool false)], args := [d1, d2, d3] }
  | _ => none }
def FnExactSpareWorkersWrongFalsely : Prop := fnExactSpareWorkersRow.holds Try.pinned (OpenSpec.ofChange fnExactSpareWorkersWrong)

/-- 'laws.FnExactGangSizes': WHATEVER THE INPUT: true; the input reads as it did. -/
def fnExactGangSizesSpec : ChangeSpec := { name := "fnExactGangSizes", fn := fun _ => fun
  | [d] => { results := [.lit (.bool true)], args := [d] }
  | _ => none }
def fnExactGangSizesRow : OpenClaim := { program := "ytmfaeekmcclleaa", sum := "dc3e2c312912f14c053354a05d593ed79372bda67b5c7b95ca5a8be95925c1b1", func := "loop.example/g01019/laws.FnExactGangSizes", spec := "fnExactGangSizes", apart := false }
def FnExactGangSizesSaid : Prop := fnExactGangSizesRow.holds Try.pinned (OpenSpec.ofChange fnExactGangSizesSpec)

/-- ITS FALSE NEIGHBOUR: 'it returns false'. Refute it at one input. -/
def fnExactGangSizesWrong : ChangeSpec := { name := "fnExactGangSizes", fn := fun _ => fun
  | [d] => { results := [.lit (.bool false)], args := [d] }
  | _ => none }
def FnExactGangSizesWrongFalsely : Prop := fnExactGangSizesRow.holds Try.pinned (OpenSpec.ofChange fnExactGangSizesWrong)

/-- 'laws.FnExactEvenGangs': WHATEVER THE INPUT: true; the input reads as it did. -/
def fnExactEvenGangsSpec : ChangeSpec := { name := "fnExactEvenGangs", fn := fun _ => fun
  | [d] => { results := [.lit (.bool true)], args := [d] }
  | _ => none }
def fnExactEvenGangsRow : OpenClaim := { program := "ytmfaeekmcclleaa", sum := "dc3e2c312912f14c053354a05d593ed79372bda67b5c7b95ca5a8be95925c1b1", func := "loop.example/g01019/laws.FnExactEvenGangs", spec := "fnExactEvenGangs", unfollowed := true, recurses := true, apart := false }
def FnExactEvenGangsSaid : Prop := fnExactEvenGangsRow.holds Try.pinned (OpenSpec.ofChange fnExactEvenGangsSpec)

/-- ITS FALSE NEIGHBOUR: 'it returns false'. Refute it at one input. -/
def fnExactEvenGangsWrong : ChangeSpec := { name := "fnExactEvenGangs", fn := fun _ => fun
  | [d] => { results := [.lit (.bool false)], args := [d] }
  | _ => none }
def FnExactEvenGangsWrongFalsely : Prop := fnExactEvenGangsRow.holds Try.pinned (OpenSpec.ofChange fnExactEvenGangsWrong)

/- THE SECOND FORM. 'bulk': how many values and letters a reading holds, each counted each time it is reached (what is shared counts as often as it is met; a slice's spare places count too). A statement '..UptoSaid' is the law's where the arguments, and the package variables that the reading takes, are together of bulk at most 1048576: NARROWER than '..Said'. Prove '..Said' where nothing that the law and all that it calls make is longer than what came in: it says more and counts as full. Else prove '..UptoSaid'. A law counts once. -/
mutual
def uptoBulk {H : Type} : DataW H → Nat
  | .lit (.string bytes) => bytes.length + 1
  | .lit _ => 1
  | .nil => 1
  | .ptr d => uptoBulk d + 1
  | .slice elems spare => uptoBulkAll elems + uptoBulkAll spare + 1
  | .agg parts => uptoBulkAll parts + 1
  | .iface _ d => uptoBulk d + 1
  | .map entries => uptoBulkEntries entries + 1
  | .held _ => 1
def uptoBulkAll {H : Type} : List (DataW H) → Nat
  | [] => 0
  | d :: r => uptoBulk d + uptoBulkAll r
def uptoBulkEntries {H : Type} : List (Lit × DataW H) → Nat
  | [] => 0
  | x :: r => uptoBulkEntry x + uptoBulkEntries r
def uptoBulkEntry {H : Type} : Lit × DataW H → Nat
  | (.string bytes, d) => bytes.length + uptoBulk d + 1
  | (_, d) => uptoBulk d + 1
 end
def uptoSmall : (H : Type) → List (DataW H) → Bool := fun _ ds => decide (uptoBulkAll ds ≤ 1048576)
def OpenSpec.upto (s : _root_.Go.ChangeSpec) : _root_.Go.OpenSpec := { _root_.Go.OpenSpec.ofChange s with cond := some uptoSmall }

/-- 'laws.FnGangs', WHERE WHAT IT READS IS OF BULK AT MOST 1048576: true; the input reads as it did. -/
def fnGangsUptoRow : OpenClaim := { program := "ytmfaeekmcclleaa", sum := "dc3e2c312912f14c053354a05d593ed79372bda67b5c7b95ca5a8be95925c1b1", func := "loop.example/g01019/laws.FnGangs", spec := "fnGangs", unfollowed := true, recurses := true, apart := false, narrowed := true }
def FnGangsUptoSaid : Prop := fnGangsUptoRow.holds Try.pinned (OpenSpec.upto fnGangsSpec)

/-- 'laws.FnWorkers', WHERE WHAT IT READS IS OF BULK AT MOST 1048576: true; the input reads as it did. -/
def fnWorkersUptoRow : OpenClaim := { program := "ytmfaeekmcclleaa", sum := "dc3e2c312912f14c053354a05d593ed79372bda67b5c7b95ca5a8be95925c1b1", func := "loop.example/g01019/laws.FnWorkers", spec := "fnWorkers", unfollowed := true, recurses := true, apart := false, narrowed := true }
def FnWorkersUptoSaid : Prop := fnWorkersUptoRow.holds Try.pinned (OpenSpec.upto fnWorkersSpec)

/-- 'laws.FnExactSpareWorkers', WHERE WHAT IT READS IS OF BULK AT MOST 1048576: true; the input reads as it did. -/
def fnExactSpareWorkersUptoRow : OpenClaim := { program := "ytmfaeekmcclleaa", sum := "dc3e2c312912f14c053354a05d593ed79372bda67b5c7b95ca5a8be95925c1b1", func := "loop.example/g01019/laws.FnExactSpareWorkers", spec := "fnExactSpareWorkers", unfollowed := true, recurses := true, apart := false, narrowed := true }
def FnExactSpareWorkersUptoSaid : Prop := fnExactSpareWorkersUptoRow.holds Try.pinned (OpenSpec.upto fnExactSpareWorkersSpec)

/-- 'laws.FnExactGangSizes', WHERE WHAT IT READS IS OF BULK AT MOST 1048576: true; the input reads as it did. -/
def fnExactGangSizesUptoRow : OpenClaim := { program := "ytmfaeekmcclleaa", sum := "dc3e2c312912f14c053354a05d593ed79372bda67b5c7b95ca5a8be95925c1b1", func := "loop.example/g01019/laws.FnExactGangSizes", spec := "fnExactGangSizes", apart := false, narrowed := true }
def FnExactGangSizesUptoSaid : Prop := fnExactGangSizesUptoRow.holds Try.pinned (OpenSpec.upto fnExactGangSizesSpec)

/-- 'laws.FnExactEvenGangs', WHERE WHAT IT READS IS OF BULK AT MOST 1048576: true; the input reads as it did. -/
def fnExactEvenGangsUptoRow : OpenClaim := { program := "ytmfaeekmcclleaa", sum := "dc3e2c312912f14c053354a05d593ed79372bda67b5c7b95ca5a8be95925c1b1", func := "loop.example/g01019/laws.FnExactEvenGangs", spec := "fnExactEvenGangs", unfollowed := true, recurses := true, apart := false, narrowed := true }
def FnExactEvenGangsUptoSaid : Prop := fnExactEvenGangsUptoRow.holds Try.pinned (OpenSpec.upto fnExactEvenGangsSpec)

end Rows
end Go.Proofs.Ytmfaeekmcclleaa
