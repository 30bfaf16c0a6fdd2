/-
  No cell of these rows narrows 'for every input' (looked for: loops, veiled, ifaces, maps, wideKeys, modest, calm, conditions, laid).
  DERIVED. THE GIVEN ROWS OF THIS SEAT. 11 by the template 'for every input the law returns true; each argument reads behind the call as it read before'; 0 by the template 'total and deterministic' (their statements: YtpokgnkcnibapaaTotals.lean).
  GIVEN WITH THE SEED: the statements are not yours to turn. If you find one false, say at which input.
  Laid BY PROGRAM, IN A SANDBOX (cutbox-rows.mjs): the forced cells as the released guide's own fill.sh prints them over the translation 6381541e9ade8a4a… (all of the seat's roots in one cut). By AI agents, Wed Nov 11 2026. No macro, syntax, notation, axiom, sorry.
-/
import Derived.Test.YtpokgnkcnibapaaChecked
import GoSem.Claim
import GoSem.ClaimJoined
import GoSem.ClaimMapViews
import Derived.JoinedTies
import Derived.KernelRfl
namespace Go.Proofs.Ytpokgnkcnibapaa
/- THE CELL 'sum', in the pinned program and in every row, IS THE sha256 OF THE DUMP (.gsa) THAT YtpokgnkcnibapaaProg.lean LOADS. Nothing in Lean hashes anything: it is a label: what it is worth is what the hold of that sum in a sandbox is worth. -/
noncomputable def Try.pinned : Pinned := { name := "ytpokgnkcnibapaa", sum := "6381541e9ade8a4a1bf1933d43d415509189ebde85a368a3e7a2a2e3ea0c261f", checked := Try.checked }
namespace Rows
def none {H : Type} : Left H := { results := [], args := [] }

/-- 'laws.FnWashing': WHATEVER THE INPUT: true; the input reads as it did. -/
def fnWashingSpec : ChangeSpec := { name := "fnWashing", fn := fun _ => fun
  | [d] => { results := [.lit (.bool true)], args := [d] }
  | _ => none }
def fnWashingRow : OpenClaim := { program := "ytpokgnkcnibapaa", sum := "6381541e9ade8a4a1bf1933d43d415509189ebde85a368a3e7a2a2e3ea0c261f", func := "loop.example/g01019/laws.FnWashing", spec := "fnWashing", apart := false }
def FnWashingSaid : Prop := fnWashingRow.holds Try.pinned (OpenSpec.ofChange fnWashingSpec)

/-- ITS FALSE NEIGHBOUR: 'it returns false'. Refute it at one input. -/
def fnWashingWrong : ChangeSpec := { name := "fnWashing", fn := fun _ => fun
  | [d] => { results := [.lit (.bool false)], args := [d] }
  | _ => none }
def FnWashingWrongFalsely : Prop := fnWashingRow.holds Try.pinned (OpenSpec.ofChange fnWashingWrong)

/-- 'laws.FnBatches': WHATEVER THE INPUT: true; the input reads as it did. -/
def fnBatchesSpec : ChangeSpec := { name := "fnBatches", fn := fun _ => fun
  | [d] => { results := [.lit (.bool true)], args := [d] }
  | _ => none }
def fnBatchesRow : OpenClaim := { program := "ytpokgnkcnibapaa", sum := "6381541e9ade8a4a1bf1933d43d415509189ebde85a368a3e7a2a2e3ea0c261f", func := "loop.example/g01019/laws.FnBatches", spec := "fnBatches", apart := false }
def FnBatchesSaid : Prop := fnBatchesRow.holds Try.pinned (OpenSpec.ofChange fnBatchesSpec)

/-- ITS FALSE NEIGHBOUR: 'it returns false'. Refute it at one input. -/
def fnBatchesWrong : ChangeSpec := { name := "fnBatches", fn := fun _ => fun
  | [d] => { results := [.lit (.bool false)], args := [d] }
  | _ => none }
def FnBatchesWrongFalsely : Prop := fnBatchesRow.holds Try.pinned (OpenSpec.ofChange fnBatchesWrong)

/-- 'laws.FnExactIsBatch': WHATEVER THE INPUT: true; the input reads as it did. -/
def fnExactIsBatchSpec : ChangeSpec := { name := "fnExactIsBatch", fn := fun _ => fun
  | [d] => { results := [.lit (.bool true)], args := [d] }
  | _ => none }
def fnExactIsBatchRow : OpenClaim := { program := "ytpokgnkcnibapaa", sum := "6381541e9ade8a4a1bf1933d43d415509189ebde85a368a3e7a2a2e3ea0c261f", func := "loop.example/g01019/laws.FnExactIsBatch", spec := "fnExactIsBatch", apart := false }
def FnExactIsBatchSaid : Prop := fnExactIsBatchRow.holds Try.pinned (OpenSpec.ofChange fnExactIsBatchSpec)

/-- ITS FALSE NEIGHBOUR: 'it returns false'. Refute it at one input. -/
def fnExactIsBatchWrong : ChangeSpec := { name := "fnExactIsBatch", fn := fun _ => fun
  | [d] => { results := [.lit (.bool false)], args := [d] }
  | _ => none }
def FnExactIsBatchWrongFalsely : Prop := fnExactIsBatchRow.holds Try.pinned (OpenSpec.ofChange fnExactIsBatchWrong)

/-- 'laws.FnExactPurityOf': WHATEVER THE INPUT: true; the input reads as it did. -/
def fnExactPurityOfSpec : ChangeSpec := { name := "fnExactPurityOf", fn := fun _ => fun
  | [d] => { results := [.lit (.bool true)], args := [d] }
  | _ => none }
def fnExactPurityOfRow : OpenClaim := { program := "ytpokgnkcnibapaa", sum := "6381541e9ade8a4a1bf1933d43d415509189ebde85a368a3e7a2a2e3ea0c261f", func := "loop.example/g01019/laws.FnExactPurityOf", spec := "fnExactPurityOf", apart := false }
def FnExactPurityOfSaid : Prop := fnExactPurityOfRow.holds Try.pinned (OpenSpec.ofChange fnExactPurityOfSpec)

/-- ITS FALSE NEIGHBOUR: 'it returns false'. Refute it at one input. -/
def fnExactPurityOfWrong : ChangeSpec := { name := "fnExactPurityOf", fn := fun _ => fun
  | [d] => { results := [.lit (.bool false)], args := [d] }
  | _ => none }
def FnExactPurityOfWrongFalsely : Prop := fnExactPurityOfRow.holds Try.pinned (OpenSpec.ofChange fnExactPurityOfWrong)

/-- 'laws.FnExactAfterWash': WHATEVER THE INPUT: true; the input reads as it did. -/
def fnExactAfterWashSpec : ChangeSpec := { name := "fnExactAfterWash", fn := fun _ => fun
  | [d1, d2, d3] => { results := [.lit (.bool true)], args := [d1, d2, d3] }
  | _ => none }
def fnExactAfterWashRow : OpenClaim := { program := "ytpokgnkcnibapaa", sum := "6381541e9ade8a4a1bf1933d43d415509189ebde85a368a3e7a2a2e3ea0c261f", func := "loop.example/g01019/laws.FnExactAfterWash", spec := "fnExactAfterWash", apart := false }
def FnExactAfterWashSaid : Prop := fnExactAfterWashRow.holds Try.pinned (OpenSpec.ofChange fnExactAfterWashSpec)

/-- ITS FALSE NEIGHBOUR: 'it returns false'. Refute it at one input. -/
def fnExactAfterWashWrong : ChangeSpec := { name := "fnExactAfterWash", fn := fun _ => fun
  | [d1, d2, d3] => { results := [.lit (.bool false)], args := [d1, d2, d3] }
  | _ => none }
def FnExactAfterWashWrongFalsely : Prop := fnExactAfterWashRow.holds Try.pinned (OpenSpec.ofChange fnExactAfterWashWrong)

/-- 'laws.FnExactAfterStages': WHATEVER THE INPUT: true; the input reads as it did. -/
def fnExactAfterStagesSpec : ChangeSpec := { name := "fnExactAfterStages", fn := fun _ => fun
  | [d1, d2, d3] => { results := [.lit (.bool true)], args := [d1, d2, d3] }
  | _ => none }
def fnExactAfterStagesRow : OpenClaim := { program := "ytpokgnkcnibapaa", sum := "6381541e9ade8a4a1bf1933d43d415509189ebde85a368a3e7a2a2e3ea0c261f", func := "loop.example/g01019/laws.FnExactAfterStages", spec := "fnExactAfterStages", apart := false }
def FnExactAfterStagesSaid : Prop := fnExactAfterStagesRow.holds Try.pinned (OpenSpec.ofChange fnExactAfterStagesSpec)

/-- ITS FALSE NEIGHBOUR: 'it returns false'. Refute it at one input. -/
def fnExactAfterStagesWrong : ChangeSpec := { name := "fnExactAfterStages", fn := fun _ => fun
  | [d1, d2, d3] => { results := [.lit (.bool false)], args := [d1, d2, d3] }
  | _ => none }
def FnExactAfterStagesWrongFalsely : Prop := fnExactAfterStagesRow.holds Try.pinned (OpenSpec.ofChange fnExactAfterStagesWrong)

/-- 'laws.FnExactStagesNeeded': WHATEVER THE INPUT: true; the input reads as it did. -/
def fnExactStagesNeededSpec : ChangeSpec := { name := "fnExactStagesNeeded", fn := fun _ => fun
  | [d1, d2, d3] => { results := [.lit (.bool true)], args := [d1, d2, d3] }
  | _ => none }
def fnExactStagesNeededRow : OpenClaim := { program := "ytpokgnkcnibapaa", sum := "6381541e9ade8a4a1bf1933d43d415509189ebde85a368a3e7a2a2e3ea0c261f", func := "loop.example/g01019/laws.FnExactStagesNeeded", spec := "fnExactStagesNeeded", apart := false }
def FnExactStagesNeededSaid : Prop := fnExactStagesNeededRow.holds Try.pinned (OpenSpec.ofChange fnExactStagesNeededSpec)

/-- ITS FALSE NEIGHBOUR: 'it returns false'. Refute it at one input. -/
def fnExactStagesNeededWrong : ChangeSpec := { name := "fnExactStagesNeeded", fn := fun _ => fun
  | [d1, d2, d3] => { results := [.lit (.bool false)], args := [d1, d2, d3] }
  | _ => none }
def FnExactStagesNeededWrongFalsely : Prop := fnExactStagesNeededRow.holds Try.pinned (OpenSpec.ofChange fnExactStagesNeededWrong)

/-- 'laws.FnExactWaterNeeded': WHATEVER THE INPUT: true; the input reads as it did. -/
def fnExactWaterNeededSpec : ChangeSpec := { name := "fnExactWaterNeeded", fn := fun _ => fun
  | [d1, d2] => { results := [.lit (.bool true)], args := [d1, d2] }
  | _ => none }
def fnExactWaterNeededRow : OpenClaim := { program := "ytpokgnkcnibapaa", sum := "6381541e9ade8a4a1bf1933d43d415509189ebde85a368a3e7a2a2e3ea0c261f", func := "loop.example/g01019/laws.FnExactWaterNeeded", spec := "fnExactWaterNeeded", apart := false }
def FnExactWaterNeededSaid : Prop := fnExactWaterNeededRow.holds Try.pinned (OpenSpec.ofChange fnExactWaterNeededSpec)

/-- ITS FALSE NEIGHBOUR: 'it returns false'. Refute it at one input. -/
def fnExactWaterNeededWrong : ChangeSpec := { name := "fnExactWaterNeeded", fn := fun _ => fun
  | [d1, d2] => { results := [.lit (.bool false)], args := [d1, d2] }
  | _ => none }
def FnExactWaterNeededWrongFalsely : Prop := fnExactWaterNeededRow.holds Try.pinned (OpenSpec.ofChange fnExactWaterNeededWrong)

/-- 'laws.FnExactCounterCurrent': WHATEVER THE INPUT: true; the input reads as it did. -/
def fnExactCounterCurrentSpec : ChangeSpec := { name := "fnExactCounterCurrent", fn := fun _ => fun
  | [d1, d2] => { results := [.lit (.bool true)], args := [d1, d2] }
  | _ => none }
def fnExactCounterCurrentRow : OpenClaim := { program := "ytpokgnkcnibapaa", sum := "6381541e9ade8a4a1bf1933d43d415509189ebde85a368a3e7a2a2e3ea0c261f", func := "loop.example/g01019/laws.FnExactCounterCurrent", spec := "fnExactCounterCurrent", apart := false }
def FnExactCounterCurrentSaid : Prop := fnExactCounterCurrentRow.holds Try.pinned (OpenSpec.ofChange fnExactCounterCurrentSpec)

/-- ITS FALSE NEIGHBOUR: 'it returns false'. Refute it at one input. -/
def fnExactCounterCurrentWrong : ChangeSpec := { name := "fnExactCounterCurrent", fn := fun _ => fun
  | [d1, d2] => { results := [.lit (.bool false)], args := [d1, d2] }
  | _ => none }
def FnExactCounterCurrentWrongFalsely : Prop := fnExactCounterCurrentRow.holds Try.pinned (OpenSpec.ofChange fnExactCounterCurrentWrong)

/-- 'laws.FnExactDryBatch': WHATEVER THE INPUT: true; the input reads as it did. -/
def fnExactDryBatchSpec : ChangeSpec := { name := "fnExactDryBatch", fn := fun _ => fun
  | [d1, d2] => { results := [.lit (.bool true)], args := [d1, d2] }
  | _ => none }
def fnExactDryBatchRow : OpenClaim := { program := "ytpokgnkcnibapaa", sum := "6381541e9ade8a4a1bf1933d43d415509189ebde85a368a3e7a2a2e3ea0c261f", func := "loop.example/g01019/laws.FnExactDryBatch", spec := "fnExactDryBatch", apart := false }
def FnExactDryBatchSaid : Prop := fnExactDryBatchRow.holds Try.pinned (OpenSpec.ofChange fnExactDryBatchSpec)

/-- ITS FALSE NEIGHBOUR: 'it returns false'. Refute it at one input. -/
def fnExactDryBatchWrong : ChangeSpec := { name := "fnExactDryBatch", fn := fun _ => fun
  | [d1, d2] => { results := [.lit (.bool false)], args := [d1, d2] }
  | _ => none }
def FnExactDryBatchWrongFalsely : Prop := fnExactDryBatchRow.holds Try.pinned (OpenSpec.ofChange fnExactDryBatchWrong)

/-- 'laws.FnExactJoinBatches': WHATEVER THE INPUT: true; the input reads as it did. -/
def fnExactJoinBatchesSpec : ChangeSpec := { name := "fnExactJoinBatches", fn := fun _ => fun
  | [d1, d2] => { results := [.lit (.bool true)], args := [d1, d2] }
  | _ => none }
def fnExactJoinBatchesRow : OpenClaim := { program := "ytpokgnkcnibapaa", sum := "6381541e9ade8a4a1bf1933d43d415509189ebde85a368a3e7a2a2e3ea0c261f", func := "loop.example/g01019/laws.FnExactJoinBatches", spec := "fnExactJoinBatches", apart := false }
def FnExactJoinBatchesSaid : Prop := fnExactJoinBatchesRow.holds Try.pinned (OpenSpec.ofChange fnExactJoinBatchesSpec)

/-- ITS FALSE NEIGHBOUR: 'it returns false'. Refute it at one input. -/
def fnExactJoinBatchesWrong : ChangeSpec := { name := "fnExactJoinBatches", fn := fun _ => fun
  | [d1, d2] => { results := [.lit (.bool false)], args := [d1, d2] }
  | _ => none }
def FnExactJoinBatchesWrongFalsely : Prop := fnExactJoinBatchesRow.holds Try.pinned (OpenSpec.ofChange fnExactJoinBatchesWrong)

/- THE SECOND FORM. 'bulk': how many values and letters a reading holds, each counted each time it is reached (what is shared counts as often as it is met; a slice's spare places count too). A statement '..UptoSaid' is the law's where the arguments, and the package variables that the reading takes, are together of bulk at most 1048576: NARROWER than '..Said'. Prove '..Said' where nothing that the law and all that it calls make is longer than what came in: it says more and counts as full. Else prove '..UptoSaid'. A law counts once. -/
mutual
def uptoBulk {H : Type} : DataW H → Nat
  | .lit (.string bytes) => bytes.length + 1
  | .lit _ => 1
  | .nil => 1
  | .ptr d => uptoBulk d + 1
  | .slice elems spare => uptoBulkAll elems + uptoBulkAll spare + 1
  | .agg parts => uptoBulkAll parts + 1
  | .iface _ d => uptoBulk d + 1
  | .map entries => uptoBulkEntries entries + 1
  | .held _ => 1
def uptoBulkAll {H : Type} : List (DataW H) → Nat
  | [] => 0
  | d :: r => uptoBulk d + uptoBulkAll r
def uptoBulkEntries {H : Type} : List (Lit × DataW H) → Nat
  | [] => 0
  | x :: r => uptoBulkEntry x + uptoBulkEntries r
def uptoBulkEntry {H : Type} : Lit × DataW H → Nat
  | (.string bytes, d) => bytes.length + uptoBulk d + 1
  | (_, d) => uptoBulk d + 1
 end
def uptoSmall : (H : Type) → List (DataW H) → Bool := fun _ ds => decide (uptoBulkAll ds ≤ 1048576)
def OpenSpec.upto (s : _root_.Go.ChangeSpec) : _root_.Go.OpenSpec := { _root_.Go.OpenSpec.ofChange s with cond := some uptoSmall }

/-- 'laws.FnWashing', WHERE WHAT IT READS IS OF BULK AT MOST 1048576: true; the input reads as it did. -/
def fnWashingUptoRow : OpenClaim := { program := "ytpokgnkcnibapaa", sum := "6381541e9ade8a4a1bf1933d43d415509189ebde85a368a3e7a2a2e3ea0c261f", func := "loop.example/g01019/laws.FnWashing", spec := "fnWashing", apart := false, narrowed := true }
def FnWashingUptoSaid : Prop := fnWashingUptoRow.holds Try.pinned (OpenSpec.upto fnWashingSpec)

/-- 'laws.FnBatches', WHERE WHAT IT READS IS OF BULK AT MOST 1048576: true; the input reads as it did. -/
def fnBatchesUptoRow : OpenClaim := { program := "ytpokgnkcnibapaa", sum := "6381541e9ade8a4a1bf1933d43d415509189ebde85a368a3e7a2a2e3ea0c261f", func := "loop.example/g01019/laws.FnBatches", spec := "fnBatches", apart := false, narrowed := true }
def FnBatchesUptoSaid : Prop := fnBatchesUptoRow.holds Try.pinned (OpenSpec.upto fnBatchesSpec)

/-- 'laws.FnExactIsBatch', WHERE WHAT IT READS IS OF BULK AT MOST 1048576: true; the input reads as it did. -/
def fnExactIsBatchUptoRow : OpenClaim := { program := "ytpokgnkcnibapaa", sum := "6381541e9ade8a4a1bf1933d43d415509189ebde85a368a3e7a2a2e3ea0c261f", func := "loop.example/g01019/laws.FnExactIsBatch", spec := "fnExactIsBatch", apart := false, narrowed := true }
def FnExactIsBatchUptoSaid : Prop := fnExactIsBatchUptoRow.holds Try.pinned (OpenSpec.upto fnExactIsBatchSpec)

/-- 'laws.FnExactPurityOf', WHERE WHAT IT READS IS OF BULK AT MOST 1048576: true; the input reads as it did. -/
def fnExactPurityOfUptoRow : OpenClaim := { program := "ytpokgnkcnibapaa", sum := "6381541e9ade8a4a1bf1933d43d415509189ebde85a368a3e7a2a2e3ea0c261f", func := "loop.example/g01019/laws.FnExactPurityOf", spec := "fnExactPurityOf", apart := false, narrowed := true }
def FnExactPurityOfUptoSaid : Prop := fnExactPurityOfUptoRow.holds Try.pinned (OpenSpec.upto fnExactPurityOfSpec)

/-- 'laws.FnExactAfterWash', WHERE WHAT IT READS IS OF BULK AT MOST 1048576: true; the input reads as it did. -/
def fnExactAfterWashUptoRow : OpenClaim := { program := "ytpokgnkcnibapaa", sum := "6381541e9ade8a4a1bf1933d43d415509189ebde85a368a3e7a2a2e3ea0c261f", func := "loop.example/g01019/laws.FnExactAfterWash", spec := "fnExactAfterWash", apart := false, narrowed := true }
def FnExactAfterWashUptoSaid : Prop := fnExactAfterWashUptoRow.holds Try.pinned (OpenSpec.upto fnExactAfterWashSpec)

/-- 'laws.FnExactAfterStages', WHERE WHAT IT READS IS OF BULK AT MOST 1048576: true; the input reads as it did. -/
def fnExactAfterStagesUptoRow : OpenClaim := { program := "ytpokgnkcnibapaa", sum := "6381541e9ade8a4a1bf1933d43d415509189ebde85a368a3e7a2a2e3ea0c261f", func := "loop.example/g01019/laws.FnExactAfterStages", spec := "fnExactAfterStages", apart := false, narrowed := true }
def FnExactAfterStagesUptoSaid : Prop := fnExactAfterStagesUptoRow.holds Try.pinned (OpenSpec.upto fnExactAfterStagesSpec)

/-- 'laws.FnExactStagesNeeded', WHERE WHAT IT READS IS OF BULK AT MOST 1048576: true; the input reads as it did. -/
def fnExactStagesNeededUptoRow : OpenClaim := { program := "ytpokgnkcnibapaa", sum := "6381541e9ade8a4a1bf1933d43d415509189ebde85a368a3e7a2a2e3ea0c261f", func := "loop.example/g01019/laws.FnExactStagesNeeded", spec := "fnExactStagesNeeded", apart := false, narrowed := true }
def FnExactStagesNeededUptoSaid : Prop := fnExactStagesNeededUptoRow.holds Try.pinned (OpenSpec.upto fnExactStagesNeededSpec)

/-- 'laws.FnExactWaterNeeded', WHERE WHAT IT READS IS OF BULK AT MOST 1048576: true; the input reads as it did. -/
def fnExactWaterNeededUptoRow : OpenClaim := { program := "ytpokgnkcnibapaa", sum := "6381541e9ade8a4a1bf1933d43d415509189ebde85a368a3e7a2a2e3ea0c261f", func := "loop.example/g01019/laws.FnExactWaterNeeded", spec := "fnExactWaterNeeded", apart := false, narrowed := true }
def FnExactWaterNeededUptoSaid : Prop := fnExactWaterNeededUptoRow.holds Try.pinned (OpenSpec.upto fnExactWaterNeededSpec)

/-- 'laws.FnExactCounterCurrent', WHERE WHAT IT READS IS OF BULK AT MOST 1048576: true; the input reads as it did. -/
def fnExactCounterCurrentUptoRow : OpenClaim := { program := "ytpokgnkcnibapaa", sum := "6381541e9ade8a4a1bf1933d43d415509189ebde85a368a3e7a2a2e3ea0c261f", func := "loop.example/g01019/laws.FnExactCounterCurrent", spec := "fnExactCounterCurrent", apart := false, narrowed := true }
def FnExactCounterCurrentUptoSaid : Prop := fnExactCounterCurrentUptoRow.holds Try.pinned (OpenSpec.upto fnExactCounterCurrentSpec)

/-- 'laws.FnExactDryBatch', WHERE WHAT IT READS IS OF BULK AT MOST 1048576: true; the input reads as it did. -/
def fnExactDryBatchUptoRow : OpenClaim := { program := "ytpokgnkcnibapaa", sum := "6381541e9ade8a4a1bf1933d43d415509189ebde85a368a3e7a2a2e3ea0c261f", func := "loop.example/g01019/laws.FnExactDryBatch", spec := "fnExactDryBatch", apart := false, narrowed := true }
def FnExactDryBatchUptoSaid : Prop := fnExactDryBatchUptoRow.holds Try.pinned (OpenSpec.upto fnExactDryBatchSpec)

/-- 'laws.FnExactJoinBatches', WHERE WHAT IT READS IS OF BULK AT MOST 1048576: true; the input reads as it did. -/
def fnExactJoinBatchesUptoRow : OpenClaim := { program := "ytpokgnkcnibapaa", sum := "6381541e9ade8a4a1bf1933d43d415509189ebde85a368a3e7a2a2e3ea0c261f", func := "loop.example/g01019/laws.FnExactJoinBatches", spec := "fnExactJoinBatches", apart := false, narrowed := true }
def FnExactJoinBatchesUptoSaid : Prop := fnExactJoinBatchesUptoRow.holds Try.pinned (OpenSpec.upto fnExactJoinBatchesSpec)

end Rows
end Go.Proofs.Ytpokgnkcnibapaa
