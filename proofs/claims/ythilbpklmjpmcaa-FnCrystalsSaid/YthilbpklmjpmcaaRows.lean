/-
  No cell of these rows narrows 'for every input' (looked for: loops, veiled, ifaces, maps, wideKeys, modest, calm, conditions, laid).
  DERIVED. THE GIVEN ROWS OF THIS SEAT. 11 by the template 'for every input the law returns true; each argument reads behind the call as it read before'; 0 by the template 'total and deterministic' (their statements: YthilbpklmjpmcaaTotals.lean).
  GIVEN WITH THE SEED: the statements are not yours to turn. If you find one false, say at which input.
  Laid BY PROGRAM, IN A SANDBOX (cutbox-rows.mjs): the forced cells as the released guide's own fill.sh prints them over the translation a30aa03fe69b564a… (all of the seat's roots in one cut). By AI agents, Wed Nov 11 2026. No macro, syntax, notation, axiom, sorry.
-/
import Derived.Test.YthilbpklmjpmcaaChecked
import GoSem.Claim
import GoSem.ClaimJoined
import GoSem.ClaimMapViews
import Derived.JoinedTies
import Derived.KernelRfl
namespace Go.Proofs.Ythilbpklmjpmcaa
/- THE CELL 'sum', in the pinned program and in every row, IS THE sha256 OF THE DUMP (.gsa) THAT YthilbpklmjpmcaaProg.lean LOADS. Nothing in Lean hashes anything: it is a label: what it is worth is what the hold of that sum in a sandbox is worth. -/
noncomputable def Try.pinned : Pinned := { name := "ythilbpklmjpmcaa", sum := "a30aa03fe69b564aa21d731e3ade646e0c0c6764f37f9bab461f8242e9853cfc", checked := Try.checked }
namespace Rows
def none {H : Type} : Left H := { results := [], args := [] }

/-- 'laws.FnCrystals': WHATEVER THE INPUT: true; the input reads as it did. -/
def fnCrystalsSpec : ChangeSpec := { name := "fnCrystals", fn := fun _ => fun
  | [d] => { results := [.lit (.bool true)], args := [d] }
  | _ => none }
def fnCrystalsRow : OpenClaim := { program := "ythilbpklmjpmcaa", sum := "a30aa03fe69b564aa21d731e3ade646e0c0c6764f37f9bab461f8242e9853cfc", func := "loop.example/g01019/laws.FnCrystals", spec := "fnCrystals", apart := false }
def FnCrystalsSaid : Prop := fnCrystalsRow.holds Try.pinned (OpenSpec.ofChange fnCrystalsSpec)

/-- ITS FALSE NEIGHBOUR: 'it returns false'. Refute it at one input. -/
def fnCrystalsWrong : ChangeSpec := { name := "fnCrystals", fn := fun _ => fun
  | [d] => { results := [.lit (.bool false)], args := [d] }
  | _ => none }
def FnCrystalsWrongFalsely : Prop := fnCrystalsRow.holds Try.pinned (OpenSpec.ofChange fnCrystalsWrong)

/-- 'laws.FnDrying': WHATEVER THE INPUT: true; the input reads as it did. -/
def fnDryingSpec : ChangeSpec := { name := "fnDrying", fn := fun _ => fun
  | [d] => { results := [.lit (.bool true)], args := [d] }
  | _ => none }
def fnDryingRow : OpenClaim := { program := "ythilbpklmjpmcaa", sum := "a30aa03fe69b564aa21d731e3ade646e0c0c6764f37f9bab461f8242e9853cfc", func := "loop.example/g01019/laws.FnDrying", spec := "fnDrying", apart := false }
def FnDryingSaid : Prop := fnDryingRow.holds Try.pinned (OpenSpec.ofChange fnDryingSpec)

/-- ITS FALSE NEIGHBOUR: 'it returns false'. Refute it at one input. -/
def fnDryingWrong : ChangeSpec := { name := "fnDrying", fn := fun _ => fun
  | [d] => { results := [.lit (.bool false)], args := [d] }
  | _ => none }
def FnDryingWrongFalsely : Prop := fnDryingRow.holds Try.pinned (OpenSpec.ofChange fnDryingWrong)

/-- 'laws.FnExactAreKinds': WHATEVER THE INPUT: true; the input reads as it did. -/
def fnExactAreKindsSpec : ChangeSpec := { name := "fnExactAreKinds", fn := fun _ => fun
  | [d] => { results := [.lit (.bool true)], args := [d] }
  | _ => none }
def fnExactAreKindsRow : OpenClaim := { program := "ythilbpklmjpmcaa", sum := "a30aa03fe69b564aa21d731e3ade646e0c0c6764f37f9bab461f8242e9853cfc", func := "loop.example/g01019/laws.FnExactAreKinds", spec := "fnExactAreKinds", apart := false }
def FnExactAreKindsSaid : Prop := fnExactAreKindsRow.holds Try.pinned (OpenSpec.ofChange fnExactAreKindsSpec)

/-- ITS FALSE NEIGHBOUR: 'it returns false'. Refute it at one input. -/
def fnExactAreKindsWrong : ChangeSpec := { name := "fnExactAreKinds", fn := fun _ => fun
  | [d] => { results := [.lit (.bool false)], args := [d] }
  | _ => none }
def FnExactAreKindsWrongFalsely : Prop := fnExactAreKindsRow.holds Try.pinned (OpenSpec.ofChange fnExactAreKindsWrong)

/-- 'laws.FnExactIsLiquor': WHATEVER THE INPUT: true; the input reads as it did. -/
def fnExactIsLiquorSpec : ChangeSpec := { name := "fnExactIsLiquor", fn := fun _ => fun
  | [d1, d2] => { results := [.lit (.bool true)], args := [d1, d2] }
  | _ => none }
def fnExactIsLiquorRow : OpenClaim := { program := "ythilbpklmjpmcaa", sum := "a30aa03fe69b564aa21d731e3ade646e0c0c6764f37f9bab461f8242e9853cfc", func := "loop.example/g01019/laws.FnExactIsLiquor", spec := "fnExactIsLiquor", apart := false }
def FnExactIsLiquorSaid : Prop := fnExactIsLiquorRow.holds Try.pinned (OpenSpec.ofChange fnExactIsLiquorSpec)

/-- ITS FALSE NEIGHBOUR: 'it returns false'. Refute it at one input. -/
def fnExactIsLiquorWrong : ChangeSpec := { name := "fnExactIsLiquor", fn := fun _ => fun
  | [d1, d2] => { results := [.lit (.bool false)], args := [d1, d2] }
  | _ => none }
def FnExactIsLiquorWrongFalsely : Prop := fnExactIsLiquorRow.holds Try.pinned (OpenSpec.ofChange fnExactIsLiquorWrong)

/-- 'laws.FnExactIsFull': WHATEVER THE INPUT: true; the input reads as it did. -/
def fnExactIsFullSpec : ChangeSpec := { name := "fnExactIsFull", fn := fun _ => fun
  | [d1, d2, d3] => { results := [.lit (.bool true)], args := [d1, d2, d3] }
  | _ => none }
def fnExactIsFullRow : OpenClaim := { program := "ythilbpklmjpmcaa", sum := "a30aa03fe69b564aa21d731e3ade646e0c0c6764f37f9bab461f8242e9853cfc", func := "loop.example/g01019/laws.FnExactIsFull", spec := "fnExactIsFull", apart := false }
def FnExactIsFullSaid : Prop := fnExactIsFullRow.holds Try.pinned (OpenSpec.ofChange fnExactIsFullSpec)

/-- ITS FALSE NEIGHBOUR: 'it returns false'. Refute it at one input. -/
def fnExactIsFullWrong : ChangeSpec := { name := "fnExactIsFull", fn := fun _ => fun
  | [d1, d2, d3] => { results := [.lit (.bool false)], args := [d1, d2, d3] }
  | _ => none }
def FnExactIsFullWrongFalsely : Prop := fnExactIsFullRow.holds Try.pinned (OpenSpec.ofChange fnExactIsFullWrong)

/-- 'laws.FnExactFallOut': WHATEVER THE INPUT: true; the input reads as it did. -/
def fnExactFallOutSpec : ChangeSpec := { name := "fnExactFallOut", fn := fun _ => fun
  | [d1, d2] => { results := [.lit (.bool true)], args := [d1, d2] }
  | _ => none }
def fnExactFallOutRow : OpenClaim := { program := "ythilbpklmjpmcaa", sum := "a30aa03fe69b564aa21d731e3ade646e0c0c6764f37f9bab461f8242e9853cfc", func := "loop.example/g01019/laws.FnExactFallOut", spec := "fnExactFallOut", apart := false }
def FnExactFallOutSaid : Prop := fnExactFallOutRow.holds Try.pinned (OpenSpec.ofChange fnExactFallOutSpec)

/-- ITS FALSE NEIGHBOUR: 'it returns false'. Refute it at one input. -/
def fnExactFallOutWrong : ChangeSpec := { name := "fnExactFallOut", fn := fun _ => fun
  | [d1, d2] => { results := [.lit (.bool false)], args := [d1, d2] }
  | _ => none }
def FnExactFallOutWrongFalsely : Prop := fnExactFallOutRow.holds Try.pinned (OpenSpec.ofChange fnExactFallOutWrong)

/-- 'laws.FnExactAfterDrying': WHATEVER THE INPUT: true; the input reads as it did. -/
def fnExactAfterDryingSpec : ChangeSpec := { name := "fnExactAfterDrying", fn := fun _ => fun
  | [d1, d2, d3] => { results := [.lit (.bool true)], args := [d1, d2, d3] }
  | _ => none }
def fnExactAfterDryingRow : OpenClaim := { program := "ythilbpklmjpmcaa", sum := "a30aa03fe69b564aa21d731e3ade646e0c0c6764f37f9bab461f8242e9853cfc", func := "loop.example/g01019/laws.FnExactAfterDrying", spec := "fnExactAfterDrying", apart := false }
def FnExactAfterDryingSaid : Prop := fnExactAfterDryingRow.holds Try.pinned (OpenSpec.ofChange fnExactAfterDryingSpec)

/-- ITS FALSE NEIGHBOUR: 'it returns false'. Refute it at one input. -/
def fnExactAfterDryingWrong : ChangeSpec := { name := "fnExactAfterDrying", fn := fun _ => fun
  | [d1, d2, d3] => { results := [.lit (.bool false)], args := [d1, d2, d3] }
  | _ => none }
def FnExactAfterDryingWrongFalsely : Prop := fnExactAfterDryingRow.holds Try.pinned (OpenSpec.ofChange fnExactAfterDryingWrong)

/-- 'laws.FnExactFirstToFall': WHATEVER THE INPUT: true; the input reads as it did. -/
def fnExactFirstToFallSpec : ChangeSpec := { name := "fnExactFirstToFall", fn := fun _ => fun
  | [d1, d2] => { results := [.lit (.bool true)], args := [d1, d2] }
  | _ => none }
def fnExactFirstToFallRow : OpenClaim := { program := "ythilbpklmjpmcaa", sum := "a30aa03fe69b564aa21d731e3ade646e0c0c6764f37f9bab461f8242e9853cfc", func := "loop.example/g01019/laws.FnExactFirstToFall", spec := "fnExactFirstToFall", apart := false }
def FnExactFirstToFallSaid : Prop := fnExactFirstToFallRow.holds Try.pinned (OpenSpec.ofChange fnExactFirstToFallSpec)

/-- ITS FALSE NEIGHBOUR: 'it returns false'. Refute it at one input. -/
def fnExactFirstToFallWrong : ChangeSpec := { name := "fnExactFirstToFall", fn := fun _ => fun
  | [d1, d2] => { results := [.lit (.bool false)], args := [d1, d2] }
  | _ => none }
def FnExactFirstToFallWrongFalsely : Prop := fnExactFirstToFallRow.holds Try.pinned (OpenSpec.ofChange fnExactFirstToFallWrong)

/-- 'laws.FnExactDryToKeep': WHATEVER THE INPUT: true; the input reads as it did. -/
def fnExactDryToKeepSpec : ChangeSpec := { name := "fnExactDryToKeep", fn := fun _ => fun
  | [d1, d2, d3] => { results := [.lit (.bool true)], args := [d1, d2, d3] }
  | _ => none }
def fnExactDryToKeepRow : OpenClaim := { program := "ythilbpklmjpmcaa", sum := "a30aa03fe69b564aa21d731e3ade646e0c0c6764f37f9bab461f8242e9853cfc", func := "loop.example/g01019/laws.FnExactDryToKeep", spec := "fnExactDryToKeep", apart := false }
def FnExactDryToKeepSaid : Prop := fnExactDryToKeepRow.holds Try.pinned (OpenSpec.ofChange fnExactDryToKeepSpec)

/-- ITS FALSE NEIGHBOUR: 'it returns false'. Refute it at one input. -/
def fnExactDryToKeepWrong : ChangeSpec := { name := "fnExactDryToKeep", fn := fun _ => fun
  | [d1, d2, d3] => { results := [.lit (.bool false)], args := [d1, d2, d3] }
  | _ => none }
def FnExactDryToKeepWrongFalsely : Prop := fnExactDryToKeepRow.holds Try.pinned (OpenSpec.ofChange fnExactDryToKeepWrong)

/-- 'laws.FnExactPureBetween': WHATEVER THE INPUT: true; the input reads as it did. -/
def fnExactPureBetweenSpec : ChangeSpec := { name := "fnExactPureBetween", fn := fun _ => fun
  | [d1, d2, d3] => { results := [.lit (.bool true)], args := [d1, d2, d3] }
  | _ => none }
def fnExactPureBetweenRow : OpenClaim := { program := "ythilbpklmjpmcaa", sum := "a30aa03fe69b564aa21d731e3ade646e0c0c6764f37f9bab461f8242e9853cfc", func := "loop.example/g01019/laws.FnExactPureBetween", spec := "fnExactPureBetween", apart := false }
def FnExactPureBetweenSaid : Prop := fnExactPureBetweenRow.holds Try.pinned (OpenSpec.ofChange fnExactPureBetweenSpec)

/-- ITS FALSE NEIGHBOUR: 'it returns false'. Refute it at one input. -/
def fnExactPureBetweenWrong : ChangeSpec := { name := "fnExactPureBetween", fn := fun _ => fun
  | [d1, d2, d3] => { results := [.lit (.bool false)], args := [d1, d2, d3] }
  | _ => none }
def FnExactPureBetweenWrongFalsely : Prop := fnExactPureBetweenRow.holds Try.pinned (OpenSpec.ofChange fnExactPureBetweenWrong)

/-- 'laws.FnExactLiquorMass': WHATEVER THE INPUT: true; the input reads as it did. -/
def fnExactLiquorMassSpec : ChangeSpec := { name := "fnExactLiquorMass", fn := fun _ => fun
  | [d1, d2] => { results := [.lit (.bool true)], args := [d1, d2] }
  | _ => none }
def fnExactLiquorMassRow : OpenClaim := { program := "ythilbpklmjpmcaa", sum := "a30aa03fe69b564aa21d731e3ade646e0c0c6764f37f9bab461f8242e9853cfc", func := "loop.example/g01019/laws.FnExactLiquorMass", spec := "fnExactLiquorMass", apart := false }
def FnExactLiquorMassSaid : Prop := fnExactLiquorMassRow.holds Try.pinned (OpenSpec.ofChange fnExactLiquorMassSpec)

/-- ITS FALSE NEIGHBOUR: 'it returns false'. Refute it at one input. -/
def fnExactLiquorMassWrong : ChangeSpec := { name := "fnExactLiquorMass", fn := fun _ => fun
  | [d1, d2] => { results := [.lit (.bool false)], args := [d1, d2] }
  | _ => none }
def FnExactLiquorMassWrongFalsely : Prop := fnExactLiquorMassRow.holds Try.pinned (OpenSpec.ofChange fnExactLiquorMassWrong)

/- THE SECOND FORM. 'bulk': how many values and letters a reading holds, each counted each time it is reached (what is shared counts as often as it is met; a slice's spare places count too). A statement '..UptoSaid' is the law's where the arguments, and the package variables that the reading takes, are together of bulk at most 1048576: NARROWER than '..Said'. Prove '..Said' where nothing that the law and all that it calls make is longer than what came in: it says more and counts as full. Else prove '..UptoSaid'. A law counts once. -/
mutual
def uptoBulk {H : Type} : DataW H → Nat
  | .lit (.string bytes) => bytes.length + 1
  | .lit _ => 1
  | .nil => 1
  | .ptr d => uptoBulk d + 1
  | .slice elems spare => uptoBulkAll elems + uptoBulkAll spare + 1
  | .agg parts => uptoBulkAll parts + 1
  | .iface _ d => uptoBulk d + 1
  | .map entries => uptoBulkEntries entries + 1
  | .held _ => 1
def uptoBulkAll {H : Type} : List (DataW H) → Nat
  | [] => 0
  | d :: r => uptoBulk d + uptoBulkAll r
def uptoBulkEntries {H : Type} : List (Lit × DataW H) → Nat
  | [] => 0
  | x :: r => uptoBulkEntry x + uptoBulkEntries r
def uptoBulkEntry {H : Type} : Lit × DataW H → Nat
  | (.string bytes, d) => bytes.length + uptoBulk d + 1
  | (_, d) => uptoBulk d + 1
 end
def uptoSmall : (H : Type) → List (DataW H) → Bool := fun _ ds => decide (uptoBulkAll ds ≤ 1048576)
def OpenSpec.upto (s : _root_.Go.ChangeSpec) : _root_.Go.OpenSpec := { _root_.Go.OpenSpec.ofChange s with cond := some uptoSmall }

/-- 'laws.FnCrystals', WHERE WHAT IT READS IS OF BULK AT MOST 1048576: true; the input reads as it did. -/
def fnCrystalsUptoRow : OpenClaim := { program := "ythilbpklmjpmcaa", sum := "a30aa03fe69b564aa21d731e3ade646e0c0c6764f37f9bab461f8242e9853cfc", func := "loop.example/g01019/laws.FnCrystals", spec := "fnCrystals", apart := false, narrowed := true }
def FnCrystalsUptoSaid : Prop := fnCrystalsUptoRow.holds Try.pinned (OpenSpec.upto fnCrystalsSpec)

/-- 'laws.FnDrying', WHERE WHAT IT READS IS OF BULK AT MOST 1048576: true; the input reads as it did. -/
def fnDryingUptoRow : OpenClaim := { program := "ythilbpklmjpmcaa", sum := "a30aa03fe69b564aa21d731e3ade646e0c0c6764f37f9bab461f8242e9853cfc", func := "loop.example/g01019/laws.FnDrying", spec := "fnDrying", apart := false, narrowed := true }
def FnDryingUptoSaid : Prop := fnDryingUptoRow.holds Try.pinned (OpenSpec.upto fnDryingSpec)

/-- 'laws.FnExactAreKinds', WHERE WHAT IT READS IS OF BULK AT MOST 1048576: true; the input reads as it did. -/
def fnExactAreKindsUptoRow : OpenClaim := { program := "ythilbpklmjpmcaa", sum := "a30aa03fe69b564aa21d731e3ade646e0c0c6764f37f9bab461f8242e9853cfc", func := "loop.example/g01019/laws.FnExactAreKinds", spec := "fnExactAreKinds", apart := false, narrowed := true }
def FnExactAreKindsUptoSaid : Prop := fnExactAreKindsUptoRow.holds Try.pinned (OpenSpec.upto fnExactAreKindsSpec)

/-- 'laws.FnExactIsLiquor', WHERE WHAT IT READS IS OF BULK AT MOST 1048576: true; the input reads as it did. -/
def fnExactIsLiquorUptoRow : OpenClaim := { program := "ythilbpklmjpmcaa", sum := "a30aa03fe69b564aa21d731e3ade646e0c0c6764f37f9bab461f8242e9853cfc", func := "loop.example/g01019/laws.FnExactIsLiquor", spec := "fnExactIsLiquor", apart := false, narrowed := true }
def FnExactIsLiquorUptoSaid : Prop := fnExactIsLiquorUptoRow.holds Try.pinned (OpenSpec.upto fnExactIsLiquorSpec)

/-- 'laws.FnExactIsFull', WHERE WHAT IT READS IS OF BULK AT MOST 1048576: true; the input reads as it did. -/
def fnExactIsFullUptoRow : OpenClaim := { program := "ythilbpklmjpmcaa", sum := "a30aa03fe69b564aa21d731e3ade646e0c0c6764f37f9bab461f8242e9853cfc", func := "loop.example/g01019/laws.FnExactIsFull", spec := "fnExactIsFull", apart := false, narrowed := true }
def FnExactIsFullUptoSaid : Prop := fnExactIsFullUptoRow.holds Try.pinned (OpenSpec.upto fnExactIsFullSpec)

/-- 'laws.FnExactFallOut', WHERE WHAT IT READS IS OF BULK AT MOST 1048576: true; the input reads as it did. -/
def fnExactFallOutUptoRow : OpenClaim := { program := "ythilbpklmjpmcaa", sum := "a30aa03fe69b564aa21d731e3ade646e0c0c6764f37f9bab461f8242e9853cfc", func := "loop.example/g01019/laws.FnExactFallOut", spec := "fnExactFallOut", apart := false, narrowed := true }
def FnExactFallOutUptoSaid : Prop := fnExactFallOutUptoRow.holds Try.pinned (OpenSpec.upto fnExactFallOutSpec)

/-- 'laws.FnExactAfterDrying', WHERE WHAT IT READS IS OF BULK AT MOST 1048576: true; the input reads as it did. -/
def fnExactAfterDryingUptoRow : OpenClaim := { program := "ythilbpklmjpmcaa", sum := "a30aa03fe69b564aa21d731e3ade646e0c0c6764f37f9bab461f8242e9853cfc", func := "loop.example/g01019/laws.FnExactAfterDrying", spec := "fnExactAfterDrying", apart := false, narrowed := true }
def FnExactAfterDryingUptoSaid : Prop := fnExactAfterDryingUptoRow.holds Try.pinned (OpenSpec.upto fnExactAfterDryingSpec)

/-- 'laws.FnExactFirstToFall', WHERE WHAT IT READS IS OF BULK AT MOST 1048576: true; the input reads as it did. -/
def fnExactFirstToFallUptoRow : OpenClaim := { program := "ythilbpklmjpmcaa", sum := "a30aa03fe69b564aa21d731e3ade646e0c0c6764f37f9bab461f8242e9853cfc", func := "loop.example/g01019/laws.FnExactFirstToFall", spec := "fnExactFirstToFall", apart := false, narrowed := true }
def FnExactFirstToFallUptoSaid : Prop := fnExactFirstToFallUptoRow.holds Try.pinned (OpenSpec.upto fnExactFirstToFallSpec)

/-- 'laws.FnExactDryToKeep', WHERE WHAT IT READS IS OF BULK AT MOST 1048576: true; the input reads as it did. -/
def fnExactDryToKeepUptoRow : OpenClaim := { program := "ythilbpklmjpmcaa", sum := "a30aa03fe69b564aa21d731e3ade646e0c0c6764f37f9bab461f8242e9853cfc", func := "loop.example/g01019/laws.FnExactDryToKeep", spec := "fnExactDryToKeep", apart := false, narrowed := true }
def FnExactDryToKeepUptoSaid : Prop := fnExactDryToKeepUptoRow.holds Try.pinned (OpenSpec.upto fnExactDryToKeepSpec)

/-- 'laws.FnExactPureBetween', WHERE WHAT IT READS IS OF BULK AT MOST 1048576: true; the input reads as it did. -/
def fnExactPureBetweenUptoRow : OpenClaim := { program := "ythilbpklmjpmcaa", sum := "a30aa03fe69b564aa21d731e3ade646e0c0c6764f37f9bab461f8242e9853cfc", func := "loop.example/g01019/laws.FnExactPureBetween", spec := "fnExactPureBetween", apart := false, narrowed := true }
def FnExactPureBetweenUptoSaid : Prop := fnExactPureBetweenUptoRow.holds Try.pinned (OpenSpec.upto fnExactPureBetweenSpec)

/-- 'laws.FnExactLiquorMass', WHERE WHAT IT READS IS OF BULK AT MOST 1048576: true; the input reads as it did. -/
def fnExactLiquorMassUptoRow : OpenClaim := { program := "ythilbpklmjpmcaa", sum := "a30aa03fe69b564aa21d731e3ade646e0c0c6764f37f9bab461f8242e9853cfc", func := "loop.example/g01019/laws.FnExactLiquorMass", spec := "fnExactLiquorMass", apart := false, narrowed := true }
def FnExactLiquorMassUptoSaid : Prop := fnExactLiquorMassUptoRow.holds Try.pinned (OpenSpec.upto fnExactLiquorMassSpec)

end Rows
end Go.Proofs.Ythilbpklmjpmcaa
