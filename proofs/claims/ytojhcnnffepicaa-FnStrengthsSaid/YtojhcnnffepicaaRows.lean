/-
  No cell of these rows narrows 'for every input' (looked for: loops, veiled, ifaces, maps, wideKeys, modest, calm, conditions, laid).
  DERIVED. THE GIVEN ROWS OF THIS SEAT. 9 by the template 'for every input the law returns true; each argument reads behind the call as it read before'; 0 by the template 'total and deterministic' (their statements: YtojhcnnffepicaaTotals.lean).
  GIVEN WITH THE SEED: the statements are not yours to turn. If you find one false, say at which input.
  Laid BY PROGRAM, IN A SANDBOX (cutbox-rows.mjs): the forced cells as the released guide's own fill.sh prints them over the translation 7dca9754e4e029cc… (all of the seat's roots in one cut). By AI agents, Wed Nov 11 2026. No macro, syntax, notation, axiom, sorry.
-/
import Derived.Test.YtojhcnnffepicaaChecked
import GoSem.Claim
import GoSem.ClaimJoined
import GoSem.ClaimMapViews
import Derived.JoinedTies
import Derived.KernelRfl
namespace Go.Proofs.Ytojhcnnffepicaa
/- THE CELL 'sum', in the pinned program and in every row, IS THE sha256 OF THE DUMP (.gsa) THAT YtojhcnnffepicaaProg.lean LOADS. Nothing in Lean hashes anything: it is a label: what it is worth is what the hold of that sum in a sandbox is worth. -/
noncomputable def Try.pinned : Pinned := { name := "ytojhcnnffepicaa", sum := "7dca9754e4e029cc695a940a396c5fc9a8f03571deaba2b5eb95c089881d4fb3", checked := Try.checked }
namespace Rows
def none {H : Type} : Left H := { results := [], args := [] }

/-- 'laws.FnStrengths': WHATEVER THE INPUT: true; the input reads as it did. -/
def fnStrengthsSpec : ChangeSpec := { name := "fnStrengths", fn := fun _ => fun
  | [d] => { results := [.lit (.bool true)], args := [d] }
  | _ => none }
def fnStrengthsRow : OpenClaim := { program := "ytojhcnnffepicaa", sum := "7dca9754e4e029cc695a940a396c5fc9a8f03571deaba2b5eb95c089881d4fb3", func := "loop.example/g01019/laws.FnStrengths", spec := "fnStrengths", apart := false }
def FnStrengthsSaid : Prop := fnStrengthsRow.holds Try.pinned (OpenSpec.ofChange fnStrengthsSpec)

/-- ITS FALSE NEIGHBOUR: 'it returns false'. Refute it at one input. -/
def fnStrengthsWrong : ChangeSpec := { name := "fnStrengths", fn := fun _ => fun
  | [d] => { results := [.lit (.bool false)], args := [d] }
  | _ => none }
def FnStrengthsWrongFalsely : Prop := fnStrengthsRow.holds Try.pinned (OpenSpec.ofChange fnStrengthsWrong)

/-- 'laws.FnExactIsBrine': WHATEVER THE INPUT: true; the input reads as it did. -/
def fnExactIsBrineSpec : ChangeSpec := { name := "fnExactIsBrine", fn := fun _ => fun
  | [d] => { results := [.lit (.bool true)], args := [d] }
  | _ => none }
def fnExactIsBrineRow : OpenClaim := { program := "ytojhcnnffepicaa", sum := "7dca9754e4e029cc695a940a396c5fc9a8f03571deaba2b5eb95c089881d4fb3", func := "loop.example/g01019/laws.FnExactIsBrine", spec := "fnExactIsBrine", apart := false }
def FnExactIsBrineSaid : Prop := fnExactIsBrineRow.holds Try.pinned (OpenSpec.ofChange fnExactIsBrineSpec)

/-- ITS FALSE NEIGHBOUR: 'it returns false'. Refute it at one input. -/
def fnExactIsBrineWrong : ChangeSpec := { name := "fnExactIsBrine", fn := fun _ => fun
  | [d] => { results := [.lit (.bool false)], args := [d] }
  | _ => none }
def FnExactIsBrineWrongFalsely : Prop := fnExactIsBrineRow.holds Try.pinned (OpenSpec.ofChange fnExactIsBrineWrong)

/-- 'laws.FnExactStrengthOf': WHATEVER THE INPUT: true; the input reads as it did. -/
def fnExactStrengthOfSpec : ChangeSpec := { name := "fnExactStrengthOf", fn := fun _ => fun
  | [d] => { results := [.lit (.bool true)], args := [d] }
  | _ => none }
def fnExactStrengthOfRow : OpenClaim := { program := "ytojhcnnffepicaa", sum := "7dca9754e4e029cc695a940a396c5fc9a8f03571deaba2b5eb95c089881d4fb3", func := "loop.example/g01019/laws.FnExactStrengthOf", spec := "fnExactStrengthOf", apart := false }
def FnExactStrengthOfSaid : Prop := fnExactStrengthOfRow.holds Try.pinned (OpenSpec.ofChange fnExactStrengthOfSpec)

/-- ITS FALSE NEIGHBOUR: 'it returns false'. Refute it at one input. -/
def fnExactStrengthOfWrong : ChangeSpec := { name := "fnExactStrengthOf", fn := fun _ => fun
  | [d] => { results := [.lit (.bool false)], args := [d] }
  | _ => none }
def FnExactStrengthOfWrongFalsely : Prop := fnExactStrengthOfRow.holds Try.pinned (OpenSpec.ofChange fnExactStrengthOfWrong)

/-- 'laws.FnExactMixBrines': WHATEVER THE INPUT: true; the input reads as it did. -/
def fnExactMixBrinesSpec : ChangeSpec := { name := "fnExactMixBrines", fn := fun _ => fun
  | [d] => { results := [.lit (.bool true)], args := [d] }
  | _ => none }
def fnExactMixBrinesRow : OpenClaim := { program := "ytojhcnnffepicaa", sum := "7dca9754e4e029cc695a940a396c5fc9a8f03571deaba2b5eb95c089881d4fb3", func := "loop.example/g01019/laws.FnExactMixBrines", spec := "fnExactMixBrines", apart := false }
def FnExactMixBrinesSaid : Prop := fnExactMixBrinesRow.holds Try.pinned (OpenSpec.ofChange fnExactMixBrinesSpec)

/-- ITS FALSE NEIGHBOUR: 'it returns false'. Refute it at one input. -/
def fnExactMixBrinesWrong : ChangeSpec := { name := "fnExactMixBrines", fn := fun _ => fun
  | [d] => { results := [.lit (.bool false)], args := [d] }
  | _ => none }
def FnExactMixBrinesWrongFalsely : Prop := fnExactMixBrinesRow.holds Try.pinned (OpenSpec.ofChange fnExactMixBrinesWrong)

/-- 'laws.FnExactTakePart': WHATEVER THE INPUT: true; the input reads as it did. -/
def fnExactTakePartSpec : ChangeSpec := { name := "fnExactTakePart", fn := fun _ => fun
  | [d1, d2] => { results := [.lit (.bool true)], args := [d1, d2] }
  | _ => none }
def fnExactTakePartRow : OpenClaim := { program := "ytojhcnnffepicaa", sum := "7dca9754e4e029cc695a940a396c5fc9a8f03571deaba2b5eb95c089881d4fb3", func := "loop.example/g01019/laws.FnExactTakePart", spec := "fnExactTakePart", apart := false }
def FnExactTakePartSaid : Prop := fnExactTakePartRow.holds Try.pinned (OpenSpec.ofChange fnExactTakePartSpec)

/-- ITS FALSE NEIGHBOUR: 'it returns false'. Refute it at one input. -/
def fnExactTakePartWrong : ChangeSpec := { name := "fnExactTakePart", fn := fun _ => fun
  | [d1, d2] => { results := [.lit (.bool false)], args := [d1, d2] }
  | _ => none }
def FnExactTakePartWrongFalsely : Prop := fnExactTakePartRow.holds Try.pinned (OpenSpec.ofChange fnExactTakePartWrong)

/-- 'laws.FnExactWaterToLose': WHATEVER THE INPUT: true; the input reads as it did. -/
def fnExactWaterToLoseSpec : ChangeSpec := { name := "fnExactWaterToLose", fn := fun _ => fun
  | [d1, d2, d3] => { results := [.lit (.bool true)], args := [d1, d2, d3] }
  | _ => none }
def fnExactWaterToLoseRow : OpenClaim := { program := "ytojhcnnffepicaa", sum := "7dca9754e4e029cc695a940a396c5fc9a8f03571deaba2b5eb95c089881d4fb3", func := "loop.example/g01019/laws.FnExactWaterToLose", spec := "fnExactWaterToLose", apart := false }
def FnExactWaterToLoseSaid : Prop := fnExactWaterToLoseRow.holds Try.pinned (OpenSpec.ofChange fnExactWaterToLoseSpec)

/-- ITS FALSE NEIGHBOUR: 'it returns false'. Refute it at one input. -/
def fnExactWaterToLoseWrong : ChangeSpec := { name := "fnExactWaterToLose", fn := fun _ => fun
  | [d1, d2, d3] => { results := [.lit (.bool false)], args := [d1, d2, d3] }
  | _ => none }
def FnExactWaterToLoseWrongFalsely : Prop := fnExactWaterToLoseRow.holds Try.pinned (OpenSpec.ofChange fnExactWaterToLoseWrong)

/-- 'laws.FnExactWaterToAdd': WHATEVER THE INPUT: true; the input reads as it did. -/
def fnExactWaterToAddSpec : ChangeSpec := { name := "fnExactWaterToAdd", fn := fun _ => fun
  | [d1, d2, d3] => { results := [.lit (.bool true)], args := [d1, d2, d3] }
  | _ => none }
def fnExactWaterToAddRow : OpenClaim := { program := "ytojhcnnffepicaa", sum := "7dca9754e4e029cc695a940a396c5fc9a8f03571deaba2b5eb95c089881d4fb3", func := "loop.example/g01019/laws.FnExactWaterToAdd", spec := "fnExactWaterToAdd", apart := false }
def FnExactWaterToAddSaid : Prop := fnExactWaterToAddRow.holds Try.pinned (OpenSpec.ofChange fnExactWaterToAddSpec)

/-- ITS FALSE NEIGHBOUR: 'it returns false'. Refute it at one input. -/
def fnExactWaterToAddWrong : ChangeSpec := { name := "fnExactWaterToAdd", fn := fun _ => fun
  | [d1, d2, d3] => { results := [.lit (.bool false)], args := [d1, d2, d3] }
  | _ => none }
def FnExactWaterToAddWrongFalsely : Prop := fnExactWaterToAddRow.holds Try.pinned (OpenSpec.ofChange fnExactWaterToAddWrong)

/-- 'laws.FnExactIsStronger': WHATEVER THE INPUT: true; the input reads as it did. -/
def fnExactIsStrongerSpec : ChangeSpec := { name := "fnExactIsStronger", fn := fun _ => fun
  | [d1, d2] => { results := [.lit (.bool true)], args := [d1, d2] }
  | _ => none }
def fnExactIsStrongerRow : OpenClaim := { program := "ytojhcnnffepicaa", sum := "7dca9754e4e029cc695a940a396c5fc9a8f03571deaba2b5eb95c089881d4fb3", func := "loop.example/g01019/laws.FnExactIsStronger", spec := "fnExactIsStronger", apart := false }
def FnExactIsStrongerSaid : Prop := fnExactIsStrongerRow.holds Try.pinned (OpenSpec.ofChange fnExactIsStrongerSpec)

/-- ITS FALSE NEIGHBOUR: 'it returns false'. Refute it at one input. -/
def fnExactIsStrongerWrong : ChangeSpec := { name := "fnExactIsStronger", fn := fun _ => fun
  | [d1, d2] => { results := [.lit (.bool false)], args := [d1, d2] }
  | _ => none }
def FnExactIsStrongerWrongFalsely : Prop := fnExactIsStrongerRow.holds Try.pinned (OpenSpec.ofChange fnExactIsStrongerWrong)

/-- 'laws.FnExactSplitBrine': WHATEVER THE INPUT: true; the input reads as it did. -/
def fnExactSplitBrineSpec : ChangeSpec := { name := "fnExactSplitBrine", fn := fun _ => fun
  | [d1, d2] => { results := [.lit (.bool true)], args := [d1, d2] }
  | _ => none }
def fnExactSplitBrineRow : OpenClaim := { program := "ytojhcnnffepicaa", sum := "7dca9754e4e029cc695a940a396c5fc9a8f03571deaba2b5eb95c089881d4fb3", func := "loop.example/g01019/laws.FnExactSplitBrine", spec := "fnExactSplitBrine", apart := false }
def FnExactSplitBrineSaid : Prop := fnExactSplitBrineRow.holds Try.pinned (OpenSpec.ofChange fnExactSplitBrineSpec)

/-- ITS FALSE NEIGHBOUR: 'it returns false'. Refute it at one input. -/
def fnExactSplitBrineWrong : ChangeSpec := { name := "fnExactSplitBrine", fn := fun _ => fun
  | [d1, d2] => { results := [.lit (.bool false)], args := [d1, d2] }
  | _ => none }
def FnExactSplitBrineWrongFalsely : Prop := fnExactSplitBrineRow.holds Try.pinned (OpenSpec.ofChange fnExactSplitBrineWrong)

/- THE SECOND FORM. 'bulk': how many values and letters a reading holds, each counted each time it is reached (what is shared counts as often as it is met; a slice's spare places count too). A statement '..UptoSaid' is the law's where the arguments, and the package variables that the reading takes, are together of bulk at most 1048576: NARROWER than '..Said'. Prove '..Said' where nothing that the law and all that it calls make is longer than what came in: it says more and counts as full. Else prove '..UptoSaid'. A law counts once. -/
mutual
def uptoBulk {H : Type} : DataW H → Nat
  | .lit (.string bytes) => bytes.length + 1
  | .lit _ => 1
  | .nil => 1
  | .ptr d => uptoBulk d + 1
  | .slice elems spare => uptoBulkAll elems + uptoBulkAll spare + 1
  | .agg parts => uptoBulkAll parts + 1
  | .iface _ d => uptoBulk d + 1
  | .map entries => uptoBulkEntries entries + 1
  | .held _ => 1
def uptoBulkAll {H : Type} : List (DataW H) → Nat
  | [] => 0
  | d :: r => uptoBulk d + uptoBulkAll r
def uptoBulkEntries {H : Type} : List (Lit × DataW H) → Nat
  | [] => 0
  | x :: r => uptoBulkEntry x + uptoBulkEntries r
def uptoBulkEntry {H : Type} : Lit × DataW H → Nat
  | (.string bytes, d) => bytes.length + uptoBulk d + 1
  | (_, d) => uptoBulk d + 1
 end
def uptoSmall : (H : Type) → List (DataW H) → Bool := fun _ ds => decide (uptoBulkAll ds ≤ 1048576)
def OpenSpec.upto (s : _root_.Go.ChangeSpec) : _root_.Go.OpenSpec := { _root_.Go.OpenSpec.ofChange s with cond := some uptoSmall }

/-- 'laws.FnStrengths', WHERE WHAT IT READS IS OF BULK AT MOST 1048576: true; the input reads as it did. -/
def fnStrengthsUptoRow : OpenClaim := { program := "ytojhcnnffepicaa", sum := "7dca9754e4e029cc695a940a396c5fc9a8f03571deaba2b5eb95c089881d4fb3", func := "loop.example/g01019/laws.FnStrengths", spec := "fnStrengths", apart := false, narrowed := true }
def FnStrengthsUptoSaid : Prop := fnStrengthsUptoRow.holds Try.pinned (OpenSpec.upto fnStrengthsSpec)

/-- 'laws.FnExactIsBrine', WHERE WHAT IT READS IS OF BULK AT MOST 1048576: true; the input reads as it did. -/
def fnExactIsBrineUptoRow : OpenClaim := { program := "ytojhcnnffepicaa", sum := "7dca9754e4e029cc695a940a396c5fc9a8f03571deaba2b5eb95c089881d4fb3", func := "loop.example/g01019/laws.FnExactIsBrine", spec := "fnExactIsBrine", apart := false, narrowed := true }
def FnExactIsBrineUptoSaid : Prop := fnExactIsBrineUptoRow.holds Try.pinned (OpenSpec.upto fnExactIsBrineSpec)

/-- 'laws.FnExactStrengthOf', WHERE WHAT IT READS IS OF BULK AT MOST 1048576: true; the input reads as it did. -/
def fnExactStrengthOfUptoRow : OpenClaim := { program := "ytojhcnnffepicaa", sum := "7dca9754e4e029cc695a940a396c5fc9a8f03571deaba2b5eb95c089881d4fb3", func := "loop.example/g01019/laws.FnExactStrengthOf", spec := "fnExactStrengthOf", apart := false, narrowed := true }
def FnExactStrengthOfUptoSaid : Prop := fnExactStrengthOfUptoRow.holds Try.pinned (OpenSpec.upto fnExactStrengthOfSpec)

/-- 'laws.FnExactMixBrines', WHERE WHAT IT READS IS OF BULK AT MOST 1048576: true; the input reads as it did. -/
def fnExactMixBrinesUptoRow : OpenClaim := { program := "ytojhcnnffepicaa", sum := "7dca9754e4e029cc695a940a396c5fc9a8f03571deaba2b5eb95c089881d4fb3", func := "loop.example/g01019/laws.FnExactMixBrines", spec := "fnExactMixBrines", apart := false, narrowed := true }
def FnExactMixBrinesUptoSaid : Prop := fnExactMixBrinesUptoRow.holds Try.pinned (OpenSpec.upto fnExactMixBrinesSpec)

/-- 'laws.FnExactTakePart', WHERE WHAT IT READS IS OF BULK AT MOST 1048576: true; the input reads as it did. -/
def fnExactTakePartUptoRow : OpenClaim := { program := "ytojhcnnffepicaa", sum := "7dca9754e4e029cc695a940a396c5fc9a8f03571deaba2b5eb95c089881d4fb3", func := "loop.example/g01019/laws.FnExactTakePart", spec := "fnExactTakePart", apart := false, narrowed := true }
def FnExactTakePartUptoSaid : Prop := fnExactTakePartUptoRow.holds Try.pinned (OpenSpec.upto fnExactTakePartSpec)

/-- 'laws.FnExactWaterToLose', WHERE WHAT IT READS IS OF BULK AT MOST 1048576: true; the input reads as it did. -/
def fnExactWaterToLoseUptoRow : OpenClaim := { program := "ytojhcnnffepicaa", sum := "7dca9754e4e029cc695a940a396c5fc9a8f03571deaba2b5eb95c089881d4fb3", func := "loop.example/g01019/laws.FnExactWaterToLose", spec := "fnExactWaterToLose", apart := false, narrowed := true }
def FnExactWaterToLoseUptoSaid : Prop := fnExactWaterToLoseUptoRow.holds Try.pinned (OpenSpec.upto fnExactWaterToLoseSpec)

/-- 'laws.FnExactWaterToAdd', WHERE WHAT IT READS IS OF BULK AT MOST 1048576: true; the input reads as it did. -/
def fnExactWaterToAddUptoRow : OpenClaim := { program := "ytojhcnnffepicaa", sum := "7dca9754e4e029cc695a940a396c5fc9a8f03571deaba2b5eb95c089881d4fb3", func := "loop.example/g01019/laws.FnExactWaterToAdd", spec := "fnExactWaterToAdd", apart := false, narrowed := true }
def FnExactWaterToAddUptoSaid : Prop := fnExactWaterToAddUptoRow.holds Try.pinned (OpenSpec.upto fnExactWaterToAddSpec)

/-- 'laws.FnExactIsStronger', WHERE WHAT IT READS IS OF BULK AT MOST 1048576: true; the input reads as it did. -/
def fnExactIsStrongerUptoRow : OpenClaim := { program := "ytojhcnnffepicaa", sum := "7dca9754e4e029cc695a940a396c5fc9a8f03571deaba2b5eb95c089881d4fb3", func := "loop.example/g01019/laws.FnExactIsStronger", spec := "fnExactIsStronger", apart := false, narrowed := true }
def FnExactIsStrongerUptoSaid : Prop := fnExactIsStrongerUptoRow.holds Try.pinned (OpenSpec.upto fnExactIsStrongerSpec)

/-- 'laws.FnExactSplitBrine', WHERE WHAT IT READS IS OF BULK AT MOST 1048576: true; the input reads as it did. -/
def fnExactSplitBrineUptoRow : OpenClaim := { program := "ytojhcnnffepicaa", sum := "7dca9754e4e029cc695a940a396c5fc9a8f03571deaba2b5eb95c089881d4fb3", func := "loop.example/g01019/laws.FnExactSplitBrine", spec := "fnExactSplitBrine", apart := false, narrowed := true }
def FnExactSplitBrineUptoSaid : Prop := fnExactSplitBrineUptoRow.holds Try.pinned (OpenSpec.upto fnExactSplitBrineSpec)

end Rows
end Go.Proofs.Ytojhcnnffepicaa
