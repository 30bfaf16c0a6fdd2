/-
  No cell of these rows narrows 'for every input' (looked for: loops, veiled, ifaces, maps, wideKeys, modest, calm, conditions, laid).
  DERIVED. THE GIVEN ROWS OF THIS SEAT. 13 by the template 'for every input the law returns true; each argument reads behind the call as it read before'; 0 by the template 'total and deterministic' (their statements: YtbbnbkdglihhhaaTotals.lean).
  GIVEN WITH THE SEED: the statements are not yours to turn. If you find one false, say at which input.
  Laid BY PROGRAM, IN A SANDBOX (cutbox-rows.mjs): the forced cells as the released guide's own fill.sh prints them over the translation a1f45c1d9b130d32… (all of the seat's roots in one cut). By AI agents, Wed Nov 11 2026. No macro, syntax, notation, axiom, sorry.
-/
import Derived.Test.YtbbnbkdglihhhaaChecked
import GoSem.Claim
import GoSem.ClaimJoined
import GoSem.ClaimMapViews
import Derived.JoinedTies
import Derived.KernelRfl
namespace Go.Proofs.Ytbbnbkdglihhhaa
/- THE CELL 'sum', in the pinned program and in every row, IS THE sha256 OF THE DUMP (.gsa) THAT YtbbnbkdglihhhaaProg.lean LOADS. Nothing in Lean hashes anything: it is a label: what it is worth is what the hold of that sum in a sandbox is worth. -/
noncomputable def Try.pinned : Pinned := { name := "ytbbnbkdglihhhaa", sum := "a1f45c1d9b130d32fbb41563807c16355475eb63594d957ff4b47dd2fccec0ce", checked := Try.checked }
namespace Rows
def none {H : Type} : Left H := { results := [], args := [] }

/-- 'laws.FnStrengths': WHATEVER THE INPUT: true; the input reads as it did. -/
def fnStrengthsSpec : ChangeSpec := { name := "fnStrengths", fn := fun _ => fun
  | [d] => { results := [.lit (.bool true)], args := [d] }
  | _ => none }
def fnStrengthsRow : OpenClaim := { program := "ytbbnbkdglihhhaa", sum := "a1f45c1d9b130d32fbb41563807c16355475eb63594d957ff4b47dd2fccec0ce", func := "loop.example/g01019/laws.FnStrengths", spec := "fnStrengths", apart := false }
def FnStrengthsSaid : Prop := fnStrengthsRow.holds Try.pinned (OpenSpec.ofChange fnStrengthsSpec)

/-- ITS FALSE NEIGHBOUR: 'it returns false'. Refute it at one input. -/
def fnStrengthsWrong : ChangeSpec := { name := "fnStrengths", fn := fun _ => fun
  | [d] => { results := [.lit (.bool false)], args := [d] }
  | _ => none }
def FnStrengthsWrongFalsely : Prop := fnStrengthsRow.holds Try.pinned (OpenSpec.ofChange fnStrengthsWrong)

/-- 'laws.FnTides': WHATEVER THE INPUT: true; the input reads as it did. -/
def fnTidesSpec : ChangeSpec := { name := "fnTides", fn := fun _ => fun
  | [d] => { results := [.lit (.bool true)], args := [d] }
  | _ => none }
def fnTidesRow : OpenClaim := { program := "ytbbnbkdglihhhaa", sum := "a1f45c1d9b130d32fbb41563807c16355475eb63594d957ff4b47dd2fccec0ce", func := "loop.example/g01019/laws.FnTides", spec := "fnTides", apart := false }
def FnTidesSaid : Prop := fnTidesRow.holds Try.pinned (OpenSpec.ofChange fnTidesSpec)

/-- ITS FALSE NEIGHBOUR: 'it returns false'. Refute it at one input. -/
def fnTidesWrong : ChangeSpec := { name := "fnTides", fn := fun _ => fun
  | [d] => { results := [.lit (.bool false)], args := [d] }
  | _ => none }
def FnTidesWrongFalsely : Prop := fnTidesRow.holds Try.pinned (OpenSpec.ofChange fnTidesWrong)

/-- 'laws.FnHeights': WHATEVER THE INPUT: true; the input reads as it did. -/
def fnHeightsSpec : ChangeSpec := { name := "fnHeights", fn := fun _ => fun
  | [d] => { results := [.lit (.bool true)], args := [d] }
  | _ => none }
def fnHeightsRow : OpenClaim := { program := "ytbbnbkdglihhhaa", sum := "a1f45c1d9b130d32fbb41563807c16355475eb63594d957ff4b47dd2fccec0ce", func := "loop.example/g01019/laws.FnHeights", spec := "fnHeights", apart := false }
def FnHeightsSaid : Prop := fnHeightsRow.holds Try.pinned (OpenSpec.ofChange fnHeightsSpec)

/-- ITS FALSE NEIGHBOUR: 'it returns false'. Refute it at one input. -/
def fnHeightsWrong : ChangeSpec := { name := "fnHeights", fn := fun _ => fun
  | [d] => { results := [.lit (.bool false)], args := [d] }
  | _ => none }
def FnHeightsWrongFalsely : Prop := fnHeightsRow.holds Try.pinned (OpenSpec.ofChange fnHeightsWrong)

/-- 'laws.FnExactStrengthOf': WHATEVER THE INPUT: true; the input reads as it did. -/
def fnExactStrengthOfSpec : ChangeSpec := { name := "fnExactStrengthOf", fn := fun _ => fun
  | [d] => { results := [.lit (.bool true)], args := [d] }
  | _ => none }
def fnExactStrengthOfRow : OpenClaim := { program := "ytbbnbkdglihhhaa", sum := "a1f45c1d9b130d32fbb41563807c16355475eb63594d957ff4b47dd2fccec0ce", func := "loop.example/g01019/laws.FnExactStrengthOf", spec := "fnExactStrengthOf", apart := false }
def FnExactStrengthOfSaid : Prop := fnExactStrengthOfRow.holds Try.pinned (OpenSpec.ofChange fnExactStrengthOfSpec)

/-- ITS FALSE NEIGHBOUR: 'it returns false'. Refute it at one input. -/
def fnExactStrengthOfWrong : ChangeSpec := { name := "fnExactStrengthOf", fn := fun _ => fun
  | [d] => { results := [.lit (.bool false)], args := [d] }
  | _ => none }
def FnExactStrengthOfWrongFalsely : Prop := fnExactStrengthOfRow.holds Try.pinned (OpenSpec.ofChange fnExactStrengthOfWrong)

/-- 'laws.FnExactIsTide': WHATEVER THE INPUT: true; the input reads as it did. -/
def fnExactIsTideSpec : ChangeSpec := { name := "fnExactIsTide", fn := fun _ => fun
  | [d] => { results := [.lit (.bool true)], args := [d] }
  | _ => none }
def fnExactIsTideRow : OpenClaim := { program := "ytbbnbkdglihhhaa", sum := "a1f45c1d9b130d32fbb41563807c16355475eb63594d957ff4b47dd2fccec0ce", func := "loop.example/g01019/laws.FnExactIsTide", spec := "fnExactIsTide", apart := false }
def FnExactIsTideSaid : Prop := fnExactIsTideRow.holds Try.pinned (OpenSpec.ofChange fnExactIsTideSpec)

/-- ITS FALSE NEIGHBOUR: 'it returns false'. Refute it at one input. -/
def fnExactIsTideWrong : ChangeSpec := { name := "fnExactIsTide", fn := fun _ => fun
  | [d] => { results := [.lit (.bool false)], args := [d] }
  | _ => none }
def FnExactIsTideWrongFalsely : Prop := fnExactIsTideRow.holds Try.pinned (OpenSpec.ofChange fnExactIsTideWrong)

/-- 'laws.FnExactTideAt': WHATEVER THE INPUT: true; the input reads as it did. -/
def fnExactTideAtSpec : ChangeSpec := { name := "fnExactTideAt", fn := fun _ => fun
  | [d1, d2] => { results := [.lit (.bool true)], args := [d1, d2] }
  | _ => none }
def fnExactTideAtRow : OpenClaim := { program := "ytbbnbkdglihhhaa", sum := "a1f45c1d9b130d32fbb41563807c16355475eb63594d957ff4b47dd2fccec0ce", func := "loop.example/g01019/laws.FnExactTideAt", spec := "fnExactTideAt", apart := false }
def FnExactTideAtSaid : Prop := fnExactTideAtRow.holds Try.pinned (OpenSpec.ofChange fnExactTideAtSpec)

/-- ITS FALSE NEIGHBOUR: 'it returns false'. Refute it at one input. -/
def fnExactTideAtWrong : ChangeSpec := { name := "fnExactTideAt", fn := fun _ => fun
  | [d1, d2] => { results := [.lit (.bool false)], args := [d1, d2] }
  | _ => none }
def FnExactTideAtWrongFalsely : Prop := fnExactTideAtRow.holds Try.pinned (OpenSpec.ofChange fnExactTideAtWrong)

/-- 'laws.FnExactHighestTide': WHATEVER THE INPUT: true; the input reads as it did. -/
def fnExactHighestTideSpec : ChangeSpec := { name := "fnExactHighestTide", fn := fun _ => fun
  | [d] => { results := [.lit (.bool true)], args := [d] }
  | _ => none }
def fnExactHighestTideRow : OpenClaim := { program := "ytbbnbkdglihhhaa", sum := "a1f45c1d9b130d32fbb41563807c16355475eb63594d957ff4b47dd2fccec0ce", func := "loop.example/g01019/laws.FnExactHighestTide", spec := "fnExactHighestTide", apart := false }
def FnExactHighestTideSaid : Prop := fnExactHighestTideRow.holds Try.pinned (OpenSpec.ofChange fnExactHighestTideSpec)

/-- ITS FALSE NEIGHBOUR: 'it returns false'. Refute it at one input. -/
def fnExactHighestTideWrong : ChangeSpec := { name := "fnExactHighestTide", fn := fun _ => fun
  | [d] => { results := [.lit (.bool false)], args := [d] }
  | _ => none }
def FnExactHighestTideWrongFalsely : Prop := fnExactHighestTideRow.holds Try.pinned (OpenSpec.ofChange fnExactHighestTideWrong)

/-- 'laws.FnExactMinutesIn': WHATEVER THE INPUT: true; the input reads as it did. -/
def fnExactMinutesInSpec : ChangeSpec := { name := "fnExactMinutesIn", fn := fun _ => fun
  | [d1, d2, d3] => { results := [.lit (.bool true)], args := [d1, d2, d3] }
  | _ => none }
def fnExactMinutesInRow : OpenClaim := { program := "ytbbnbkdglihhhaa", sum := "a1f45c1d9b130d32fbb41563807c16355475eb63594d957ff4b47dd2fccec0ce", func := "loop.example/g01019/laws.FnExactMinutesIn", spec := "fnExactMinutesIn", apart := false }
def FnExactMinutesInSaid : Prop := fnExactMinutesInRow.holds Try.pinned (OpenSpec.ofChange fnExactMinutesInSpec)

/-- ITS FALSE NEIGHBOUR: 'it returns false'. Refute it at one input. -/
def fnExactMinutesInWrong : ChangeSpec := { name := "fnExactMinutesIn", fn := fun _ => fun
  | [d1, d2, d3] => { results := [.lit (.bool false)], args := [d1, d2, d3] }
  | _ => none }
def FnExactMinutesInWrongFalsely : Prop := fnExactMinutesInRow.holds Try.pinned (OpenSpec.ofChange fnExactMinutesInWrong)

/-- 'laws.FnExactMinutesOut': WHATEVER THE INPUT: true; the input reads as it did. -/
def fnExactMinutesOutSpec : ChangeSpec := { name := "fnExactMinutesOut", fn := fun _ => fun
  | [d1, d2, d3] => { results := [.lit (.bool true)], args := [d1, d2, d3] }
  | _ => none }
def fnExactMinutesOutRow : OpenClaim := { program := "ytbbnbkdglihhhaa", sum := "a1f45c1d9b130d32fbb41563807c16355475eb63594d957ff4b47dd2fccec0ce", func := "loop.example/g01019/laws.FnExactMinutesOut", spec := "fnExactMinutesOut", apart := false }
def FnExactMinutesOutSaid : Prop := fnExactMinutesOutRow.holds Try.pinned (OpenSpec.ofChange fnExactMinutesOutSpec)

/-- ITS FALSE NEIGHBOUR: 'it returns false'. Refute it at one input. -/
def fnExactMinutesOutWrong : ChangeSpec := { name := "fnExactMinutesOut", fn := fun _ => fun
  | [d1, d2, d3] => { results := [.lit (.bool false)], args := [d1, d2, d3] }
  | _ => none }
def FnExactMinutesOutWrongFalsely : Prop := fnExactMinutesOutRow.holds Try.pinned (OpenSpec.ofChange fnExactMinutesOutWrong)

/-- 'laws.FnExactFirstIn': WHATEVER THE INPUT: true; the input reads as it did. -/
def fnExactFirstInSpec : ChangeSpec := { name := "fnExactFirstIn", fn := fun _ => fun
  | [d1, d2, d3] => { results := [.lit (.bool true)], args := [d1, d2, d3] }
  | _ => none }
def fnExactFirstInRow : OpenClaim := { program := "ytbbnbkdglihhhaa", sum := "a1f45c1d9b130d32fbb41563807c16355475eb63594d957ff4b47dd2fccec0ce", func := "loop.example/g01019/laws.FnExactFirstIn", spec := "fnExactFirstIn", apart := false }
def FnExactFirstInSaid : Prop := fnExactFirstInRow.holds Try.pinned (OpenSpec.ofChange fnExactFirstInSpec)

/-- ITS FALSE NEIGHBOUR: 'it returns false'. Refute it at one input. -/
def fnExactFirstInWrong : ChangeSpec := { name := "fnExactFirstIn", fn := fun _ => fun
  | [d1, d2, d3] => { results := [.lit (.bool false)], args := [d1, d2, d3] }
  | _ => none }
def FnExactFirstInWrongFalsely : Prop := fnExactFirstInRow.holds Try.pinned (OpenSpec.ofChange fnExactFirstInWrong)

/-- 'laws.FnExactAreaAbove': WHATEVER THE INPUT: true; the input reads as it did. -/
def fnExactAreaAboveSpec : ChangeSpec := { name := "fnExactAreaAbove", fn := fun _ => fun
  | [d1, d2] => { results := [.lit (.bool true)], args := [d1, d2] }
  | _ => none }
def fnExactAreaAboveRow : OpenClaim := { program := "ytbbnbkdglihhhaa", sum := "a1f45c1d9b130d32fbb41563807c16355475eb63594d957ff4b47dd2fccec0ce", func := "loop.example/g01019/laws.FnExactAreaAbove", spec := "fnExactAreaAbove", apart := false }
def FnExactAreaAboveSaid : Prop := fnExactAreaAboveRow.holds Try.pinned (OpenSpec.ofChange fnExactAreaAboveSpec)

/-- ITS FALSE NEIGHBOUR: 'it returns false'. Refute it at one input. -/
def fnExactAreaAboveWrong : ChangeSpec := { name := "fnExactAreaAbove", fn := fun _ => fun
  | [d1, d2] => { results := [.lit (.bool false)], args := [d1, d2] }
  | _ => none }
def FnExactAreaAboveWrongFalsely : Prop := fnExactAreaAboveRow.holds Try.pinned (OpenSpec.ofChange fnExactAreaAboveWrong)

/-- 'laws.FnExactShiftTide': WHATEVER THE INPUT: true; the input reads as it did. -/
def fnExactShiftTideSpec : ChangeSpec := { name := "fnExactShiftTide", fn := fun _ => fun
  | [d1, d2] => { results := [.lit (.bool true)], args := [d1, d2] }
  | _ => none }
def fnExactShiftTideRow : OpenClaim := { program := "ytbbnbkdglihhhaa", sum := "a1f45c1d9b130d32fbb41563807c16355475eb63594d957ff4b47dd2fccec0ce", func := "loop.example/g01019/laws.FnExactShiftTide", spec := "fnExactShiftTide", apart := false }
def FnExactShiftTideSaid : Prop := fnExactShiftTideRow.holds Try.pinned (OpenSpec.ofChange fnExactShiftTideSpec)

/-- ITS FALSE NEIGHBOUR: 'it returns false'. Refute it at one input. -/
def fnExactShiftTideWrong : ChangeSpec := { name := "fnExactShiftTide", fn := fun _ => fun
  | [d1, d2] => { results := [.lit (.bool false)], args := [d1, d2] }
  | _ => none }
def FnExactShiftTideWrongFalsely : Prop := fnExactShiftTideRow.holds Try.pinned (OpenSpec.ofChange fnExactShiftTideWrong)

/-- 'laws.FnExactTurnsOf': WHATEVER THE INPUT: true; the input reads as it did. -/
def fnExactTurnsOfSpec : ChangeSpec := { name := "fnExactTurnsOf", fn := fun _ => fun
  | [d] => { results := [.lit (.bool true)], args := [d] }
  | _ => none }
def fnExactTurnsOfRow : OpenClaim := { program := "ytbbnbkdglihhhaa", sum := "a1f45c1d9b130d32fbb41563807c16355475eb63594d957ff4b47dd2fccec0ce", func := "loop.example/g01019/laws.FnExactTurnsOf", spec := "fnExactTurnsOf", apart := false }
def FnExactTurnsOfSaid : Prop := fnExactTurnsOfRow.holds Try.pinned (OpenSpec.ofChange fnExactTurnsOfSpec)

/-- ITS FALSE NEIGHBOUR: 'it returns false'. Refute it at one input. -/
def fnExactTurnsOfWrong : ChangeSpec := { name := "fnExactTurnsOf", fn := fun _ => fun
  | [d] => { results := [.lit (.bool false)], args := [d] }
  | _ => none }
def FnExactTurnsOfWrongFalsely : Prop := fnExactTurnsOfRow.holds Try.pinned (OpenSpec.ofChange fnExactTurnsOfWrong)

/- THE SECOND FORM. 'bulk': how many values and letters a reading holds, each counted each time it is reached (what is shared counts as often as it is met; a slice's spare places count too). A statement '..UptoSaid' is the law's where the arguments, and the package variables that the reading takes, are together of bulk at most 1048576: NARROWER than '..Said'. Prove '..Said' where nothing that the law and all that it calls make is longer than what came in: it says more and counts as full. Else prove '..UptoSaid'. A law counts once. -/
mutual
def uptoBulk {H : Type} : DataW H → Nat
  | .lit (.string bytes) => bytes.length + 1
  | .lit _ => 1
  | .nil => 1
  | .ptr d => uptoBulk d + 1
  | .slice elems spare => uptoBulkAll elems + uptoBulkAll spare + 1
  | .agg parts => uptoBulkAll parts + 1
  | .iface _ d => uptoBulk d + 1
  | .map entries => uptoBulkEntries entries + 1
  | .held _ => 1
def uptoBulkAll {H : Type} : List (DataW H) → Nat
  | [] => 0
  | d :: r => uptoBulk d + uptoBulkAll r
def uptoBulkEntries {H : Type} : List (Lit × DataW H) → Nat
  | [] => 0
  | x :: r => uptoBulkEntry x + uptoBulkEntries r
def uptoBulkEntry {H : Type} : Lit × DataW H → Nat
  | (.string bytes, d) => bytes.length + uptoBulk d + 1
  | (_, d) => uptoBulk d + 1
 end
def uptoSmall : (H : Type) → List (DataW H) → Bool := fun _ ds => decide (uptoBulkAll ds ≤ 1048576)
def OpenSpec.upto (s : _root_.Go.ChangeSpec) : _root_.Go.OpenSpec := { _root_.Go.OpenSpec.ofChange s with cond := some uptoSmall }

/-- 'laws.FnStrengths', WHERE WHAT IT READS IS OF BULK AT MOST 1048576: true; the input reads as it did. -/
def fnStrengthsUptoRow : OpenClaim := { program := "ytbbnbkdglihhhaa", sum := "a1f45c1d9b130d32fbb41563807c16355475eb63594d957ff4b47dd2fccec0ce", func := "loop.example/g01019/laws.FnStrengths", spec := "fnStrengths", apart := false, narrowed := true }
def FnStrengthsUptoSaid : Prop := fnStrengthsUptoRow.holds Try.pinned (OpenSpec.upto fnStrengthsSpec)

/-- 'laws.FnTides', WHERE WHAT IT READS IS OF BULK AT MOST 1048576: true; the input reads as it did. -/
def fnTidesUptoRow : OpenClaim := { program := "ytbbnbkdglihhhaa", sum := "a1f45c1d9b130d32fbb41563807c16355475eb63594d957ff4b47dd2fccec0ce", func := "loop.example/g01019/laws.FnTides", spec := "fnTides", apart := false, narrowed := true }
def FnTidesUptoSaid : Prop := fnTidesUptoRow.holds Try.pinned (OpenSpec.upto fnTidesSpec)

/-- 'laws.FnHeights', WHERE WHAT IT READS IS OF BULK AT MOST 1048576: true; the input reads as it did. -/
def fnHeightsUptoRow : OpenClaim := { program := "ytbbnbkdglihhhaa", sum := "a1f45c1d9b130d32fbb41563807c16355475eb63594d957ff4b47dd2fccec0ce", func := "loop.example/g01019/laws.FnHeights", spec := "fnHeights", apart := false, narrowed := true }
def FnHeightsUptoSaid : Prop := fnHeightsUptoRow.holds Try.pinned (OpenSpec.upto fnHeightsSpec)

/-- 'laws.FnExactStrengthOf', WHERE WHAT IT READS IS OF BULK AT MOST 1048576: true; the input reads as it did. -/
def fnExactStrengthOfUptoRow : OpenClaim := { program := "ytbbnbkdglihhhaa", sum := "a1f45c1d9b130d32fbb41563807c16355475eb63594d957ff4b47dd2fccec0ce", func := "loop.example/g01019/laws.FnExactStrengthOf", spec := "fnExactStrengthOf", apart := false, narrowed := true }
def FnExactStrengthOfUptoSaid : Prop := fnExactStrengthOfUptoRow.holds Try.pinned (OpenSpec.upto fnExactStrengthOfSpec)

/-- 'laws.FnExactIsTide', WHERE WHAT IT READS IS OF BULK AT MOST 1048576: true; the input reads as it did. -/
def fnExactIsTideUptoRow : OpenClaim := { program := "ytbbnbkdglihhhaa", sum := "a1f45c1d9b130d32fbb41563807c16355475eb63594d957ff4b47dd2fccec0ce", func := "loop.example/g01019/laws.FnExactIsTide", spec := "fnExactIsTide", apart := false, narrowed := true }
def FnExactIsTideUptoSaid : Prop := fnExactIsTideUptoRow.holds Try.pinned (OpenSpec.upto fnExactIsTideSpec)

/-- 'laws.FnExactTideAt', WHERE WHAT IT READS IS OF BULK AT MOST 1048576: true; the input reads as it did. -/
def fnExactTideAtUptoRow : OpenClaim := { program := "ytbbnbkdglihhhaa", sum := "a1f45c1d9b130d32fbb41563807c16355475eb63594d957ff4b47dd2fccec0ce", func := "loop.example/g01019/laws.FnExactTideAt", spec := "fnExactTideAt", apart := false, narrowed := true }
def FnExactTideAtUptoSaid : Prop := fnExactTideAtUptoRow.holds Try.pinned (OpenSpec.upto fnExactTideAtSpec)

/-- 'laws.FnExactHighestTide', WHERE WHAT IT READS IS OF BULK AT MOST 1048576: true; the input reads as it did. -/
def fnExactHighestTideUptoRow : OpenClaim := { program := "ytbbnbkdglihhhaa", sum := "a1f45c1d9b130d32fbb41563807c16355475eb63594d957ff4b47dd2fccec0ce", func := "loop.example/g01019/laws.FnExactHighestTide", spec := "fnExactHighestTide", apart := false, narrowed := true }
def FnExactHighestTideUptoSaid : Prop := fnExactHighestTideUptoRow.holds Try.pinned (OpenSpec.upto fnExactHighestTideSpec)

/-- 'laws.FnExactMinutesIn', WHERE WHAT IT READS IS OF BULK AT MOST 1048576: true; the input reads as it did. -/
def fnExactMinutesInUptoRow : OpenClaim := { program := "ytbbnbkdglihhhaa", sum := "a1f45c1d9b130d32fbb41563807c16355475eb63594d957ff4b47dd2fccec0ce", func := "loop.example/g01019/laws.FnExactMinutesIn", spec := "fnExactMinutesIn", apart := false, narrowed := true }
def FnExactMinutesInUptoSaid : Prop := fnExactMinutesInUptoRow.holds Try.pinned (OpenSpec.upto fnExactMinutesInSpec)

/-- 'laws.FnExactMinutesOut', WHERE WHAT IT READS IS OF BULK AT MOST 1048576: true; the input reads as it did. -/
def fnExactMinutesOutUptoRow : OpenClaim := { program := "ytbbnbkdglihhhaa", sum := "a1f45c1d9b130d32fbb41563807c16355475eb63594d957ff4b47dd2fccec0ce", func := "loop.example/g01019/laws.FnExactMinutesOut", spec := "fnExactMinutesOut", apart := false, narrowed := true }
def FnExactMinutesOutUptoSaid : Prop := fnExactMinutesOutUptoRow.holds Try.pinned (OpenSpec.upto fnExactMinutesOutSpec)

/-- 'laws.FnExactFirstIn', WHERE WHAT IT READS IS OF BULK AT MOST 1048576: true; the input reads as it did. -/
def fnExactFirstInUptoRow : OpenClaim := { program := "ytbbnbkdglihhhaa", sum := "a1f45c1d9b130d32fbb41563807c16355475eb63594d957ff4b47dd2fccec0ce", func := "loop.example/g01019/laws.FnExactFirstIn", spec := "fnExactFirstIn", apart := false, narrowed := true }
def FnExactFirstInUptoSaid : Prop := fnExactFirstInUptoRow.holds Try.pinned (OpenSpec.upto fnExactFirstInSpec)

/-- 'laws.FnExactAreaAbove', WHERE WHAT IT READS IS OF BULK AT MOST 1048576: true; the input reads as it did. -/
def fnExactAreaAboveUptoRow : OpenClaim := { program := "ytbbnbkdglihhhaa", sum := "a1f45c1d9b130d32fbb41563807c16355475eb63594d957ff4b47dd2fccec0ce", func := "loop.example/g01019/laws.FnExactAreaAbove", spec := "fnExactAreaAbove", apart := false, narrowed := true }
def FnExactAreaAboveUptoSaid : Prop := fnExactAreaAboveUptoRow.holds Try.pinned (OpenSpec.upto fnExactAreaAboveSpec)

/-- 'laws.FnExactShiftTide', WHERE WHAT IT READS IS OF BULK AT MOST 1048576: true; the input reads as it did. -/
def fnExactShiftTideUptoRow : OpenClaim := { program := "ytbbnbkdglihhhaa", sum := "a1f45c1d9b130d32fbb41563807c16355475eb63594d957ff4b47dd2fccec0ce", func := "loop.example/g01019/laws.FnExactShiftTide", spec := "fnExactShiftTide", apart := false, narrowed := true }
def FnExactShiftTideUptoSaid : Prop := fnExactShiftTideUptoRow.holds Try.pinned (OpenSpec.upto fnExactShiftTideSpec)

/-- 'laws.FnExactTurnsOf', WHERE WHAT IT READS IS OF BULK AT MOST 1048576: true; the input reads as it did. -/
def fnExactTurnsOfUptoRow : OpenClaim := { program := "ytbbnbkdglihhhaa", sum := "a1f45c1d9b130d32fbb41563807c16355475eb63594d957ff4b47dd2fccec0ce", func := "loop.example/g01019/laws.FnExactTurnsOf", spec := "fnExactTurnsOf", apart := false, narrowed := true }
def FnExactTurnsOfUptoSaid : Prop := fnExactTurnsOfUptoRow.holds Try.pinned (OpenSpec.upto fnExactTurnsOfSpec)

end Rows
end Go.Proofs.Ytbbnbkdglihhhaa
