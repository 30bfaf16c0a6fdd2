/-
  No cell of these rows narrows 'for every input' (looked for: loops, veiled, ifaces, maps, wideKeys, modest, calm, conditions, laid).
  DERIVED. THE GIVEN ROWS OF THIS SEAT. 13 by the template 'for every input the law returns true; each argument reads behind the call as it read before'; 0 by the template 'total and deterministic' (their statements: YtdikekecbapcaaaTotals.lean).
  GIVEN WITH THE SEED: the statements are not yours to turn. If you find one false, say at which input.
  Laid BY PROGRAM, IN A SANDBOX (cutbox-rows.mjs): the forced cells as the released guide's own fill.sh prints them over the translation 12b0d6dbb84b7d2f… (all of the seat's roots in one cut). By AI agents, Wed Nov 11 2026. No macro, syntax, notation, axiom, sorry.
-/
import Derived.Test.YtdikekecbapcaaaChecked
import GoSem.Claim
import GoSem.ClaimJoined
import GoSem.ClaimMapViews
import Derived.JoinedTies
import Derived.KernelRfl
namespace Go.Proofs.Ytdikekecbapcaaa
/- THE CELL 'sum', in the pinned program and in every row, IS THE sha256 OF THE DUMP (.gsa) THAT YtdikekecbapcaaaProg.lean LOADS. Nothing in Lean hashes anything: it is a label: what it is worth is what the hold of that sum in a sandbox is worth. -/
noncomputable def Try.pinned : Pinned := { name := "ytdikekecbapcaaa", sum := "12b0d6dbb84b7d2f94c468e450decdaf4e31954a682018a23306c78863e88597", checked := Try.checked }
namespace Rows
def none {H : Type} : Left H := { results := [], args := [] }

/-- 'laws.FnGangs': WHATEVER THE INPUT: true; the input reads as it did. -/
def fnGangsSpec : ChangeSpec := { name := "fnGangs", fn := fun _ => fun
  | [d] => { results := [.lit (.bool true)], args := [d] }
  | _ => none }
def fnGangsRow : OpenClaim := { program := "ytdikekecbapcaaa", sum := "12b0d6dbb84b7d2f94c468e450decdaf4e31954a682018a23306c78863e88597", func := "loop.example/g01019/laws.FnGangs", spec := "fnGangs", unfollowed := true, recurses := true, apart := false }
def FnGangsSaid : Prop := fnGangsRow.holds Try.pinned (OpenSpec.ofChange fnGangsSpec)

/-- ITS FALSE NEIGHBOUR: 'it returns false'. Refute it at one input. -/
def fnGangsWrong : ChangeSpec := { name := "fnGangs", fn := fun _ => fun
  | [d] => { results := [.lit (.bool false)], args := [d] }
  | _ => none }
def FnGangsWrongFalsely : Prop := fnGangsRow.holds Try.pinned (OpenSpec.ofChange fnGangsWrong)

/-- 'laws.FnWorkers': WHATEVER THE INPUT: true; the input reads as it did. -/
def fnWorkersSpec : ChangeSpec := { name := "fnWorkers", fn := fun _ => fun
  | [d] => { results := [.lit (.bool true)], args := [d] }
  | _ => none }
def fnWorkersRow : OpenClaim := { program := "ytdikekecbapcaaa", sum := "12b0d6dbb84b7d2f94c468e450decdaf4e31954a682018a23306c78863e88597", func := "loop.example/g01019/laws.FnWorkers", spec := "fnWorkers", unfollowed := true, recurses := true, apart := false }
def FnWorkersSaid : Prop := fnWorkersRow.holds Try.pinned (OpenSpec.ofChange fnWorkersSpec)

/-- ITS FALSE NEIGHBOUR: 'it returns false'. Refute it at one input. -/
def fnWorkersWrong : ChangeSpec := { name := "fnWorkers", fn := fun _ => fun
  | [d] => { results := [.lit (.bool false)], args := [d] }
  | _ => none }
def FnWorkersWrongFalsely : Prop := fnWorkersRow.holds Try.pinned (OpenSpec.ofChange fnWorkersWrong)

/-- 'laws.FnExactIsWorker': WHATEVER THE INPUT: true; the input reads as it did. -/
def fnExactIsWorkerSpec : ChangeSpec := { name := "fnExactIsWorker", fn := fun _ => fun
  | [d] => { results := [.lit (.bool true)], args := [d] }
  | _ => none }
def fnExactIsWorkerRow : OpenClaim := { program := "ytdikekecbapcaaa", sum := "12b0d6dbb84b7d2f94c468e450decdaf4e31954a682018a23306c78863e88597", func := "loop.example/g01019/laws.FnExactIsWorker", spec := "fnExactIsWorker", apart := false }
def FnExactIsWorkerSaid : Prop := fnExactIsWorkerRow.holds Try.pinned (OpenSpec.ofChange fnExactIsWorkerSpec)

/-- ITS FALSE NEIGHBOUR: 'it returns false'. Refute it at one input. -/
def fnExactIsWorkerWrong : ChangeSpec := { name := "fnExactIsWorker", fn := fun _ => fun
  | [d] => { results := [.lit (.bool false)], args := [d] }
  | _ => none }
def FnExactIsWorkerWrongFalsely : Prop := fnExactIsWorkerRow.holds Try.pinned (OpenSpec.ofChange fnExactIsWorkerWrong)

/-- 'laws.FnExactAreWorkers': WHATEVER THE INPUT: true; the input reads as it did. -/
def fnExactAreWorkersSpec : ChangeSpec := { name := "fnExactAreWorkers", fn := fun _ => fun
  | [d] => { results := [.lit (.bool true)], args := [d] }
  | _ => none }
def fnExactAreWorkersRow : OpenClaim := { program := "ytdikekecbapcaaa", sum := "12b0d6dbb84b7d2f94c468e450decdaf4e31954a682018a23306c78863e88597", func := "loop.example/g01019/laws.FnExactAreWorkers", spec := "fnExactAreWorkers", apart := false }
def FnExactAreWorkersSaid : Prop := fnExactAreWorkersRow.holds Try.pinned (OpenSpec.ofChange fnExactAreWorkersSpec)

/-- ITS FALSE NEIGHBOUR: 'it returns false'. Refute it at one input. -/
def fnExactAreWorkersWrong : ChangeSpec := { name := "fnExactAreWorkers", fn := fun _ => fun
  | [d] => { results := [.lit (.bool false)], args := [d] }
  | _ => none }
def FnExactAreWorkersWrongFalsely : Prop := fnExactAreWorkersRow.holds Try.pinned (OpenSpec.ofChange fnExactAreWorkersWrong)

/-- 'laws.FnExactRakedOn': WHATEVER THE INPUT: true; the input reads as it did. -/
def fnExactRakedOnSpec : ChangeSpec := { name := "fnExactRakedOn", fn := fun _ => fun
  | [d1, d2, d3] => { results := [.lit (.bool true)], args := [d1, d2, d3] }
  | _ => none }
def fnExactRakedOnRow : OpenClaim := { program := "ytdikekecbapcaaa", sum := "12b0d6dbb84b7d2f94c468e450decdaf4e31954a682018a23306c78863e88597", func := "loop.example/g01019/laws.FnExactRakedOn", spec := "fnExactRakedOn", unfollowed := true, recurses := true, apart := false }
def FnExactRakedOnSaid : Prop := fnExactRakedOnRow.holds Try.pinned (OpenSpec.ofChange fnExactRakedOnSpec)

/-- ITS FALSE NEIGHBOUR: 'it returns false'. Refute it at one input. -/
def fnExactRakedOnWrong : ChangeSpec := { name := "fnExactRakedOn", fn := fun _ => fun
  | [d1, d2, d3] => { results := [.lit (.bool false)], args := [d1, d2, d3] }
  | _ => none }
def FnExactRakedOnWrongFalsely : Prop := fnExactRakedOnRow.holds Try.pinned (OpenSpec.ofChange fnExactRakedOnWrong)

/-- 'laws.FnExactRakedWeek': WHATEVER THE INPUT: true; the input reads as it did. -/
def fnExactRakedWeekSpec : ChangeSpec := { name := "fnExactRakedWeek", fn := fun _ => fun
  | [d1, d2] => { results := [.lit (.bool true)], args := [d1, d2] }
  | _ => none }
def fnExactRakedWeekRow : OpenClaim := { program := "ytdikekecbapcaaa", sum := "12b0d6dbb84b7d2f94c468e450decdaf4e31954a682018a23306c78863e88597", func := "loop.example/g01019/laws.FnExactRakedWeek", spec := "fnExactRakedWeek", unfollowed := true, recurses := true, apart := false }
def FnExactRakedWeekSaid : Prop := fnExactRakedWeekRow.holds Try.pinned (OpenSpec.ofChange fnExactRakedWeekSpec)

/-- ITS FALSE NEIGHBOUR: 'it returns false'. Refute it at one input. -/
def fnExactRakedWeekWrong : ChangeSpec := { name := "fnExactRakedWeek", fn := fun _ => fun
  | [d1, d2] => { results := [.lit (.bool false)], args := [d1, d2] }
  | _ => none }
def FnExactRakedWeekWrongFalsely : Prop := fnExactRakedWeekRow.holds Try.pinned (OpenSpec.ofChange fnExactRakedWeekWrong)

/-- 'laws.FnExactDaysToRake': WHATEVER THE INPUT: true; the input reads as it did. -/
def fnExactDaysToRakeSpec : ChangeSpec := { name := "fnExactDaysToRake", fn := fun _ => fun
  | [d1, d2, d3, d4] => { results := [.lit (.bool true)], args := [d1, d2, d3, d4] }
  | _ => none }
def fnExactDaysToRakeRow : OpenClaim := { program := "ytdikekecbapcaaa", sum := "12b0d6dbb84b7d2f94c468e450decdaf4e31954a682018a23306c78863e88597", func := "loop.example/g01019/laws.FnExactDaysToRake", spec := "fnExactDaysToRake", unfollowed := true, recurses := true, apart := false }
def FnExactDaysToRakeSaid : Prop := fnExactDaysToRakeRow.holds Try.pinned (OpenSpec.ofChange fnExactDaysToRakeSpec)

/-- ITS FALSE NEIGHBOUR: 'it returns false'. Refute it at one input. -/
def fnExactDaysToRakeWrong : ChangeSpec := { name := "fnExactDaysToRake", fn := fun _ => fun
  | [d1, d2, d3, d4] => { results := [.lit (.bool false)], args := [d1, d2, d3, d4] }
  | _ => none }
def FnExactDaysToRakeWrongFalsely : Prop := fnExactDaysToRakeRow.holds Try.pinned (OpenSpec.ofChange fnExactDaysToRakeWrong)

/-- 'laws.FnExactIdleDays': WHATEVER THE INPUT: true; the input reads as it did. -/
def fnExactIdleDaysSpec : ChangeSpec := { name := "fnExactIdleDays", fn := fun _ => fun
  | [d1, d2] => { results := [.lit (.bool true)], args := [d1, d2] }
  | _ => none }
def fnExactIdleDaysRow : OpenClaim := { program := "ytdikekecbapcaaa", sum := "12b0d6dbb84b7d2f94c468e450decdaf4e31954a682018a23306c78863e88597", func := "loop.example/g01019/laws.FnExactIdleDays", spec := "fnExactIdleDays", unfollowed := true, recurses := true, apart := false }
def FnExactIdleDaysSaid : Prop := fnExactIdleDaysRow.holds Try.pinned (OpenSpec.ofChange fnExactIdleDaysSpec)

/-- ITS FALSE NEIGHBOUR: 'it returns false'. Refute it at one input. -/
def fnExactIdleDaysWrong : ChangeSpec := { name := "fnExactIdleDays", fn := fun _ => fun
  | [d1, d2] => { results := [.lit (.bool false)], args := [d1, d2] }
  | _ => none }
def FnExactIdleDaysWrongFalsely : Prop := fnExactIdleDaysRow.holds Try.pinned (OpenSpec.ofChange fnExactIdleDaysWrong)

/-- 'laws.FnExactPutInGang': WHATEVER THE INPUT: true; the input reads as it did. -/
def fnExactPutInGangSpec : ChangeSpec := { name := "fnExactPutInGang", fn := fun _ => fun
  | [d1, d2, d3] => { results := [.lit (.bool true)], args := [d1, d2, d3] }
  | _ => none }
def fnExactPutInGangRow : OpenClaim := { program := "ytdikekecbapcaaa", sum := "12b0d6dbb84b7d2f94c468e450decdaf4e31954a682018a23306c78863e88597", func := "loop.example/g01019/laws.FnExactPutInGang", spec := "fnExactPutInGang", apart := false }
def FnExactPutInGangSaid : Prop := fnExactPutInGangRow.holds Try.pinned (OpenSpec.ofChange fnExactPutInGangSpec)

/-- ITS FALSE NEIGHBOUR: 'it returns false'. Refute it at one input. -/
def fnExactPutInGangWrong : ChangeSpec := { name := "fnExactPutInGang", fn := fun _ => fun
  | [d1, d2, d3] => { results := [.lit (.bool false)], args := [d1, d2, d3] }
  | _ => none }
def FnExactPutInGangWrongFalsely : Prop := fnExactPutInGangRow.holds Try.pinned (OpenSpec.ofChange fnExactPutInGangWrong)

/-- 'laws.FnExactChangeFree': WHATEVER THE INPUT: true; the input reads as it did. -/
def fnExactChangeFreeSpec : ChangeSpec := { name := "fnExactChangeFree", fn := fun _ => fun
  | [d1, d2] => { results := [.lit (.bool true)], args := [d1, d2] }
  | _ => none }
def fnExactChangeFreeRow : OpenClaim := { program := "ytdikekecbapcaaa", sum := "12b0d6dbb84b7d2f94c468e450decdaf4e31954a682018a23306c78863e88597", func := "loop.example/g01019/laws.FnExactChangeFree", spec := "fnExactChangeFree", unfollowed := true, recurses := true, apart := false }
def FnExactChangeFreeSaid : Prop := fnExactChangeFreeRow.holds Try.pinned (OpenSpec.ofChange fnExactChangeFreeSpec)

/-- ITS FALSE NEIGHBOUR: 'it returns false'. Refute it at one input. -/
def fnExactChangeFreeWrong : ChangeSpec := { name := "fnExactChangeFree", fn := fun _ => fun
  | [d1, d2] => { results := [.lit (.bool false)], args := [d1, d2] }
  | _ => none }
def FnExactChangeFreeWrongFalsely : Prop := fnExactChangeFreeRow.holds Try.pinned (OpenSpec.ofChange fnExactChangeFreeWrong)

/-- 'laws.FnExactSpareWorkers': WHATEVER THE INPUT: true; the input reads as it did. -/
def fnExactSpareWorkersSpec : ChangeSpec := { name := "fnExactSpareWorkers", fn := fun _ => fun
  | [d1, d2, d3] => { results := [.lit (.bool true)], args := [d1, d2, d3] }
  | _ => none }
def fnExactSpareWorkersRow : OpenClaim := { program := "ytdikekecbapcaaa", sum := "12b0d6dbb84b7d2f94c468e450decdaf4e31954a682018a23306c78863e88597", func := "loop.example/g01019/laws.FnExactSpareWorkers", spec := "fnExactSpareWorkers", unfollowed := true, recurses := true, apart := false }
def FnExactSpareWorkersSaid : Prop := fnExactSpareWorkersRow.holds Try.pinned (OpenSpec.ofChange fnExactSpareWorkersSpec)

/-- ITS FALSE NEIGHBOUR: 'it returns false'. Refute it at one input. -/
def fnExactSpareWorkersWrong : ChangeSpec := { name := "fnExactSpareWorkers", fn := fun _ => fun
  | [d1, d2, d3] => { results := [.lit (.bool false)], args := [d1, d2, d3] }
  | _ => none }
def FnExactSpareWorkersWrongFalsely : Prop := fnExactSpareWorkersRow.holds Try.pinned (OpenSpec.ofChange fnExactSpareWorkersWrong)

/-- 'laws.FnExactGangSizes': WHATEVER THE INPUT: true; the input reads as it did. -/
def fnExactGangSizesSpec : ChangeSpec := { name := "fnExactGangSizes", fn := fun _ => fun
  | [d] => { results := [.lit (.bool true)], args := [d] }
  | _ => none }
def fnExactGangSizesRow : OpenClaim := { program := "ytdikekecbapcaaa", sum := "12b0d6dbb84b7d2f94c468e450decdaf4e31954a682018a23306c78863e88597", func := "loop.example/g01019/laws.FnExactGangSizes", spec := "fnExactGangSizes", apart := false }
def FnExactGangSizesSaid : Prop := fnExactGangSizesRow.holds Try.pinned (OpenSpec.ofChange fnExactGangSizesSpec)

/-- ITS FALSE NEIGHBOUR: 'it returns false'. Refute it at one input. -/
def fnExactGangSizesWrong : ChangeSpec := { name := "fnExactGangSizes", fn := fun _ => fun
  | [d] => { results := [.lit (.bool false)], args := [d] }
  | _ => none }
def FnExactGangSizesWrongFalsely : Prop := fnExactGangSizesRow.holds Try.pinned (OpenSpec.ofChange fnExactGangSizesWrong)

/-- 'laws.FnExactEvenGangs': WHATEVER THE INPUT: true; the input reads as it did. -/
def fnExactEvenGangsSpec : ChangeSpec := { name := "fnExactEvenGangs", fn := fun _ => fun
  | [d] => { results := [.lit (.bool true)], args := [d] }
  | _ => none }
def fnExactEvenGangsRow : OpenClaim := { program := "ytdikekecbapcaaa", sum := "12b0d6dbb84b7d2f94c468e450decdaf4e31954a682018a23306c78863e88597", func := "loop.example/g01019/laws.FnExactEvenGangs", spec := "fnExactEvenGangs", unfollowed := true, recurses := true, apart := false }
def FnExactEvenGangsSaid : Prop := fnExactEvenGangsRow.holds Try.pinned (OpenSpec.ofChange fnExactEvenGangsSpec)

/-- ITS FALSE NEIGHBOUR: 'it returns false'. Refute it at one input. -/
def fnExactEvenGangsWrong : ChangeSpec := { name := "fnExactEvenGangs", fn := fun _ => fun
  | [d] => { results := [.lit (.bool false)], args := [d] }
  | _ => none }
def FnExactEvenGangsWrongFalsely : Prop := fnExactEvenGangsRow.holds Try.pinned (OpenSpec.ofChange fnExactEvenGangsWrong)

/- THE SECOND FORM. 'bulk': how many values and letters a reading holds, each counted each time it is reached (what is shared counts as often as it is met; a slice's spare places count too). A statement '..UptoSaid' is the law's where the arguments, and the package variables that the reading takes, are together of bulk at most 1048576: NARROWER than '..Said'. Prove '..Said' where nothing that the law and all that it calls make is longer than what came in: it says more and counts as full. Else prove '..UptoSaid'. A law counts once. -/
mutual
def uptoBulk {H : Type} : DataW H → Nat
  | .lit (.string bytes) => bytes.length + 1
  | .lit _ => 1
  | .nil => 1
  | .ptr d => uptoBulk d + 1
  | .slice elems spare => uptoBulkAll elems + uptoBulkAll spare + 1
  | .agg parts => uptoBulkAll parts + 1
  | .iface _ d => uptoBulk d + 1
  | .map entries => uptoBulkEntries entries + 1
  | .held _ => 1
def uptoBulkAll {H : Type} : List (DataW H) → Nat
  | [] => 0
  | d :: r => uptoBulk d + uptoBulkAll r
def uptoBulkEntries {H : Type} : List (Lit × DataW H) → Nat
  | [] => 0
  | x :: r => uptoBulkEntry x + uptoBulkEntries r
def uptoBulkEntry {H : Type} : Lit × DataW H → Nat
  | (.string bytes, d) => bytes.length + uptoBulk d + 1
  | (_, d) => uptoBulk d + 1
 end
def uptoSmall : (H : Type) → List (DataW H) → Bool := fun _ ds => decide (uptoBulkAll ds ≤ 1048576)
def OpenSpec.upto (s : _root_.Go.ChangeSpec) : _root_.Go.OpenSpec := { _root_.Go.OpenSpec.ofChange s with cond := some uptoSmall }

/-- 'laws.FnGangs', WHERE WHAT IT READS IS OF BULK AT MOST 1048576: true; the input reads as it did. -/
def fnGangsUptoRow : OpenClaim := { program := "ytdikekecbapcaaa", sum := "12b0d6dbb84b7d2f94c468e450decdaf4e31954a682018a23306c78863e88597", func := "loop.example/g01019/laws.FnGangs", spec := "fnGangs", unfollowed := true, recurses := true, apart := false, narrowed := true }
def FnGangsUptoSaid : Prop := fnGangsUptoRow.holds Try.pinned (OpenSpec.upto fnGangsSpec)

/-- 'laws.FnWorkers', WHERE WHAT IT READS IS OF BULK AT MOST 1048576: true; the input reads as it did. -/
def fnWorkersUptoRow : OpenClaim := { program := "ytdikekecbapcaaa", sum := "12b0d6dbb84b7d2f94c468e450decdaf4e31954a682018a23306c78863e88597", func := "loop.example/g01019/laws.FnWorkers", spec := "fnWorkers", unfollowed := true, recurses := true, apart := false, narrowed := true }
def FnWorkersUptoSaid : Prop := fnWorkersUptoRow.holds Try.pinned (OpenSpec.upto fnWorkersSpec)

/-- 'laws.FnExactIsWorker', WHERE WHAT IT READS IS OF BULK AT MOST 1048576: true; the input reads as it did. -/
def fnExactIsWorkerUptoRow : OpenClaim := { program := "ytdikekecbapcaaa", sum := "12b0d6dbb84b7d2f94c468e450decdaf4e31954a682018a23306c78863e88597", func := "loop.example/g01019/laws.FnExactIsWorker", spec := "fnExactIsWorker", apart := false, narrowed := true }
def FnExactIsWorkerUptoSaid : Prop := fnExactIsWorkerUptoRow.holds Try.pinned (OpenSpec.upto fnExactIsWorkerSpec)

/-- 'laws.FnExactAreWorkers', WHERE WHAT IT READS IS OF BULK AT MOST 1048576: true; the input reads as it did. -/
def fnExactAreWorkersUptoRow : OpenClaim := { program := "ytdikekecbapcaaa", sum := "12b0d6dbb84b7d2f94c468e450decdaf4e31954a682018a23306c78863e88597", func := "loop.example/g01019/laws.FnExactAreWorkers", spec := "fnExactAreWorkers", apart := false, narrowed := true }
def FnExactAreWorkersUptoSaid : Prop := fnExactAreWorkersUptoRow.holds Try.pinned (OpenSpec.upto fnExactAreWorkersSpec)

/-- 'laws.FnExactRakedOn', WHERE WHAT IT READS IS OF BULK AT MOST 1048576: true; the input reads as it did. -/
def fnExactRakedOnUptoRow : OpenClaim := { program := "ytdikekecbapcaaa", sum := "12b0d6dbb84b7d2f94c468e450decdaf4e31954a682018a23306c78863e88597", func := "loop.example/g01019/laws.FnExactRakedOn", spec := "fnExactRakedOn", unfollowed := true, recurses := true, apart := false, narrowed := true }
def FnExactRakedOnUptoSaid : Prop := fnExactRakedOnUptoRow.holds Try.pinned (OpenSpec.upto fnExactRakedOnSpec)

/-- 'laws.FnExactRakedWeek', WHERE WHAT IT READS IS OF BULK AT MOST 1048576: true; the input reads as it did. -/
def fnExactRakedWeekUptoRow : OpenClaim := { program := "ytdikekecbapcaaa", sum := "12b0d6dbb84b7d2f94c468e450decdaf4e31954a682018a23306c78863e88597", func := "loop.example/g01019/laws.FnExactRakedWeek", spec := "fnExactRakedWeek", unfollowed := true, recurses := true, apart := false, narrowed := true }
def FnExactRakedWeekUptoSaid : Prop := fnExactRakedWeekUptoRow.holds Try.pinned (OpenSpec.upto fnExactRakedWeekSpec)

/-- 'laws.FnExactDaysToRake', WHERE WHAT IT READS IS OF BULK AT MOST 1048576: true; the input reads as it did. -/
def fnExactDaysToRakeUptoRow : OpenClaim := { program := "ytdikekecbapcaaa", sum := "12b0d6dbb84b7d2f94c468e450decdaf4e31954a682018a23306c78863e88597", func := "loop.example/g01019/laws.FnExactDaysToRake", spec := "fnExactDaysToRake", unfollowed := true, recurses := true, apart := false, narrowed := true }
def FnExactDaysToRakeUptoSaid : Prop := fnExactDaysToRakeUptoRow.holds Try.pinned (OpenSpec.upto fnExactDaysToRakeSpec)

/-- 'laws.FnExactIdleDays', WHERE WHAT IT READS IS OF BULK AT MOST 1048576: true; the input reads as it did. -/
def fnExactIdleDaysUptoRow : OpenClaim := { program := "ytdikekecbapcaaa", sum := "12b0d6dbb84b7d2f94c468e450decdaf4e31954a682018a23306c78863e88597", func := "loop.example/g01019/laws.FnExactIdleDays", spec := "fnExactIdleDays", unfollowed := true, recurses := true, apart := false, narrowed := true }
def FnExactIdleDaysUptoSaid : Prop := fnExactIdleDaysUptoRow.holds Try.pinned (OpenSpec.upto fnExactIdleDaysSpec)

/-- 'laws.FnExactPutInGang', WHERE WHAT IT READS IS OF BULK AT MOST 1048576: true; the input reads as it did. -/
def fnExactPutInGangUptoRow : OpenClaim := { program := "ytdikekecbapcaaa", sum := "12b0d6dbb84b7d2f94c468e450decdaf4e31954a682018a23306c78863e88597", func := "loop.example/g01019/laws.FnExactPutInGang", spec := "fnExactPutInGang", apart := false, narrowed := true }
def FnExactPutInGangUptoSaid : Prop := fnExactPutInGangUptoRow.holds Try.pinned (OpenSpec.upto fnExactPutInGangSpec)

/-- 'laws.FnExactChangeFree', WHERE WHAT IT READS IS OF BULK AT MOST 1048576: true; the input reads as it did. -/
def fnExactChangeFreeUptoRow : OpenClaim := { program := "ytdikekecbapcaaa", sum := "12b0d6dbb84b7d2f94c468e450decdaf4e31954a682018a23306c78863e88597", func := "loop.example/g01019/laws.FnExactChangeFree", spec := "fnExactChangeFree", unfollowed := true, recurses := true, apart := false, narrowed := true }
def FnExactChangeFreeUptoSaid : Prop := fnExactChangeFreeUptoRow.holds Try.pinned (OpenSpec.upto fnExactChangeFreeSpec)

/-- 'laws.FnExactSpareWorkers', WHERE WHAT IT READS IS OF BULK AT MOST 1048576: true; the input reads as it did. -/
def fnExactSpareWorkersUptoRow : OpenClaim := { program := "ytdikekecbapcaaa", sum := "12b0d6dbb84b7d2f94c468e450decdaf4e31954a682018a23306c78863e88597", func := "loop.example/g01019/laws.FnExactSpareWorkers", spec := "fnExactSpareWorkers", unfollowed := true, recurses := true, apart := false, narrowed := true }
def FnExactSpareWorkersUptoSaid : Prop := fnExactSpareWorkersUptoRow.holds Try.pinned (OpenSpec.upto fnExactSpareWorkersSpec)

/-- 'laws.FnExactGangSizes', WHERE WHAT IT READS IS OF BULK AT MOST 1048576: true; the input reads as it did. -/
def fnExactGangSizesUptoRow : OpenClaim := { program := "ytdikekecbapcaaa", sum := "12b0d6dbb84b7d2f94c468e450decdaf4e31954a682018a23306c78863e88597", func := "loop.example/g01019/laws.FnExactGangSizes", spec := "fnExactGangSizes", apart := false, narrowed := true }
def FnExactGangSizesUptoSaid : Prop := fnExactGangSizesUptoRow.holds Try.pinned (OpenSpec.upto fnExactGangSizesSpec)

/-- 'laws.FnExactEvenGangs', WHERE WHAT IT READS IS OF BULK AT MOST 1048576: true; the input reads as it did. -/
def fnExactEvenGangsUptoRow : OpenClaim := { program := "ytdikekecbapcaaa", sum := "12b0d6dbb84b7d2f94c468e450decdaf4e31954a682018a23306c78863e88597", func := "loop.example/g01019/laws.FnExactEvenGangs", spec := "fnExactEvenGangs", unfollowed := true, recurses := true, apart := false, narrowed := true }
def FnExactEvenGangsUptoSaid : Prop := fnExactEvenGangsUptoRow.holds Try.pinned (OpenSpec.upto fnExactEvenGangsSpec)

end Rows
end Go.Proofs.Ytdikekecbapcaaa
