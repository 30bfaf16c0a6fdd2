/-
  No cell of these rows narrows 'for every input' (looked for: loops, veiled, ifaces, maps, wideKeys, modest, calm, conditions, laid).
  DERIVED. THE GIVEN ROWS OF THIS SEAT. 13 by the template 'for every input the law returns true; each argument reads behind the call as it read before'; 0 by the template 'total and deterministic' (their statements: YtciohcipmkhneaaTotals.lean).
  GIVEN WITH THE SEED: the statements are not yours to turn. If you find one false, say at which input.
  Laid BY PROGRAM, IN A SANDBOX (cutbox-rows.mjs): the forced cells as the released guide's own fill.sh prints them over the translation 45001933bfa39ab8… (all of the seat's roots in one cut). By AI agents, Wed Nov 11 2026. No macro, syntax, notation, axiom, sorry.
-/
import Derived.Test.YtciohcipmkhneaaChecked
import GoSem.Claim
import GoSem.ClaimJoined
import GoSem.ClaimMapViews
import Derived.JoinedTies
import Derived.KernelRfl
namespace Go.Proofs.Ytciohcipmkhneaa
/- THE CELL 'sum', in the pinned program and in every row, IS THE sha256 OF THE DUMP (.gsa) THAT YtciohcipmkhneaaProg.lean LOADS. Nothing in Lean hashes anything: it is a label: what it is worth is what the hold of that sum in a sandbox is worth. -/
noncomputable def Try.pinned : Pinned := { name := "ytciohcipmkhneaa", sum := "45001933bfa39ab830a2c103c9b9ba565553b078a6765b688a22c241f154f842", checked := Try.checked }
namespace Rows
def none {H : Type} : Left H := { results := [], args := [] }

/-- 'laws.FnSeries': WHATEVER THE INPUT: true; the input reads as it did. -/
def fnSeriesSpec : ChangeSpec := { name := "fnSeries", fn := fun _ => fun
  | [d] => { results := [.lit (.bool true)], args := [d] }
  | _ => none }
def fnSeriesRow : OpenClaim := { program := "ytciohcipmkhneaa", sum := "45001933bfa39ab830a2c103c9b9ba565553b078a6765b688a22c241f154f842", func := "loop.example/g01019/laws.FnSeries", spec := "fnSeries", apart := false }
def FnSeriesSaid : Prop := fnSeriesRow.holds Try.pinned (OpenSpec.ofChange fnSeriesSpec)

/-- ITS FALSE NEIGHBOUR: 'it returns false'. Refute it at one input. -/
def fnSeriesWrong : ChangeSpec := { name := "fnSeries", fn := fun _ => fun
  | [d] => { results := [.lit (.bool false)], args := [d] }
  | _ => none }
def FnSeriesWrongFalsely : Prop := fnSeriesRow.holds Try.pinned (OpenSpec.ofChange fnSeriesWrong)

/-- 'laws.FnBasins': WHATEVER THE INPUT: true; the input reads as it did. -/
def fnBasinsSpec : ChangeSpec := { name := "fnBasins", fn := fun _ => fun
  | [d] => { results := [.lit (.bool true)], args := [d] }
  | _ => none }
def fnBasinsRow : OpenClaim := { program := "ytciohcipmkhneaa", sum := "45001933bfa39ab830a2c103c9b9ba565553b078a6765b688a22c241f154f842", func := "loop.example/g01019/laws.FnBasins", spec := "fnBasins", unfollowed := true, recurses := true, apart := false }
def FnBasinsSaid : Prop := fnBasinsRow.holds Try.pinned (OpenSpec.ofChange fnBasinsSpec)

/-- ITS FALSE NEIGHBOUR: 'it returns false'. Refute it at one input. -/
def fnBasinsWrong : ChangeSpec := { name := "fnBasins", fn := fun _ => fun
  | [d] => { results := [.lit (.bool false)], args := [d] }
  | _ => none }
def FnBasinsWrongFalsely : Prop := fnBasinsRow.holds Try.pinned (OpenSpec.ofChange fnBasinsWrong)

/-- 'laws.FnStacks': WHATEVER THE INPUT: true; the input reads as it did. -/
def fnStacksSpec : ChangeSpec := { name := "fnStacks", fn := fun _ => fun
  | [d] => { results := [.lit (.bool true)], args := [d] }
  | _ => none }
def fnStacksRow : OpenClaim := { program := "ytciohcipmkhneaa", sum := "45001933bfa39ab830a2c103c9b9ba565553b078a6765b688a22c241f154f842", func := "loop.example/g01019/laws.FnStacks", spec := "fnStacks", unfollowed := true, recurses := true, apart := false }
def FnStacksSaid : Prop := fnStacksRow.holds Try.pinned (OpenSpec.ofChange fnStacksSpec)

/-- ITS FALSE NEIGHBOUR: 'it returns false'. Refute it at one input. -/
def fnStacksWrong : ChangeSpec := { name := "fnStacks", fn := fun _ => fun
  | [d] => { results := [.lit (.bool false)], args := [d] }
  | _ => none }
def FnStacksWrongFalsely : Prop := fnStacksRow.holds Try.pinned (OpenSpec.ofChange fnStacksWrong)

/-- 'laws.FnExactIsSeries': WHATEVER THE INPUT: true; the input reads as it did. -/
def fnExactIsSeriesSpec : ChangeSpec := { name := "fnExactIsSeries", fn := fun _ => fun
  | [d] => { results := [.lit (.bool true)], args := [d] }
  | _ => none }
def fnExactIsSeriesRow : OpenClaim := { program := "ytciohcipmkhneaa", sum := "45001933bfa39ab830a2c103c9b9ba565553b078a6765b688a22c241f154f842", func := "loop.example/g01019/laws.FnExactIsSeries", spec := "fnExactIsSeries", apart := false }
def FnExactIsSeriesSaid : Prop := fnExactIsSeriesRow.holds Try.pinned (OpenSpec.ofChange fnExactIsSeriesSpec)

/-- ITS FALSE NEIGHBOUR: 'it returns false'. Refute it at one input. -/
def fnExactIsSeriesWrong : ChangeSpec := { name := "fnExactIsSeries", fn := fun _ => fun
  | [d] => { results := [.lit (.bool false)], args := [d] }
  | _ => none }
def FnExactIsSeriesWrongFalsely : Prop := fnExactIsSeriesRow.holds Try.pinned (OpenSpec.ofChange fnExactIsSeriesWrong)

/-- 'laws.FnExactSeriesSum': WHATEVER THE INPUT: true; the input reads as it did. -/
def fnExactSeriesSumSpec : ChangeSpec := { name := "fnExactSeriesSum", fn := fun _ => fun
  | [d] => { results := [.lit (.bool true)], args := [d] }
  | _ => none }
def fnExactSeriesSumRow : OpenClaim := { program := "ytciohcipmkhneaa", sum := "45001933bfa39ab830a2c103c9b9ba565553b078a6765b688a22c241f154f842", func := "loop.example/g01019/laws.FnExactSeriesSum", spec := "fnExactSeriesSum", apart := false }
def FnExactSeriesSumSaid : Prop := fnExactSeriesSumRow.holds Try.pinned (OpenSpec.ofChange fnExactSeriesSumSpec)

/-- ITS FALSE NEIGHBOUR: 'it returns false'. Refute it at one input. -/
def fnExactSeriesSumWrong : ChangeSpec := { name := "fnExactSeriesSum", fn := fun _ => fun
  | [d] => { results := [.lit (.bool false)], args := [d] }
  | _ => none }
def FnExactSeriesSumWrongFalsely : Prop := fnExactSeriesSumRow.holds Try.pinned (OpenSpec.ofChange fnExactSeriesSumWrong)

/-- 'laws.FnExactIsRising': WHATEVER THE INPUT: true; the input reads as it did. -/
def fnExactIsRisingSpec : ChangeSpec := { name := "fnExactIsRising", fn := fun _ => fun
  | [d] => { results := [.lit (.bool true)], args := [d] }
  | _ => none }
def fnExactIsRisingRow : OpenClaim := { program := "ytciohcipmkhneaa", sum := "45001933bfa39ab830a2c103c9b9ba565553b078a6765b688a22c241f154f842", func := "loop.example/g01019/laws.FnExactIsRising", spec := "fnExactIsRising", apart := false }
def FnExactIsRisingSaid : Prop := fnExactIsRisingRow.holds Try.pinned (OpenSpec.ofChange fnExactIsRisingSpec)

/-- ITS FALSE NEIGHBOUR: 'it returns false'. Refute it at one input. -/
def fnExactIsRisingWrong : ChangeSpec := { name := "fnExactIsRising", fn := fun _ => fun
  | [d] => { results := [.lit (.bool false)], args := [d] }
  | _ => none }
def FnExactIsRisingWrongFalsely : Prop := fnExactIsRisingRow.holds Try.pinned (OpenSpec.ofChange fnExactIsRisingWrong)

/-- 'laws.FnExactAfterPass': WHATEVER THE INPUT: true; the input reads as it did. -/
def fnExactAfterPassSpec : ChangeSpec := { name := "fnExactAfterPass", fn := fun _ => fun
  | [d1, d2, d3] => { results := [.lit (.bool true)], args := [d1, d2, d3] }
  | _ => none }
def fnExactAfterPassRow : OpenClaim := { program := "ytciohcipmkhneaa", sum := "45001933bfa39ab830a2c103c9b9ba565553b078a6765b688a22c241f154f842", func := "loop.example/g01019/laws.FnExactAfterPass", spec := "fnExactAfterPass", apart := false }
def FnExactAfterPassSaid : Prop := fnExactAfterPassRow.holds Try.pinned (OpenSpec.ofChange fnExactAfterPassSpec)

/-- ITS FALSE NEIGHBOUR: 'it returns false'. Refute it at one input. -/
def fnExactAfterPassWrong : ChangeSpec := { name := "fnExactAfterPass", fn := fun _ => fun
  | [d1, d2, d3] => { results := [.lit (.bool false)], args := [d1, d2, d3] }
  | _ => none }
def FnExactAfterPassWrongFalsely : Prop := fnExactAfterPassRow.holds Try.pinned (OpenSpec.ofChange fnExactAfterPassWrong)

/-- 'laws.FnExactAfterPasses': WHATEVER THE INPUT: true; the input reads as it did. -/
def fnExactAfterPassesSpec : ChangeSpec := { name := "fnExactAfterPasses", fn := fun _ => fun
  | [d1, d2, d3, d4] => { results := [.lit (.bool true)], args := [d1, d2, d3, d4] }
  | _ => none }
def fnExactAfterPassesRow : OpenClaim := { program := "ytciohcipmkhneaa", sum := "45001933bfa39ab830a2c103c9b9ba565553b078a6765b688a22c241f154f842", func := "loop.example/g01019/laws.FnExactAfterPasses", spec := "fnExactAfterPasses", apart := false }
def FnExactAfterPassesSaid : Prop := fnExactAfterPassesRow.holds Try.pinned (OpenSpec.ofChange fnExactAfterPassesSpec)

/-- ITS FALSE NEIGHBOUR: 'it returns false'. Refute it at one input. -/
def fnExactAfterPassesWrong : ChangeSpec := { name := "fnExactAfterPasses", fn := fun _ => fun
  | [d1, d2, d3, d4] => { results := [.lit (.bool false)], args := [d1, d2, d3, d4] }
  | _ => none }
def FnExactAfterPassesWrongFalsely : Prop := fnExactAfterPassesRow.holds Try.pinned (OpenSpec.ofChange fnExactAfterPassesWrong)

/-- 'laws.FnExactPassesToEmpty': WHATEVER THE INPUT: true; the input reads as it did. -/
def fnExactPassesToEmptySpec : ChangeSpec := { name := "fnExactPassesToEmpty", fn := fun _ => fun
  | [d1, d2] => { results := [.lit (.bool true)], args := [d1, d2] }
  | _ => none }
def fnExactPassesToEmptyRow : OpenClaim := { program := "ytciohcipmkhneaa", sum := "45001933bfa39ab830a2c103c9b9ba565553b078a6765b688a22c241f154f842", func := "loop.example/g01019/laws.FnExactPassesToEmpty", spec := "fnExactPassesToEmpty", apart := false }
def FnExactPassesToEmptySaid : Prop := fnExactPassesToEmptyRow.holds Try.pinned (OpenSpec.ofChange fnExactPassesToEmptySpec)

/-- ITS FALSE NEIGHBOUR: 'it returns false'. Refute it at one input. -/
def fnExactPassesToEmptyWrong : ChangeSpec := { name := "fnExactPassesToEmpty", fn := fun _ => fun
  | [d1, d2] => { results := [.lit (.bool false)], args := [d1, d2] }
  | _ => none }
def FnExactPassesToEmptyWrongFalsely : Prop := fnExactPassesToEmptyRow.holds Try.pinned (OpenSpec.ofChange fnExactPassesToEmptyWrong)

/-- 'laws.FnExactFillFirst': WHATEVER THE INPUT: true; the input reads as it did. -/
def fnExactFillFirstSpec : ChangeSpec := { name := "fnExactFillFirst", fn := fun _ => fun
  | [d1, d2] => { results := [.lit (.bool true)], args := [d1, d2] }
  | _ => none }
def fnExactFillFirstRow : OpenClaim := { program := "ytciohcipmkhneaa", sum := "45001933bfa39ab830a2c103c9b9ba565553b078a6765b688a22c241f154f842", func := "loop.example/g01019/laws.FnExactFillFirst", spec := "fnExactFillFirst", apart := false }
def FnExactFillFirstSaid : Prop := fnExactFillFirstRow.holds Try.pinned (OpenSpec.ofChange fnExactFillFirstSpec)

/-- ITS FALSE NEIGHBOUR: 'it returns false'. Refute it at one input. -/
def fnExactFillFirstWrong : ChangeSpec := { name := "fnExactFillFirst", fn := fun _ => fun
  | [d1, d2] => { results := [.lit (.bool false)], args := [d1, d2] }
  | _ => none }
def FnExactFillFirstWrongFalsely : Prop := fnExactFillFirstRow.holds Try.pinned (OpenSpec.ofChange fnExactFillFirstWrong)

/-- 'laws.FnExactSunOnSeries': WHATEVER THE INPUT: true; the input reads as it did. -/
def fnExactSunOnSeriesSpec : ChangeSpec := { name := "fnExactSunOnSeries", fn := fun _ => fun
  | [d1, d2] => { results := [.lit (.bool true)], args := [d1, d2] }
  | _ => none }
def fnExactSunOnSeriesRow : OpenClaim := { program := "ytciohcipmkhneaa", sum := "45001933bfa39ab830a2c103c9b9ba565553b078a6765b688a22c241f154f842", func := "loop.example/g01019/laws.FnExactSunOnSeries", spec := "fnExactSunOnSeries", apart := false }
def FnExactSunOnSeriesSaid : Prop := fnExactSunOnSeriesRow.holds Try.pinned (OpenSpec.ofChange fnExactSunOnSeriesSpec)

/-- ITS FALSE NEIGHBOUR: 'it returns false'. Refute it at one input. -/
def fnExactSunOnSeriesWrong : ChangeSpec := { name := "fnExactSunOnSeries", fn := fun _ => fun
  | [d1, d2] => { results := [.lit (.bool false)], args := [d1, d2] }
  | _ => none }
def FnExactSunOnSeriesWrongFalsely : Prop := fnExactSunOnSeriesRow.holds Try.pinned (OpenSpec.ofChange fnExactSunOnSeriesWrong)

/-- 'laws.FnExactStrongestBasin': WHATEVER THE INPUT: true; the input reads as it did. -/
def fnExactStrongestBasinSpec : ChangeSpec := { name := "fnExactStrongestBasin", fn := fun _ => fun
  | [d] => { results := [.lit (.bool true)], args := [d] }
  | _ => none }
def fnExactStrongestBasinRow : OpenClaim := { program := "ytciohcipmkhneaa", sum := "45001933bfa39ab830a2c103c9b9ba565553b078a6765b688a22c241f154f842", func := "loop.example/g01019/laws.FnExactStrongestBasin", spec := "fnExactStrongestBasin", apart := false }
def FnExactStrongestBasinSaid : Prop := fnExactStrongestBasinRow.holds Try.pinned (OpenSpec.ofChange fnExactStrongestBasinSpec)

/-- ITS FALSE NEIGHBOUR: 'it returns false'. Refute it at one input. -/
def fnExactStrongestBasinWrong : ChangeSpec := { name := "fnExactStrongestBasin", fn := fun _ => fun
  | [d] => { results := [.lit (.bool false)], args := [d] }
  | _ => none }
def FnExactStrongestBasinWrongFalsely : Prop := fnExactStrongestBasinRow.holds Try.pinned (OpenSpec.ofChange fnExactStrongestBasinWrong)

/-- 'laws.FnExactDepthOrder': WHATEVER THE INPUT: true; the input reads as it did. -/
def fnExactDepthOrderSpec : ChangeSpec := { name := "fnExactDepthOrder", fn := fun _ => fun
  | [d] => { results := [.lit (.bool true)], args := [d] }
  | _ => none }
def fnExactDepthOrderRow : OpenClaim := { program := "ytciohcipmkhneaa", sum := "45001933bfa39ab830a2c103c9b9ba565553b078a6765b688a22c241f154f842", func := "loop.example/g01019/laws.FnExactDepthOrder", spec := "fnExactDepthOrder", unfollowed := true, recurses := true, apart := false }
def FnExactDepthOrderSaid : Prop := fnExactDepthOrderRow.holds Try.pinned (OpenSpec.ofChange fnExactDepthOrderSpec)

/-- ITS FALSE NEIGHBOUR: 'it returns false'. Refute it at one input. -/
def fnExactDepthOrderWrong : ChangeSpec := { name := "fnExactDepthOrder", fn := fun _ => fun
  | [d] => { results := [.lit (.bool false)], args := [d] }
  | _ => none }
def FnExactDepthOrderWrongFalsely : Prop := fnExactDepthOrderRow.holds Try.pinned (OpenSpec.ofChange fnExactDepthOrderWrong)

/- THE SECOND FORM. 'bulk': how many values and letters a reading holds, each counted each time it is reached (what is shared counts as often as it is met; a slice's spare places count too). A statement '..UptoSaid' is the law's where the arguments, and the package variables that the reading takes, are together of bulk at most 1048576: NARROWER than '..Said'. Prove '..Said' where nothing that the law and all that it calls make is longer than what came in: it says more and counts as full. Else prove '..UptoSaid'. A law counts once. -/
mutual
def uptoBulk {H : Type} : DataW H → Nat
  | .lit (.string bytes) => bytes.length + 1
  | .lit _ => 1
  | .nil => 1
  | .ptr d => uptoBulk d + 1
  | .slice elems spare => uptoBulkAll elems + uptoBulkAll spare + 1
  | .agg parts => uptoBulkAll parts + 1
  | .iface _ d => uptoBulk d + 1
  | .map entries => uptoBulkEntries entries + 1
  | .held _ => 1
def uptoBulkAll {H : Type} : List (DataW H) → Nat
  | [] => 0
  | d :: r => uptoBulk d + uptoBulkAll r
def uptoBulkEntries {H : Type} : List (Lit × DataW H) → Nat
  | [] => 0
  | x :: r => uptoBulkEntry x + uptoBulkEntries r
def uptoBulkEntry {H : Type} : Lit × DataW H → Nat
  | (.string bytes, d) => bytes.length + uptoBulk d + 1
  | (_, d) => uptoBulk d + 1
 end
def uptoSmall : (H : Type) → List (DataW H) → Bool := fun _ ds => decide (uptoBulkAll ds ≤ 1048576)
def OpenSpec.upto (s : _root_.Go.ChangeSpec) : _root_.Go.OpenSpec := { _root_.Go.OpenSpec.ofChange s with cond := some uptoSmall }

/-- 'laws.FnSeries', WHERE WHAT IT READS IS OF BULK AT MOST 1048576: true; the input reads as it did. -/
def fnSeriesUptoRow : OpenClaim := { program := "ytciohcipmkhneaa", sum := "45001933bfa39ab830a2c103c9b9ba565553b078a6765b688a22c241f154f842", func := "loop.example/g01019/laws.FnSeries", spec := "fnSeries", apart := false, narrowed := true }
def FnSeriesUptoSaid : Prop := fnSeriesUptoRow.holds Try.pinned (OpenSpec.upto fnSeriesSpec)

/-- 'laws.FnBasins', WHERE WHAT IT READS IS OF BULK AT MOST 1048576: true; the input reads as it did. -/
def fnBasinsUptoRow : OpenClaim := { program := "ytciohcipmkhneaa", sum := "45001933bfa39ab830a2c103c9b9ba565553b078a6765b688a22c241f154f842", func := "loop.example/g01019/laws.FnBasins", spec := "fnBasins", unfollowed := true, recurses := true, apart := false, narrowed := true }
def FnBasinsUptoSaid : Prop := fnBasinsUptoRow.holds Try.pinned (OpenSpec.upto fnBasinsSpec)

/-- 'laws.FnStacks', WHERE WHAT IT READS IS OF BULK AT MOST 1048576: true; the input reads as it did. -/
def fnStacksUptoRow : OpenClaim := { program := "ytciohcipmkhneaa", sum := "45001933bfa39ab830a2c103c9b9ba565553b078a6765b688a22c241f154f842", func := "loop.example/g01019/laws.FnStacks", spec := "fnStacks", unfollowed := true, recurses := true, apart := false, narrowed := true }
def FnStacksUptoSaid : Prop := fnStacksUptoRow.holds Try.pinned (OpenSpec.upto fnStacksSpec)

/-- 'laws.FnExactIsSeries', WHERE WHAT IT READS IS OF BULK AT MOST 1048576: true; the input reads as it did. -/
def fnExactIsSeriesUptoRow : OpenClaim := { program := "ytciohcipmkhneaa", sum := "45001933bfa39ab830a2c103c9b9ba565553b078a6765b688a22c241f154f842", func := "loop.example/g01019/laws.FnExactIsSeries", spec := "fnExactIsSeries", apart := false, narrowed := true }
def FnExactIsSeriesUptoSaid : Prop := fnExactIsSeriesUptoRow.holds Try.pinned (OpenSpec.upto fnExactIsSeriesSpec)

/-- 'laws.FnExactSeriesSum', WHERE WHAT IT READS IS OF BULK AT MOST 1048576: true; the input reads as it did. -/
def fnExactSeriesSumUptoRow : OpenClaim := { program := "ytciohcipmkhneaa", sum := "45001933bfa39ab830a2c103c9b9ba565553b078a6765b688a22c241f154f842", func := "loop.example/g01019/laws.FnExactSeriesSum", spec := "fnExactSeriesSum", apart := false, narrowed := true }
def FnExactSeriesSumUptoSaid : Prop := fnExactSeriesSumUptoRow.holds Try.pinned (OpenSpec.upto fnExactSeriesSumSpec)

/-- 'laws.FnExactIsRising', WHERE WHAT IT READS IS OF BULK AT MOST 1048576: true; the input reads as it did. -/
def fnExactIsRisingUptoRow : OpenClaim := { program := "ytciohcipmkhneaa", sum := "45001933bfa39ab830a2c103c9b9ba565553b078a6765b688a22c241f154f842", func := "loop.example/g01019/laws.FnExactIsRising", spec := "fnExactIsRising", apart := false, narrowed := true }
def FnExactIsRisingUptoSaid : Prop := fnExactIsRisingUptoRow.holds Try.pinned (OpenSpec.upto fnExactIsRisingSpec)

/-- 'laws.FnExactAfterPass', WHERE WHAT IT READS IS OF BULK AT MOST 1048576: true; the input reads as it did. -/
def fnExactAfterPassUptoRow : OpenClaim := { program := "ytciohcipmkhneaa", sum := "45001933bfa39ab830a2c103c9b9ba565553b078a6765b688a22c241f154f842", func := "loop.example/g01019/laws.FnExactAfterPass", spec := "fnExactAfterPass", apart := false, narrowed := true }
def FnExactAfterPassUptoSaid : Prop := fnExactAfterPassUptoRow.holds Try.pinned (OpenSpec.upto fnExactAfterPassSpec)

/-- 'laws.FnExactAfterPasses', WHERE WHAT IT READS IS OF BULK AT MOST 1048576: true; the input reads as it did. -/
def fnExactAfterPassesUptoRow : OpenClaim := { program := "ytciohcipmkhneaa", sum := "45001933bfa39ab830a2c103c9b9ba565553b078a6765b688a22c241f154f842", func := "loop.example/g01019/laws.FnExactAfterPasses", spec := "fnExactAfterPasses", apart := false, narrowed := true }
def FnExactAfterPassesUptoSaid : Prop := fnExactAfterPassesUptoRow.holds Try.pinned (OpenSpec.upto fnExactAfterPassesSpec)

/-- 'laws.FnExactPassesToEmpty', WHERE WHAT IT READS IS OF BULK AT MOST 1048576: true; the input reads as it did. -/
def fnExactPassesToEmptyUptoRow : OpenClaim := { program := "ytciohcipmkhneaa", sum := "45001933bfa39ab830a2c103c9b9ba565553b078a6765b688a22c241f154f842", func := "loop.example/g01019/laws.FnExactPassesToEmpty", spec := "fnExactPassesToEmpty", apart := false, narrowed := true }
def FnExactPassesToEmptyUptoSaid : Prop := fnExactPassesToEmptyUptoRow.holds Try.pinned (OpenSpec.upto fnExactPassesToEmptySpec)

/-- 'laws.FnExactFillFirst', WHERE WHAT IT READS IS OF BULK AT MOST 1048576: true; the input reads as it did. -/
def fnExactFillFirstUptoRow : OpenClaim := { program := "ytciohcipmkhneaa", sum := "45001933bfa39ab830a2c103c9b9ba565553b078a6765b688a22c241f154f842", func := "loop.example/g01019/laws.FnExactFillFirst", spec := "fnExactFillFirst", apart := false, narrowed := true }
def FnExactFillFirstUptoSaid : Prop := fnExactFillFirstUptoRow.holds Try.pinned (OpenSpec.upto fnExactFillFirstSpec)

/-- 'laws.FnExactSunOnSeries', WHERE WHAT IT READS IS OF BULK AT MOST 1048576: true; the input reads as it did. -/
def fnExactSunOnSeriesUptoRow : OpenClaim := { program := "ytciohcipmkhneaa", sum := "45001933bfa39ab830a2c103c9b9ba565553b078a6765b688a22c241f154f842", func := "loop.example/g01019/laws.FnExactSunOnSeries", spec := "fnExactSunOnSeries", apart := false, narrowed := true }
def FnExactSunOnSeriesUptoSaid : Prop := fnExactSunOnSeriesUptoRow.holds Try.pinned (OpenSpec.upto fnExactSunOnSeriesSpec)

/-- 'laws.FnExactStrongestBasin', WHERE WHAT IT READS IS OF BULK AT MOST 1048576: true; the input reads as it did. -/
def fnExactStrongestBasinUptoRow : OpenClaim := { program := "ytciohcipmkhneaa", sum := "45001933bfa39ab830a2c103c9b9ba565553b078a6765b688a22c241f154f842", func := "loop.example/g01019/laws.FnExactStrongestBasin", spec := "fnExactStrongestBasin", apart := false, narrowed := true }
def FnExactStrongestBasinUptoSaid : Prop := fnExactStrongestBasinUptoRow.holds Try.pinned (OpenSpec.upto fnExactStrongestBasinSpec)

/-- 'laws.FnExactDepthOrder', WHERE WHAT IT READS IS OF BULK AT MOST 1048576: true; the input reads as it did. -/
def fnExactDepthOrderUptoRow : OpenClaim := { program := "ytciohcipmkhneaa", sum := "45001933bfa39ab830a2c103c9b9ba565553b078a6765b688a22c241f154f842", func := "loop.example/g01019/laws.FnExactDepthOrder", spec := "fnExactDepthOrder", unfollowed := true, recurses := true, apart := false, narrowed := true }
def FnExactDepthOrderUptoSaid : Prop := fnExactDepthOrderUptoRow.holds Try.pinned (OpenSpec.upto fnExactDepthOrderSpec)

end Rows
end Go.Proofs.Ytciohcipmkhneaa
