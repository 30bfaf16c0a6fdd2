/-
  No cell of these rows narrows 'for every input' (looked for: loops, veiled, ifaces, maps, wideKeys, modest, calm, conditions, laid).
  DERIVED. THE GIVEN ROWS OF THIS SEAT. 12 by the template 'for every input the law returns true; each argument reads behind the call as it read before'; 0 by the template 'total and deterministic' (their statements: YtpbmncecejchjaaTotals.lean).
  GIVEN WITH THE SEED: the statements are not yours to turn. If you find one false, say at which input.
  Laid BY PROGRAM, IN A SANDBOX (cutbox-rows.mjs): the forced cells as the released guide's own fill.sh prints them over the translation 30675a7f4fe94eb1… (all of the seat's roots in one cut). By AI agents, Wed Nov 11 2026. No macro, syntax, notation, axiom, sorry.
-/
import Derived.Test.YtpbmncecejchjaaChecked
import GoSem.Claim
import GoSem.ClaimJoined
import GoSem.ClaimMapViews
import Derived.JoinedTies
import Derived.KernelRfl
namespace Go.Proofs.Ytpbmncecejchjaa
/- THE CELL 'sum', in the pinned program and in every row, IS THE sha256 OF THE DUMP (.gsa) THAT YtpbmncecejchjaaProg.lean LOADS. Nothing in Lean hashes anything: it is a label: what it is worth is what the hold of that sum in a sandbox is worth. -/
noncomputable def Try.pinned : Pinned := { name := "ytpbmncecejchjaa", sum := "30675a7f4fe94eb126e5dfe657059b75ee0433e16ee31d74211cc29f0ae1a032", checked := Try.checked }
namespace Rows
def none {H : Type} : Left H := { results := [], args := [] }

/-- 'laws.FnRain': WHATEVER THE INPUT: true; the input reads as it did. -/
def fnRainSpec : ChangeSpec := { name := "fnRain", fn := fun _ => fun
  | [d] => { results := [.lit (.bool true)], args := [d] }
  | _ => none }
def fnRainRow : OpenClaim := { program := "ytpbmncecejchjaa", sum := "30675a7f4fe94eb126e5dfe657059b75ee0433e16ee31d74211cc29f0ae1a032", func := "loop.example/g01019/laws.FnRain", spec := "fnRain", apart := false }
def FnRainSaid : Prop := fnRainRow.holds Try.pinned (OpenSpec.ofChange fnRainSpec)

/-- ITS FALSE NEIGHBOUR: 'it returns false'. Refute it at one input. -/
def fnRainWrong : ChangeSpec := { name := "fnRain", fn := fun _ => fun
  | [d] => { results := [.lit (.bool false)], args := [d] }
  | _ => none }
def FnRainWrongFalsely : Prop := fnRainRow.holds Try.pinned (OpenSpec.ofChange fnRainWrong)

/-- 'laws.FnDrySpans': WHATEVER THE INPUT: true; the input reads as it did. -/
def fnDrySpansSpec : ChangeSpec := { name := "fnDrySpans", fn := fun _ => fun
  | [d] => { results := [.lit (.bool true)], args := [d] }
  | _ => none }
def fnDrySpansRow : OpenClaim := { program := "ytpbmncecejchjaa", sum := "30675a7f4fe94eb126e5dfe657059b75ee0433e16ee31d74211cc29f0ae1a032", func := "loop.example/g01019/laws.FnDrySpans", spec := "fnDrySpans", unfollowed := true, recurses := true, apart := false }
def FnDrySpansSaid : Prop := fnDrySpansRow.holds Try.pinned (OpenSpec.ofChange fnDrySpansSpec)

/-- ITS FALSE NEIGHBOUR: 'it returns false'. Refute it at one input. -/
def fnDrySpansWrong : ChangeSpec := { name := "fnDrySpans", fn := fun _ => fun
  | [d] => { results := [.lit (.bool false)], args := [d] }
  | _ => none }
def FnDrySpansWrongFalsely : Prop := fnDrySpansRow.holds Try.pinned (OpenSpec.ofChange fnDrySpansWrong)

/-- 'laws.FnExactAreShowers': WHATEVER THE INPUT: true; the input reads as it did. -/
def fnExactAreShowersSpec : ChangeSpec := { name := "fnExactAreShowers", fn := fun _ => fun
  | [d] => { results := [.lit (.bool true)], args := [d] }
  | _ => none }
def fnExactAreShowersRow : OpenClaim := { program := "ytpbmncecejchjaa", sum := "30675a7f4fe94eb126e5dfe657059b75ee0433e16ee31d74211cc29f0ae1a032", func := "loop.example/g01019/laws.FnExactAreShowers", spec := "fnExactAreShowers", apart := false }
def FnExactAreShowersSaid : Prop := fnExactAreShowersRow.holds Try.pinned (OpenSpec.ofChange fnExactAreShowersSpec)

/-- ITS FALSE NEIGHBOUR: 'it returns false'. Refute it at one input. -/
def fnExactAreShowersWrong : ChangeSpec := { name := "fnExactAreShowers", fn := fun _ => fun
  | [d] => { results := [.lit (.bool false)], args := [d] }
  | _ => none }
def FnExactAreShowersWrongFalsely : Prop := fnExactAreShowersRow.holds Try.pinned (OpenSpec.ofChange fnExactAreShowersWrong)

/-- 'laws.FnExactRainOnArea': WHATEVER THE INPUT: true; the input reads as it did. -/
def fnExactRainOnAreaSpec : ChangeSpec := { name := "fnExactRainOnArea", fn := fun _ => fun
  | [d1, d2, d3] => { results := [.lit (.bool true)], args := [d1, d2, d3] }
  | _ => none }
def fnExactRainOnAreaRow : OpenClaim := { program := "ytpbmncecejchjaa", sum := "30675a7f4fe94eb126e5dfe657059b75ee0433e16ee31d74211cc29f0ae1a032", func := "loop.example/g01019/laws.FnExactRainOnArea", spec := "fnExactRainOnArea", apart := false }
def FnExactRainOnAreaSaid : Prop := fnExactRainOnAreaRow.holds Try.pinned (OpenSpec.ofChange fnExactRainOnAreaSpec)

/-- ITS FALSE NEIGHBOUR: 'it returns false'. Refute it at one input. -/
def fnExactRainOnAreaWrong : ChangeSpec := { name := "fnExactRainOnArea", fn := fun _ => fun
  | [d1, d2, d3] => { results := [.lit (.bool false)], args := [d1, d2, d3] }
  | _ => none }
def FnExactRainOnAreaWrongFalsely : Prop := fnExactRainOnAreaRow.holds Try.pinned (OpenSpec.ofChange fnExactRainOnAreaWrong)

/-- 'laws.FnExactAfterRain': WHATEVER THE INPUT: true; the input reads as it did. -/
def fnExactAfterRainSpec : ChangeSpec := { name := "fnExactAfterRain", fn := fun _ => fun
  | [d1, d2, d3, d4, d5] => { results := [.lit (.bool true)], args := [d1, d2, d3, d4, d5] }
  | _ => none }
def fnExactAfterRainRow : OpenClaim := { program := "ytpbmncecejchjaa", sum := "30675a7f4fe94eb126e5dfe657059b75ee0433e16ee31d74211cc29f0ae1a032", func := "loop.example/g01019/laws.FnExactAfterRain", spec := "fnExactAfterRain", apart := false }
def FnExactAfterRainSaid : Prop := fnExactAfterRainRow.holds Try.pinned (OpenSpec.ofChange fnExactAfterRainSpec)

/-- ITS FALSE NEIGHBOUR: 'it returns false'. Refute it at one input. -/
def fnExactAfterRainWrong : ChangeSpec := { name := "fnExactAfterRain", fn := fun _ => fun
  | [d1, d2, d3, d4, d5] => { results := [.lit (.bool false)], args := [d1, d2, d3, d4, d5] }
  | _ => none }
def FnExactAfterRainWrongFalsely : Prop := fnExactAfterRainRow.holds Try.pinned (OpenSpec.ofChange fnExactAfterRainWrong)

/-- 'laws.FnExactRainBetween': WHATEVER THE INPUT: true; the input reads as it did. -/
def fnExactRainBetweenSpec : ChangeSpec := { name := "fnExactRainBetween", fn := fun _ => fun
  | [d1, d2, d3, d4] => { results := [.lit (.bool true)], args := [d1, d2, d3, d4] }
  | _ => none }
def fnExactRainBetweenRow : OpenClaim := { program := "ytpbmncecejchjaa", sum := "30675a7f4fe94eb126e5dfe657059b75ee0433e16ee31d74211cc29f0ae1a032", func := "loop.example/g01019/laws.FnExactRainBetween", spec := "fnExactRainBetween", apart := false }
def FnExactRainBetweenSaid : Prop := fnExactRainBetweenRow.holds Try.pinned (OpenSpec.ofChange fnExactRainBetweenSpec)

/-- ITS FALSE NEIGHBOUR: 'it returns false'. Refute it at one input. -/
def fnExactRainBetweenWrong : ChangeSpec := { name := "fnExactRainBetween", fn := fun _ => fun
  | [d1, d2, d3, d4] => { results := [.lit (.bool false)], args := [d1, d2, d3, d4] }
  | _ => none }
def FnExactRainBetweenWrongFalsely : Prop := fnExactRainBetweenRow.holds Try.pinned (OpenSpec.ofChange fnExactRainBetweenWrong)

/-- 'laws.FnExactDrySpans': WHATEVER THE INPUT: true; the input reads as it did. -/
def fnExactDrySpansSpec : ChangeSpec := { name := "fnExactDrySpans", fn := fun _ => fun
  | [d1, d2, d3] => { results := [.lit (.bool true)], args := [d1, d2, d3] }
  | _ => none }
def fnExactDrySpansRow : OpenClaim := { program := "ytpbmncecejchjaa", sum := "30675a7f4fe94eb126e5dfe657059b75ee0433e16ee31d74211cc29f0ae1a032", func := "loop.example/g01019/laws.FnExactDrySpans", spec := "fnExactDrySpans", unfollowed := true, recurses := true, apart := false }
def FnExactDrySpansSaid : Prop := fnExactDrySpansRow.holds Try.pinned (OpenSpec.ofChange fnExactDrySpansSpec)

/-- ITS FALSE NEIGHBOUR: 'it returns false'. Refute it at one input. -/
def fnExactDrySpansWrong : ChangeSpec := { name := "fnExactDrySpans", fn := fun _ => fun
  | [d1, d2, d3] => { results := [.lit (.bool false)], args := [d1, d2, d3] }
  | _ => none }
def FnExactDrySpansWrongFalsely : Prop := fnExactDrySpansRow.holds Try.pinned (OpenSpec.ofChange fnExactDrySpansWrong)

/-- 'laws.FnExactLongestDry': WHATEVER THE INPUT: true; the input reads as it did. -/
def fnExactLongestDrySpec : ChangeSpec := { name := "fnExactLongestDry", fn := fun _ => fun
  | [d1, d2, d3] => { results := [.lit (.bool true)], args := [d1, d2, d3] }
  | _ => none }
def fnExactLongestDryRow : OpenClaim := { program := "ytpbmncecejchjaa", sum := "30675a7f4fe94eb126e5dfe657059b75ee0433e16ee31d74211cc29f0ae1a032", func := "loop.example/g01019/laws.FnExactLongestDry", spec := "fnExactLongestDry", unfollowed := true, recurses := true, apart := false }
def FnExactLongestDrySaid : Prop := fnExactLongestDryRow.holds Try.pinned (OpenSpec.ofChange fnExactLongestDrySpec)

/-- ITS FALSE NEIGHBOUR: 'it returns false'. Refute it at one input. -/
def fnExactLongestDryWrong : ChangeSpec := { name := "fnExactLongestDry", fn := fun _ => fun
  | [d1, d2, d3] => { results := [.lit (.bool false)], args := [d1, d2, d3] }
  | _ => none }
def FnExactLongestDryWrongFalsely : Prop := fnExactLongestDryRow.holds Try.pinned (OpenSpec.ofChange fnExactLongestDryWrong)

/-- 'laws.FnExactCoverNeeded': WHATEVER THE INPUT: true; the input reads as it did. -/
def fnExactCoverNeededSpec : ChangeSpec := { name := "fnExactCoverNeeded", fn := fun _ => fun
  | [d1, d2, d3, d4, d5] => { results := [.lit (.bool true)], args := [d1, d2, d3, d4, d5] }
  | _ => none }
def fnExactCoverNeededRow : OpenClaim := { program := "ytpbmncecejchjaa", sum := "30675a7f4fe94eb126e5dfe657059b75ee0433e16ee31d74211cc29f0ae1a032", func := "loop.example/g01019/laws.FnExactCoverNeeded", spec := "fnExactCoverNeeded", apart := false }
def FnExactCoverNeededSaid : Prop := fnExactCoverNeededRow.holds Try.pinned (OpenSpec.ofChange fnExactCoverNeededSpec)

/-- ITS FALSE NEIGHBOUR: 'it returns false'. Refute it at one input. -/
def fnExactCoverNeededWrong : ChangeSpec := { name := "fnExactCoverNeeded", fn := fun _ => fun
  | [d1, d2, d3, d4, d5] => { results := [.lit (.bool false)], args := [d1, d2, d3, d4, d5] }
  | _ => none }
def FnExactCoverNeededWrongFalsely : Prop := fnExactCoverNeededRow.holds Try.pinned (OpenSpec.ofChange fnExactCoverNeededWrong)

/-- 'laws.FnExactNetOn': WHATEVER THE INPUT: true; the input reads as it did. -/
def fnExactNetOnSpec : ChangeSpec := { name := "fnExactNetOn", fn := fun _ => fun
  | [d1, d2, d3, d4, d5] => { results := [.lit (.bool true)], args := [d1, d2, d3, d4, d5] }
  | _ => none }
def fnExactNetOnRow : OpenClaim := { program := "ytpbmncecejchjaa", sum := "30675a7f4fe94eb126e5dfe657059b75ee0433e16ee31d74211cc29f0ae1a032", func := "loop.example/g01019/laws.FnExactNetOn", spec := "fnExactNetOn", apart := false }
def FnExactNetOnSaid : Prop := fnExactNetOnRow.holds Try.pinned (OpenSpec.ofChange fnExactNetOnSpec)

/-- ITS FALSE NEIGHBOUR: 'it returns false'. Refute it at one input. -/
def fnExactNetOnWrong : ChangeSpec := { name := "fnExactNetOn", fn := fun _ => fun
  | [d1, d2, d3, d4, d5] => { results := [.lit (.bool false)], args := [d1, d2, d3, d4, d5] }
  | _ => none }
def FnExactNetOnWrongFalsely : Prop := fnExactNetOnRow.holds Try.pinned (OpenSpec.ofChange fnExactNetOnWrong)

/-- 'laws.FnExactWettestDay': WHATEVER THE INPUT: true; the input reads as it did. -/
def fnExactWettestDaySpec : ChangeSpec := { name := "fnExactWettestDay", fn := fun _ => fun
  | [d] => { results := [.lit (.bool true)], args := [d] }
  | _ => none }
def fnExactWettestDayRow : OpenClaim := { program := "ytpbmncecejchjaa", sum := "30675a7f4fe94eb126e5dfe657059b75ee0433e16ee31d74211cc29f0ae1a032", func := "loop.example/g01019/laws.FnExactWettestDay", spec := "fnExactWettestDay", apart := false }
def FnExactWettestDaySaid : Prop := fnExactWettestDayRow.holds Try.pinned (OpenSpec.ofChange fnExactWettestDaySpec)

/-- ITS FALSE NEIGHBOUR: 'it returns false'. Refute it at one input. -/
def fnExactWettestDayWrong : ChangeSpec := { name := "fnExactWettestDay", fn := fun _ => fun
  | [d] => { results := [.lit (.bool false)], args := [d] }
  | _ => none }
def FnExactWettestDayWrongFalsely : Prop := fnExactWettestDayRow.holds Try.pinned (OpenSpec.ofChange fnExactWettestDayWrong)

/-- 'laws.FnStacks': WHATEVER THE INPUT: true; the input reads as it did. -/
def fnStacksSpec : ChangeSpec := { name := "fnStacks", fn := fun _ => fun
  | [d] => { results := [.lit (.bool true)], args := [d] }
  | _ => none }
def fnStacksRow : OpenClaim := { program := "ytpbmncecejchjaa", sum := "30675a7f4fe94eb126e5dfe657059b75ee0433e16ee31d74211cc29f0ae1a032", func := "loop.example/g01019/laws.FnStacks", spec := "fnStacks", unfollowed := true, recurses := true, apart := false }
def FnStacksSaid : Prop := fnStacksRow.holds Try.pinned (OpenSpec.ofChange fnStacksSpec)

/-- ITS FALSE NEIGHBOUR: 'it returns false'. Refute it at one input. -/
def fnStacksWrong : ChangeSpec := { name := "fnStacks", fn := fun _ => fun
  | [d] => { results := [.lit (.bool false)], args := [d] }
  | _ => none }
def FnStacksWrongFalsely : Prop := fnStacksRow.holds Try.pinned (OpenSpec.ofChange fnStacksWrong)

/- THE SECOND FORM. 'bulk': how many values and letters a reading holds, each counted each time it is reached (what is shared counts as often as it is met; a slice's spare places count too). A statement '..UptoSaid' is the law's where the arguments, and the package variables that the reading takes, are together of bulk at most 1048576: NARROWER than '..Said'. Prove '..Said' where nothing that the law and all that it calls make is longer than what came in: it says more and counts as full. Else prove '..UptoSaid'. A law counts once. -/
mutual
def uptoBulk {H : Type} : DataW H → Nat
  | .lit (.string bytes) => bytes.length + 1
  | .lit _ => 1
  | .nil => 1
  | .ptr d => uptoBulk d + 1
  | .slice elems spare => uptoBulkAll elems + uptoBulkAll spare + 1
  | .agg parts => uptoBulkAll parts + 1
  | .iface _ d => uptoBulk d + 1
  | .map entries => uptoBulkEntries entries + 1
  | .held _ => 1
def uptoBulkAll {H : Type} : List (DataW H) → Nat
  | [] => 0
  | d :: r => uptoBulk d + uptoBulkAll r
def uptoBulkEntries {H : Type} : List (Lit × DataW H) → Nat
  | [] => 0
  | x :: r => uptoBulkEntry x + uptoBulkEntries r
def uptoBulkEntry {H : Type} : Lit × DataW H → Nat
  | (.string bytes, d) => bytes.length + uptoBulk d + 1
  | (_, d) => uptoBulk d + 1
 end
def uptoSmall : (H : Type) → List (DataW H) → Bool := fun _ ds => decide (uptoBulkAll ds ≤ 1048576)
def OpenSpec.upto (s : _root_.Go.ChangeSpec) : _root_.Go.OpenSpec := { _root_.Go.OpenSpec.ofChange s with cond := some uptoSmall }

/-- 'laws.FnRain', WHERE WHAT IT READS IS OF BULK AT MOST 1048576: true; the input reads as it did. -/
def fnRainUptoRow : OpenClaim := { program := "ytpbmncecejchjaa", sum := "30675a7f4fe94eb126e5dfe657059b75ee0433e16ee31d74211cc29f0ae1a032", func := "loop.example/g01019/laws.FnRain", spec := "fnRain", apart := false, narrowed := true }
def FnRainUptoSaid : Prop := fnRainUptoRow.holds Try.pinned (OpenSpec.upto fnRainSpec)

/-- 'laws.FnDrySpans', WHERE WHAT IT READS IS OF BULK AT MOST 1048576: true; the input reads as it did. -/
def fnDrySpansUptoRow : OpenClaim := { program := "ytpbmncecejchjaa", sum := "30675a7f4fe94eb126e5dfe657059b75ee0433e16ee31d74211cc29f0ae1a032", func := "loop.example/g01019/laws.FnDrySpans", spec := "fnDrySpans", unfollowed := true, recurses := true, apart := false, narrowed := true }
def FnDrySpansUptoSaid : Prop := fnDrySpansUptoRow.holds Try.pinned (OpenSpec.upto fnDrySpansSpec)

/-- 'laws.FnExactAreShowers', WHERE WHAT IT READS IS OF BULK AT MOST 1048576: true; the input reads as it did. -/
def fnExactAreShowersUptoRow : OpenClaim := { program := "ytpbmncecejchjaa", sum := "30675a7f4fe94eb126e5dfe657059b75ee0433e16ee31d74211cc29f0ae1a032", func := "loop.example/g01019/laws.FnExactAreShowers", spec := "fnExactAreShowers", apart := false, narrowed := true }
def FnExactAreShowersUptoSaid : Prop := fnExactAreShowersUptoRow.holds Try.pinned (OpenSpec.upto fnExactAreShowersSpec)

/-- 'laws.FnExactRainOnArea', WHERE WHAT IT READS IS OF BULK AT MOST 1048576: true; the input reads as it did. -/
def fnExactRainOnAreaUptoRow : OpenClaim := { program := "ytpbmncecejchjaa", sum := "30675a7f4fe94eb126e5dfe657059b75ee0433e16ee31d74211cc29f0ae1a032", func := "loop.example/g01019/laws.FnExactRainOnArea", spec := "fnExactRainOnArea", apart := false, narrowed := true }
def FnExactRainOnAreaUptoSaid : Prop := fnExactRainOnAreaUptoRow.holds Try.pinned (OpenSpec.upto fnExactRainOnAreaSpec)

/-- 'laws.FnExactAfterRain', WHERE WHAT IT READS IS OF BULK AT MOST 1048576: true; the input reads as it did. -/
def fnExactAfterRainUptoRow : OpenClaim := { program := "ytpbmncecejchjaa", sum := "30675a7f4fe94eb126e5dfe657059b75ee0433e16ee31d74211cc29f0ae1a032", func := "loop.example/g01019/laws.FnExactAfterRain", spec := "fnExactAfterRain", apart := false, narrowed := true }
def FnExactAfterRainUptoSaid : Prop := fnExactAfterRainUptoRow.holds Try.pinned (OpenSpec.upto fnExactAfterRainSpec)

/-- 'laws.FnExactRainBetween', WHERE WHAT IT READS IS OF BULK AT MOST 1048576: true; the input reads as it did. -/
def fnExactRainBetweenUptoRow : OpenClaim := { program := "ytpbmncecejchjaa", sum := "30675a7f4fe94eb126e5dfe657059b75ee0433e16ee31d74211cc29f0ae1a032", func := "loop.example/g01019/laws.FnExactRainBetween", spec := "fnExactRainBetween", apart := false, narrowed := true }
def FnExactRainBetweenUptoSaid : Prop := fnExactRainBetweenUptoRow.holds Try.pinned (OpenSpec.upto fnExactRainBetweenSpec)

/-- 'laws.FnExactDrySpans', WHERE WHAT IT READS IS OF BULK AT MOST 1048576: true; the input reads as it did. -/
def fnExactDrySpansUptoRow : OpenClaim := { program := "ytpbmncecejchjaa", sum := "30675a7f4fe94eb126e5dfe657059b75ee0433e16ee31d74211cc29f0ae1a032", func := "loop.example/g01019/laws.FnExactDrySpans", spec := "fnExactDrySpans", unfollowed := true, recurses := true, apart := false, narrowed := true }
def FnExactDrySpansUptoSaid : Prop := fnExactDrySpansUptoRow.holds Try.pinned (OpenSpec.upto fnExactDrySpansSpec)

/-- 'laws.FnExactLongestDry', WHERE WHAT IT READS IS OF BULK AT MOST 1048576: true; the input reads as it did. -/
def fnExactLongestDryUptoRow : OpenClaim := { program := "ytpbmncecejchjaa", sum := "30675a7f4fe94eb126e5dfe657059b75ee0433e16ee31d74211cc29f0ae1a032", func := "loop.example/g01019/laws.FnExactLongestDry", spec := "fnExactLongestDry", unfollowed := true, recurses := true, apart := false, narrowed := true }
def FnExactLongestDryUptoSaid : Prop := fnExactLongestDryUptoRow.holds Try.pinned (OpenSpec.upto fnExactLongestDrySpec)

/-- 'laws.FnExactCoverNeeded', WHERE WHAT IT READS IS OF BULK AT MOST 1048576: true; the input reads as it did. -/
def fnExactCoverNeededUptoRow : OpenClaim := { program := "ytpbmncecejchjaa", sum := "30675a7f4fe94eb126e5dfe657059b75ee0433e16ee31d74211cc29f0ae1a032", func := "loop.example/g01019/laws.FnExactCoverNeeded", spec := "fnExactCoverNeeded", apart := false, narrowed := true }
def FnExactCoverNeededUptoSaid : Prop := fnExactCoverNeededUptoRow.holds Try.pinned (OpenSpec.upto fnExactCoverNeededSpec)

/-- 'laws.FnExactNetOn', WHERE WHAT IT READS IS OF BULK AT MOST 1048576: true; the input reads as it did. -/
def fnExactNetOnUptoRow : OpenClaim := { program := "ytpbmncecejchjaa", sum := "30675a7f4fe94eb126e5dfe657059b75ee0433e16ee31d74211cc29f0ae1a032", func := "loop.example/g01019/laws.FnExactNetOn", spec := "fnExactNetOn", apart := false, narrowed := true }
def FnExactNetOnUptoSaid : Prop := fnExactNetOnUptoRow.holds Try.pinned (OpenSpec.upto fnExactNetOnSpec)

/-- 'laws.FnExactWettestDay', WHERE WHAT IT READS IS OF BULK AT MOST 1048576: true; the input reads as it did. -/
def fnExactWettestDayUptoRow : OpenClaim := { program := "ytpbmncecejchjaa", sum := "30675a7f4fe94eb126e5dfe657059b75ee0433e16ee31d74211cc29f0ae1a032", func := "loop.example/g01019/laws.FnExactWettestDay", spec := "fnExactWettestDay", apart := false, narrowed := true }
def FnExactWettestDayUptoSaid : Prop := fnExactWettestDayUptoRow.holds Try.pinned (OpenSpec.upto fnExactWettestDaySpec)

/-- 'laws.FnStacks', WHERE WHAT IT READS IS OF BULK AT MOST 1048576: true; the input reads as it did. -/
def fnStacksUptoRow : OpenClaim := { program := "ytpbmncecejchjaa", sum := "30675a7f4fe94eb126e5dfe657059b75ee0433e16ee31d74211cc29f0ae1a032", func := "loop.example/g01019/laws.FnStacks", spec := "fnStacks", unfollowed := true, recurses := true, apart := false, narrowed := true }
def FnStacksUptoSaid : Prop := fnStacksUptoRow.holds Try.pinned (OpenSpec.upto fnStacksSpec)

end Rows
end Go.Proofs.Ytpbmncecejchjaa
