/-
  No cell of these rows narrows 'for every input' (looked for: loops, veiled, ifaces, maps, wideKeys, modest, calm, conditions, laid).
  DERIVED. THE GIVEN ROWS OF THIS SEAT. 11 by the template 'for every input the law returns true; each argument reads behind the call as it read before'; 0 by the template 'total and deterministic' (their statements: YtoompggbdedkmaaTotals.lean).
  GIVEN WITH THE SEED: the statements are not yours to turn. If you find one false, say at which input.
  Laid BY PROGRAM, IN A SANDBOX (cutbox-rows.mjs): the forced cells as the released guide's own fill.sh prints them over the translation 073eea86026d55c3… (all of the seat's roots in one cut). By AI agents, Wed Nov 11 2026. No macro, syntax, notation, axiom, sorry.
-/
import Derived.Test.YtoompggbdedkmaaChecked
import GoSem.Claim
import GoSem.ClaimJoined
import GoSem.ClaimMapViews
import Derived.JoinedTies
import Derived.KernelRfl
namespace Go.Proofs.Ytoompggbdedkmaa
/- THE CELL 'sum', in the pinned program and in every row, IS THE sha256 OF THE DUMP (.gsa) THAT YtoompggbdedkmaaProg.lean LOADS. Nothing in Lean hashes anything: it is a label: what it is worth is what the hold of that sum in a sandbox is worth. -/
noncomputable def Try.pinned : Pinned := { name := "ytoompggbdedkmaa", sum := "073eea86026d55c334812b8a570cdad1fe5fa3c94ef62fb2dc16ccf23c7c6f7d", checked := Try.checked }
namespace Rows
def none {H : Type} : Left H := { results := [], args := [] }

/-- 'laws.FnStacks': WHATEVER THE INPUT: true; the input reads as it did. -/
def fnStacksSpec : ChangeSpec := { name := "fnStacks", fn := fun _ => fun
  | [d] => { results := [.lit (.bool true)], args := [d] }
  | _ => none }
def fnStacksRow : OpenClaim := { program := "ytoompggbdedkmaa", sum := "073eea86026d55c334812b8a570cdad1fe5fa3c94ef62fb2dc16ccf23c7c6f7d", func := "loop.example/g01019/laws.FnStacks", spec := "fnStacks", unfollowed := true, recurses := true, apart := false }
def FnStacksSaid : Prop := fnStacksRow.holds Try.pinned (OpenSpec.ofChange fnStacksSpec)

/-- ITS FALSE NEIGHBOUR: 'it returns false'. Refute it at one input. -/
def fnStacksWrong : ChangeSpec := { name := "fnStacks", fn := fun _ => fun
  | [d] => { results := [.lit (.bool false)], args := [d] }
  | _ => none }
def FnStacksWrongFalsely : Prop := fnStacksRow.holds Try.pinned (OpenSpec.ofChange fnStacksWrong)

/-- 'laws.FnExactIsHeap': WHATEVER THE INPUT: true; the input reads as it did. -/
def fnExactIsHeapSpec : ChangeSpec := { name := "fnExactIsHeap", fn := fun _ => fun
  | [d] => { results := [.lit (.bool true)], args := [d] }
  | _ => none }
def fnExactIsHeapRow : OpenClaim := { program := "ytoompggbdedkmaa", sum := "073eea86026d55c334812b8a570cdad1fe5fa3c94ef62fb2dc16ccf23c7c6f7d", func := "loop.example/g01019/laws.FnExactIsHeap", spec := "fnExactIsHeap", apart := false }
def FnExactIsHeapSaid : Prop := fnExactIsHeapRow.holds Try.pinned (OpenSpec.ofChange fnExactIsHeapSpec)

/-- ITS FALSE NEIGHBOUR: 'it returns false'. Refute it at one input. -/
def fnExactIsHeapWrong : ChangeSpec := { name := "fnExactIsHeap", fn := fun _ => fun
  | [d] => { results := [.lit (.bool false)], args := [d] }
  | _ => none }
def FnExactIsHeapWrongFalsely : Prop := fnExactIsHeapRow.holds Try.pinned (OpenSpec.ofChange fnExactIsHeapWrong)

/-- 'laws.FnExactAreHeaps': WHATEVER THE INPUT: true; the input reads as it did. -/
def fnExactAreHeapsSpec : ChangeSpec := { name := "fnExactAreHeaps", fn := fun _ => fun
  | [d] => { results := [.lit (.bool true)], args := [d] }
  | _ => none }
def fnExactAreHeapsRow : OpenClaim := { program := "ytoompggbdedkmaa", sum := "073eea86026d55c334812b8a570cdad1fe5fa3c94ef62fb2dc16ccf23c7c6f7d", func := "loop.example/g01019/laws.FnExactAreHeaps", spec := "fnExactAreHeaps", apart := false }
def FnExactAreHeapsSaid : Prop := fnExactAreHeapsRow.holds Try.pinned (OpenSpec.ofChange fnExactAreHeapsSpec)

/-- ITS FALSE NEIGHBOUR: 'it returns false'. Refute it at one input. -/
def fnExactAreHeapsWrong : ChangeSpec := { name := "fnExactAreHeaps", fn := fun _ => fun
  | [d] => { results := [.lit (.bool false)], args := [d] }
  | _ => none }
def FnExactAreHeapsWrongFalsely : Prop := fnExactAreHeapsRow.holds Try.pinned (OpenSpec.ofChange fnExactAreHeapsWrong)

/-- 'laws.FnExactTonsOf': WHATEVER THE INPUT: true; the input reads as it did. -/
def fnExactTonsOfSpec : ChangeSpec := { name := "fnExactTonsOf", fn := fun _ => fun
  | [d1, d2] => { results := [.lit (.bool true)], args := [d1, d2] }
  | _ => none }
def fnExactTonsOfRow : OpenClaim := { program := "ytoompggbdedkmaa", sum := "073eea86026d55c334812b8a570cdad1fe5fa3c94ef62fb2dc16ccf23c7c6f7d", func := "loop.example/g01019/laws.FnExactTonsOf", spec := "fnExactTonsOf", apart := false }
def FnExactTonsOfSaid : Prop := fnExactTonsOfRow.holds Try.pinned (OpenSpec.ofChange fnExactTonsOfSpec)

/-- ITS FALSE NEIGHBOUR: 'it returns false'. Refute it at one input. -/
def fnExactTonsOfWrong : ChangeSpec := { name := "fnExactTonsOf", fn := fun _ => fun
  | [d1, d2] => { results := [.lit (.bool false)], args := [d1, d2] }
  | _ => none }
def FnExactTonsOfWrongFalsely : Prop := fnExactTonsOfRow.holds Try.pinned (OpenSpec.ofChange fnExactTonsOfWrong)

/-- 'laws.FnExactPutLayer': WHATEVER THE INPUT: true; the input reads as it did. -/
def fnExactPutLayerSpec : ChangeSpec := { name := "fnExactPutLayer", fn := fun _ => fun
  | [d1, d2, d3, d4] => { results := [.lit (.bool true)], args := [d1, d2, d3, d4] }
  | _ => none }
def fnExactPutLayerRow : OpenClaim := { program := "ytoompggbdedkmaa", sum := "073eea86026d55c334812b8a570cdad1fe5fa3c94ef62fb2dc16ccf23c7c6f7d", func := "loop.example/g01019/laws.FnExactPutLayer", spec := "fnExactPutLayer", apart := false }
def FnExactPutLayerSaid : Prop := fnExactPutLayerRow.holds Try.pinned (OpenSpec.ofChange fnExactPutLayerSpec)

/-- ITS FALSE NEIGHBOUR: 'it returns false'. Refute it at one input. -/
def fnExactPutLayerWrong : ChangeSpec := { name := "fnExactPutLayer", fn := fun _ => fun
  | [d1, d2, d3, d4] => { results := [.lit (.bool false)], args := [d1, d2, d3, d4] }
  | _ => none }
def FnExactPutLayerWrongFalsely : Prop := fnExactPutLayerRow.holds Try.pinned (OpenSpec.ofChange fnExactPutLayerWrong)

/-- 'laws.FnExactHeapFor': WHATEVER THE INPUT: true; the input reads as it did. -/
def fnExactHeapForSpec : ChangeSpec := { name := "fnExactHeapFor", fn := fun _ => fun
  | [d1, d2, d3] => { results := [.lit (.bool true)], args := [d1, d2, d3] }
  | _ => none }
def fnExactHeapForRow : OpenClaim := { program := "ytoompggbdedkmaa", sum := "073eea86026d55c334812b8a570cdad1fe5fa3c94ef62fb2dc16ccf23c7c6f7d", func := "loop.example/g01019/laws.FnExactHeapFor", spec := "fnExactHeapFor", apart := false }
def FnExactHeapForSaid : Prop := fnExactHeapForRow.holds Try.pinned (OpenSpec.ofChange fnExactHeapForSpec)

/-- ITS FALSE NEIGHBOUR: 'it returns false'. Refute it at one input. -/
def fnExactHeapForWrong : ChangeSpec := { name := "fnExactHeapFor", fn := fun _ => fun
  | [d1, d2, d3] => { results := [.lit (.bool false)], args := [d1, d2, d3] }
  | _ => none }
def FnExactHeapForWrongFalsely : Prop := fnExactHeapForRow.holds Try.pinned (OpenSpec.ofChange fnExactHeapForWrong)

/-- 'laws.FnExactTakeTons': WHATEVER THE INPUT: true; the input reads as it did. -/
def fnExactTakeTonsSpec : ChangeSpec := { name := "fnExactTakeTons", fn := fun _ => fun
  | [d1, d2, d3] => { results := [.lit (.bool true)], args := [d1, d2, d3] }
  | _ => none }
def fnExactTakeTonsRow : OpenClaim := { program := "ytoompggbdedkmaa", sum := "073eea86026d55c334812b8a570cdad1fe5fa3c94ef62fb2dc16ccf23c7c6f7d", func := "loop.example/g01019/laws.FnExactTakeTons", spec := "fnExactTakeTons", apart := false }
def FnExactTakeTonsSaid : Prop := fnExactTakeTonsRow.holds Try.pinned (OpenSpec.ofChange fnExactTakeTonsSpec)

/-- ITS FALSE NEIGHBOUR: 'it returns false'. Refute it at one input. -/
def fnExactTakeTonsWrong : ChangeSpec := { name := "fnExactTakeTons", fn := fun _ => fun
  | [d1, d2, d3] => { results := [.lit (.bool false)], args := [d1, d2, d3] }
  | _ => none }
def FnExactTakeTonsWrongFalsely : Prop := fnExactTakeTonsRow.holds Try.pinned (OpenSpec.ofChange fnExactTakeTonsWrong)

/-- 'laws.FnExactRainOn': WHATEVER THE INPUT: true; the input reads as it did. -/
def fnExactRainOnSpec : ChangeSpec := { name := "fnExactRainOn", fn := fun _ => fun
  | [d1, d2] => { results := [.lit (.bool true)], args := [d1, d2] }
  | _ => none }
def fnExactRainOnRow : OpenClaim := { program := "ytoompggbdedkmaa", sum := "073eea86026d55c334812b8a570cdad1fe5fa3c94ef62fb2dc16ccf23c7c6f7d", func := "loop.example/g01019/laws.FnExactRainOn", spec := "fnExactRainOn", apart := false }
def FnExactRainOnSaid : Prop := fnExactRainOnRow.holds Try.pinned (OpenSpec.ofChange fnExactRainOnSpec)

/-- ITS FALSE NEIGHBOUR: 'it returns false'. Refute it at one input. -/
def fnExactRainOnWrong : ChangeSpec := { name := "fnExactRainOn", fn := fun _ => fun
  | [d1, d2] => { results := [.lit (.bool false)], args := [d1, d2] }
  | _ => none }
def FnExactRainOnWrongFalsely : Prop := fnExactRainOnRow.holds Try.pinned (OpenSpec.ofChange fnExactRainOnWrong)

/-- 'laws.FnExactCoverHeaps': WHATEVER THE INPUT: true; the input reads as it did. -/
def fnExactCoverHeapsSpec : ChangeSpec := { name := "fnExactCoverHeaps", fn := fun _ => fun
  | [d1, d2] => { results := [.lit (.bool true)], args := [d1, d2] }
  | _ => none }
def fnExactCoverHeapsRow : OpenClaim := { program := "ytoompggbdedkmaa", sum := "073eea86026d55c334812b8a570cdad1fe5fa3c94ef62fb2dc16ccf23c7c6f7d", func := "loop.example/g01019/laws.FnExactCoverHeaps", spec := "fnExactCoverHeaps", unfollowed := true, recurses := true, apart := false }
def FnExactCoverHeapsSaid : Prop := fnExactCoverHeapsRow.holds Try.pinned (OpenSpec.ofChange fnExactCoverHeapsSpec)

/-- ITS FALSE NEIGHBOUR: 'it returns false'. Refute it at one input. -/
def fnExactCoverHeapsWrong : ChangeSpec := { name := "fnExactCoverHeaps", fn := fun _ => fun
  | [d1, d2] => { results := [.lit (.bool false)], args := [d1, d2] }
  | _ => none }
def FnExactCoverHeapsWrongFalsely : Prop := fnExactCoverHeapsRow.holds Try.pinned (OpenSpec.ofChange fnExactCoverHeapsWrong)

/-- 'laws.FnExactStackLayers': WHATEVER THE INPUT: true; the input reads as it did. -/
def fnExactStackLayersSpec : ChangeSpec := { name := "fnExactStackLayers", fn := fun _ => fun
  | [d] => { results := [.lit (.bool true)], args := [d] }
  | _ => none }
def fnExactStackLayersRow : OpenClaim := { program := "ytoompggbdedkmaa", sum := "073eea86026d55c334812b8a570cdad1fe5fa3c94ef62fb2dc16ccf23c7c6f7d", func := "loop.example/g01019/laws.FnExactStackLayers", spec := "fnExactStackLayers", apart := false }
def FnExactStackLayersSaid : Prop := fnExactStackLayersRow.holds Try.pinned (OpenSpec.ofChange fnExactStackLayersSpec)

/-- ITS FALSE NEIGHBOUR: 'it returns false'. Refute it at one input. -/
def fnExactStackLayersWrong : ChangeSpec := { name := "fnExactStackLayers", fn := fun _ => fun
  | [d] => { results := [.lit (.bool false)], args := [d] }
  | _ => none }
def FnExactStackLayersWrongFalsely : Prop := fnExactStackLayersRow.holds Try.pinned (OpenSpec.ofChange fnExactStackLayersWrong)

/-- 'laws.FnExactHighestHeap': WHATEVER THE INPUT: true; the input reads as it did. -/
def fnExactHighestHeapSpec : ChangeSpec := { name := "fnExactHighestHeap", fn := fun _ => fun
  | [d] => { results := [.lit (.bool true)], args := [d] }
  | _ => none }
def fnExactHighestHeapRow : OpenClaim := { program := "ytoompggbdedkmaa", sum := "073eea86026d55c334812b8a570cdad1fe5fa3c94ef62fb2dc16ccf23c7c6f7d", func := "loop.example/g01019/laws.FnExactHighestHeap", spec := "fnExactHighestHeap", unfollowed := true, recurses := true, apart := false }
def FnExactHighestHeapSaid : Prop := fnExactHighestHeapRow.holds Try.pinned (OpenSpec.ofChange fnExactHighestHeapSpec)

/-- ITS FALSE NEIGHBOUR: 'it returns false'. Refute it at one input. -/
def fnExactHighestHeapWrong : ChangeSpec := { name := "fnExactHighestHeap", fn := fun _ => fun
  | [d] => { results := [.lit (.bool false)], args := [d] }
  | _ => none }
def FnExactHighestHeapWrongFalsely : Prop := fnExactHighestHeapRow.holds Try.pinned (OpenSpec.ofChange fnExactHighestHeapWrong)

/- THE SECOND FORM. 'bulk': how many values and letters a reading holds, each counted each time it is reached (what is shared counts as often as it is met; a slice's spare places count too). A statement '..UptoSaid' is the law's where the arguments, and the package variables that the reading takes, are together of bulk at most 1048576: NARROWER than '..Said'. Prove '..Said' where nothing that the law and all that it calls make is longer than what came in: it says more and counts as full. Else prove '..UptoSaid'. A law counts once. -/
mutual
def uptoBulk {H : Type} : DataW H → Nat
  | .lit (.string bytes) => bytes.length + 1
  | .lit _ => 1
  | .nil => 1
  | .ptr d => uptoBulk d + 1
  | .slice elems spare => uptoBulkAll elems + uptoBulkAll spare + 1
  | .agg parts => uptoBulkAll parts + 1
  | .iface _ d => uptoBulk d + 1
  | .map entries => uptoBulkEntries entries + 1
  | .held _ => 1
def uptoBulkAll {H : Type} : List (DataW H) → Nat
  | [] => 0
  | d :: r => uptoBulk d + uptoBulkAll r
def uptoBulkEntries {H : Type} : List (Lit × DataW H) → Nat
  | [] => 0
  | x :: r => uptoBulkEntry x + uptoBulkEntries r
def uptoBulkEntry {H : Type} : Lit × DataW H → Nat
  | (.string bytes, d) => bytes.length + uptoBulk d + 1
  | (_, d) => uptoBulk d + 1
 end
def uptoSmall : (H : Type) → List (DataW H) → Bool := fun _ ds => decide (uptoBulkAll ds ≤ 1048576)
def OpenSpec.upto (s : _root_.Go.ChangeSpec) : _root_.Go.OpenSpec := { _root_.Go.OpenSpec.ofChange s with cond := some uptoSmall }

/-- 'laws.FnStacks', WHERE WHAT IT READS IS OF BULK AT MOST 1048576: true; the input reads as it did. -/
def fnStacksUptoRow : OpenClaim := { program := "ytoompggbdedkmaa", sum := "073eea86026d55c334812b8a570cdad1fe5fa3c94ef62fb2dc16ccf23c7c6f7d", func := "loop.example/g01019/laws.FnStacks", spec := "fnStacks", unfollowed := true, recurses := true, apart := false, narrowed := true }
def FnStacksUptoSaid : Prop := fnStacksUptoRow.holds Try.pinned (OpenSpec.upto fnStacksSpec)

/-- 'laws.FnExactIsHeap', WHERE WHAT IT READS IS OF BULK AT MOST 1048576: true; the input reads as it did. -/
def fnExactIsHeapUptoRow : OpenClaim := { program := "ytoompggbdedkmaa", sum := "073eea86026d55c334812b8a570cdad1fe5fa3c94ef62fb2dc16ccf23c7c6f7d", func := "loop.example/g01019/laws.FnExactIsHeap", spec := "fnExactIsHeap", apart := false, narrowed := true }
def FnExactIsHeapUptoSaid : Prop := fnExactIsHeapUptoRow.holds Try.pinned (OpenSpec.upto fnExactIsHeapSpec)

/-- 'laws.FnExactAreHeaps', WHERE WHAT IT READS IS OF BULK AT MOST 1048576: true; the input reads as it did. -/
def fnExactAreHeapsUptoRow : OpenClaim := { program := "ytoompggbdedkmaa", sum := "073eea86026d55c334812b8a570cdad1fe5fa3c94ef62fb2dc16ccf23c7c6f7d", func := "loop.example/g01019/laws.FnExactAreHeaps", spec := "fnExactAreHeaps", apart := false, narrowed := true }
def FnExactAreHeapsUptoSaid : Prop := fnExactAreHeapsUptoRow.holds Try.pinned (OpenSpec.upto fnExactAreHeapsSpec)

/-- 'laws.FnExactTonsOf', WHERE WHAT IT READS IS OF BULK AT MOST 1048576: true; the input reads as it did. -/
def fnExactTonsOfUptoRow : OpenClaim := { program := "ytoompggbdedkmaa", sum := "073eea86026d55c334812b8a570cdad1fe5fa3c94ef62fb2dc16ccf23c7c6f7d", func := "loop.example/g01019/laws.FnExactTonsOf", spec := "fnExactTonsOf", apart := false, narrowed := true }
def FnExactTonsOfUptoSaid : Prop := fnExactTonsOfUptoRow.holds Try.pinned (OpenSpec.upto fnExactTonsOfSpec)

/-- 'laws.FnExactPutLayer', WHERE WHAT IT READS IS OF BULK AT MOST 1048576: true; the input reads as it did. -/
def fnExactPutLayerUptoRow : OpenClaim := { program := "ytoompggbdedkmaa", sum := "073eea86026d55c334812b8a570cdad1fe5fa3c94ef62fb2dc16ccf23c7c6f7d", func := "loop.example/g01019/laws.FnExactPutLayer", spec := "fnExactPutLayer", apart := false, narrowed := true }
def FnExactPutLayerUptoSaid : Prop := fnExactPutLayerUptoRow.holds Try.pinned (OpenSpec.upto fnExactPutLayerSpec)

/-- 'laws.FnExactHeapFor', WHERE WHAT IT READS IS OF BULK AT MOST 1048576: true; the input reads as it did. -/
def fnExactHeapForUptoRow : OpenClaim := { program := "ytoompggbdedkmaa", sum := "073eea86026d55c334812b8a570cdad1fe5fa3c94ef62fb2dc16ccf23c7c6f7d", func := "loop.example/g01019/laws.FnExactHeapFor", spec := "fnExactHeapFor", apart := false, narrowed := true }
def FnExactHeapForUptoSaid : Prop := fnExactHeapForUptoRow.holds Try.pinned (OpenSpec.upto fnExactHeapForSpec)

/-- 'laws.FnExactTakeTons', WHERE WHAT IT READS IS OF BULK AT MOST 1048576: true; the input reads as it did. -/
def fnExactTakeTonsUptoRow : OpenClaim := { program := "ytoompggbdedkmaa", sum := "073eea86026d55c334812b8a570cdad1fe5fa3c94ef62fb2dc16ccf23c7c6f7d", func := "loop.example/g01019/laws.FnExactTakeTons", spec := "fnExactTakeTons", apart := false, narrowed := true }
def FnExactTakeTonsUptoSaid : Prop := fnExactTakeTonsUptoRow.holds Try.pinned (OpenSpec.upto fnExactTakeTonsSpec)

/-- 'laws.FnExactRainOn', WHERE WHAT IT READS IS OF BULK AT MOST 1048576: true; the input reads as it did. -/
def fnExactRainOnUptoRow : OpenClaim := { program := "ytoompggbdedkmaa", sum := "073eea86026d55c334812b8a570cdad1fe5fa3c94ef62fb2dc16ccf23c7c6f7d", func := "loop.example/g01019/laws.FnExactRainOn", spec := "fnExactRainOn", apart := false, narrowed := true }
def FnExactRainOnUptoSaid : Prop := fnExactRainOnUptoRow.holds Try.pinned (OpenSpec.upto fnExactRainOnSpec)

/-- 'laws.FnExactCoverHeaps', WHERE WHAT IT READS IS OF BULK AT MOST 1048576: true; the input reads as it did. -/
def fnExactCoverHeapsUptoRow : OpenClaim := { program := "ytoompggbdedkmaa", sum := "073eea86026d55c334812b8a570cdad1fe5fa3c94ef62fb2dc16ccf23c7c6f7d", func := "loop.example/g01019/laws.FnExactCoverHeaps", spec := "fnExactCoverHeaps", unfollowed := true, recurses := true, apart := false, narrowed := true }
def FnExactCoverHeapsUptoSaid : Prop := fnExactCoverHeapsUptoRow.holds Try.pinned (OpenSpec.upto fnExactCoverHeapsSpec)

/-- 'laws.FnExactStackLayers', WHERE WHAT IT READS IS OF BULK AT MOST 1048576: true; the input reads as it did. -/
def fnExactStackLayersUptoRow : OpenClaim := { program := "ytoompggbdedkmaa", sum := "073eea86026d55c334812b8a570cdad1fe5fa3c94ef62fb2dc16ccf23c7c6f7d", func := "loop.example/g01019/laws.FnExactStackLayers", spec := "fnExactStackLayers", apart := false, narrowed := true }
def FnExactStackLayersUptoSaid : Prop := fnExactStackLayersUptoRow.holds Try.pinned (OpenSpec.upto fnExactStackLayersSpec)

/-- 'laws.FnExactHighestHeap', WHERE WHAT IT READS IS OF BULK AT MOST 1048576: true; the input reads as it did. -/
def fnExactHighestHeapUptoRow : OpenClaim := { program := "ytoompggbdedkmaa", sum := "073eea86026d55c334812b8a570cdad1fe5fa3c94ef62fb2dc16ccf23c7c6f7d", func := "loop.example/g01019/laws.FnExactHighestHeap", spec := "fnExactHighestHeap", unfollowed := true, recurses := true, apart := false, narrowed := true }
def FnExactHighestHeapUptoSaid : Prop := fnExactHighestHeapUptoRow.holds Try.pinned (OpenSpec.upto fnExactHighestHeapSpec)

end Rows
end Go.Proofs.Ytoompggbdedkmaa
