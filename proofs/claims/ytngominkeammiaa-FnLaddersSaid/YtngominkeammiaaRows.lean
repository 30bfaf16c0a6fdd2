/-
  No cell of these rows narrows 'for every input' (looked for: loops, veiled, ifaces, maps, wideKeys, modest, calm, conditions, laid).
  DERIVED. THE GIVEN ROWS OF THIS SEAT. 11 by the template 'for every input the law returns true; each argument reads behind the call as it read before'; 0 by the template 'total and deterministic' (their statements: YtngominkeammiaaTotals.lean).
  GIVEN WITH THE SEED: the statements are not yours to turn. If you find one false, say at which input.
  Laid BY PROGRAM, IN A SANDBOX (cutbox-rows.mjs): the forced cells as the released guide's own fill.sh prints them over the translation 86e581d7cbfe9871… (all of the seat's roots in one cut). By AI agents, Wed Nov 11 2026. No macro, syntax, notation, axiom, sorry.
-/
import Derived.Test.YtngominkeammiaaChecked
import GoSem.Claim
import GoSem.ClaimJoined
import GoSem.ClaimMapViews
import Derived.JoinedTies
import Derived.KernelRfl
namespace Go.Proofs.Ytngominkeammiaa
/- THE CELL 'sum', in the pinned program and in every row, IS THE sha256 OF THE DUMP (.gsa) THAT YtngominkeammiaaProg.lean LOADS. Nothing in Lean hashes anything: it is a label: what it is worth is what the hold of that sum in a sandbox is worth. -/
noncomputable def Try.pinned : Pinned := { name := "ytngominkeammiaa", sum := "86e581d7cbfe9871e0d1964332c1486ea3877a3ded33d081ebfc505a345bc002", checked := Try.checked }
namespace Rows
def none {H : Type} : Left H := { results := [], args := [] }

/-- 'laws.FnLadders': WHATEVER THE INPUT: true; the input reads as it did. -/
def fnLaddersSpec : ChangeSpec := { name := "fnLadders", fn := fun _ => fun
  | [d] => { results := [.lit (.bool true)], args := [d] }
  | _ => none }
def fnLaddersRow : OpenClaim := { program := "ytngominkeammiaa", sum := "86e581d7cbfe9871e0d1964332c1486ea3877a3ded33d081ebfc505a345bc002", func := "loop.example/g01019/laws.FnLadders", spec := "fnLadders", unfollowed := true, recurses := true, apart := false }
def FnLaddersSaid : Prop := fnLaddersRow.holds Try.pinned (OpenSpec.ofChange fnLaddersSpec)

/-- ITS FALSE NEIGHBOUR: 'it returns false'. Refute it at one input. -/
def fnLaddersWrong : ChangeSpec := { name := "fnLadders", fn := fun _ => fun
  | [d] => { results := [.lit (.bool false)], args := [d] }
  | _ => none }
def FnLaddersWrongFalsely : Prop := fnLaddersRow.holds Try.pinned (OpenSpec.ofChange fnLaddersWrong)

/-- 'laws.FnRungs': WHATEVER THE INPUT: true; the input reads as it did. -/
def fnRungsSpec : ChangeSpec := { name := "fnRungs", fn := fun _ => fun
  | [d] => { results := [.lit (.bool true)], args := [d] }
  | _ => none }
def fnRungsRow : OpenClaim := { program := "ytngominkeammiaa", sum := "86e581d7cbfe9871e0d1964332c1486ea3877a3ded33d081ebfc505a345bc002", func := "loop.example/g01019/laws.FnRungs", spec := "fnRungs", unfollowed := true, recurses := true, apart := false }
def FnRungsSaid : Prop := fnRungsRow.holds Try.pinned (OpenSpec.ofChange fnRungsSpec)

/-- ITS FALSE NEIGHBOUR: 'it returns false'. Refute it at one input. -/
def fnRungsWrong : ChangeSpec := { name := "fnRungs", fn := fun _ => fun
  | [d] => { results := [.lit (.bool false)], args := [d] }
  | _ => none }
def FnRungsWrongFalsely : Prop := fnRungsRow.holds Try.pinned (OpenSpec.ofChange fnRungsWrong)

/-- 'laws.FnExactIsLadder': WHATEVER THE INPUT: true; the input reads as it did. -/
def fnExactIsLadderSpec : ChangeSpec := { name := "fnExactIsLadder", fn := fun _ => fun
  | [d] => { results := [.lit (.bool true)], args := [d] }
  | _ => none }
def fnExactIsLadderRow : OpenClaim := { program := "ytngominkeammiaa", sum := "86e581d7cbfe9871e0d1964332c1486ea3877a3ded33d081ebfc505a345bc002", func := "loop.example/g01019/laws.FnExactIsLadder", spec := "fnExactIsLadder", apart := false }
def FnExactIsLadderSaid : Prop := fnExactIsLadderRow.holds Try.pinned (OpenSpec.ofChange fnExactIsLadderSpec)

/-- ITS FALSE NEIGHBOUR: 'it returns false'. Refute it at one input. -/
def fnExactIsLadderWrong : ChangeSpec := { name := "fnExactIsLadder", fn := fun _ => fun
  | [d] => { results := [.lit (.bool false)], args := [d] }
  | _ => none }
def FnExactIsLadderWrongFalsely : Prop := fnExactIsLadderRow.holds Try.pinned (OpenSpec.ofChange fnExactIsLadderWrong)

/-- 'laws.FnExactDoesKeep': WHATEVER THE INPUT: true; the input reads as it did. -/
def fnExactDoesKeepSpec : ChangeSpec := { name := "fnExactDoesKeep", fn := fun _ => fun
  | [d1, d2] => { results := [.lit (.bool true)], args := [d1, d2] }
  | _ => none }
def fnExactDoesKeepRow : OpenClaim := { program := "ytngominkeammiaa", sum := "86e581d7cbfe9871e0d1964332c1486ea3877a3ded33d081ebfc505a345bc002", func := "loop.example/g01019/laws.FnExactDoesKeep", spec := "fnExactDoesKeep", unfollowed := true, recurses := true, apart := false }
def FnExactDoesKeepSaid : Prop := fnExactDoesKeepRow.holds Try.pinned (OpenSpec.ofChange fnExactDoesKeepSpec)

/-- ITS FALSE NEIGHBOUR: 'it returns false'. Refute it at one input. -/
def fnExactDoesKeepWrong : ChangeSpec := { name := "fnExactDoesKeep", fn := fun _ => fun
  | [d1, d2] => { results := [.lit (.bool false)], args := [d1, d2] }
  | _ => none }
def FnExactDoesKeepWrongFalsely : Prop := fnExactDoesKeepRow.holds Try.pinned (OpenSpec.ofChange fnExactDoesKeepWrong)

/-- 'laws.FnExactOffRungs': WHATEVER THE INPUT: true; the input reads as it did. -/
def fnExactOffRungsSpec : ChangeSpec := { name := "fnExactOffRungs", fn := fun _ => fun
  | [d1, d2] => { results := [.lit (.bool true)], args := [d1, d2] }
  | _ => none }
def fnExactOffRungsRow : OpenClaim := { program := "ytngominkeammiaa", sum := "86e581d7cbfe9871e0d1964332c1486ea3877a3ded33d081ebfc505a345bc002", func := "loop.example/g01019/laws.FnExactOffRungs", spec := "fnExactOffRungs", unfollowed := true, recurses := true, apart := false }
def FnExactOffRungsSaid : Prop := fnExactOffRungsRow.holds Try.pinned (OpenSpec.ofChange fnExactOffRungsSpec)

/-- ITS FALSE NEIGHBOUR: 'it returns false'. Refute it at one input. -/
def fnExactOffRungsWrong : ChangeSpec := { name := "fnExactOffRungs", fn := fun _ => fun
  | [d1, d2] => { results := [.lit (.bool false)], args := [d1, d2] }
  | _ => none }
def FnExactOffRungsWrongFalsely : Prop := fnExactOffRungsRow.holds Try.pinned (OpenSpec.ofChange fnExactOffRungsWrong)

/-- 'laws.FnExactRungsFor': WHATEVER THE INPUT: true; the input reads as it did. -/
def fnExactRungsForSpec : ChangeSpec := { name := "fnExactRungsFor", fn := fun _ => fun
  | [d1, d2] => { results := [.lit (.bool true)], args := [d1, d2] }
  | _ => none }
def fnExactRungsForRow : OpenClaim := { program := "ytngominkeammiaa", sum := "86e581d7cbfe9871e0d1964332c1486ea3877a3ded33d081ebfc505a345bc002", func := "loop.example/g01019/laws.FnExactRungsFor", spec := "fnExactRungsFor", unfollowed := true, recurses := true, apart := false }
def FnExactRungsForSaid : Prop := fnExactRungsForRow.holds Try.pinned (OpenSpec.ofChange fnExactRungsForSpec)

/-- ITS FALSE NEIGHBOUR: 'it returns false'. Refute it at one input. -/
def fnExactRungsForWrong : ChangeSpec := { name := "fnExactRungsFor", fn := fun _ => fun
  | [d1, d2] => { results := [.lit (.bool false)], args := [d1, d2] }
  | _ => none }
def FnExactRungsForWrongFalsely : Prop := fnExactRungsForRow.holds Try.pinned (OpenSpec.ofChange fnExactRungsForWrong)

/-- 'laws.FnExactRoomOnRung': WHATEVER THE INPUT: true; the input reads as it did. -/
def fnExactRoomOnRungSpec : ChangeSpec := { name := "fnExactRoomOnRung", fn := fun _ => fun
  | [d1, d2, d3] => { results := [.lit (.bool true)], args := [d1, d2, d3] }
  | _ => none }
def fnExactRoomOnRungRow : OpenClaim := { program := "ytngominkeammiaa", sum := "86e581d7cbfe9871e0d1964332c1486ea3877a3ded33d081ebfc505a345bc002", func := "loop.example/g01019/laws.FnExactRoomOnRung", spec := "fnExactRoomOnRung", apart := false }
def FnExactRoomOnRungSaid : Prop := fnExactRoomOnRungRow.holds Try.pinned (OpenSpec.ofChange fnExactRoomOnRungSpec)

/-- ITS FALSE NEIGHBOUR: 'it returns false'. Refute it at one input. -/
def fnExactRoomOnRungWrong : ChangeSpec := { name := "fnExactRoomOnRung", fn := fun _ => fun
  | [d1, d2, d3] => { results := [.lit (.bool false)], args := [d1, d2, d3] }
  | _ => none }
def FnExactRoomOnRungWrongFalsely : Prop := fnExactRoomOnRungRow.holds Try.pinned (OpenSpec.ofChange fnExactRoomOnRungWrong)

/-- 'laws.FnExactSunOnRung': WHATEVER THE INPUT: true; the input reads as it did. -/
def fnExactSunOnRungSpec : ChangeSpec := { name := "fnExactSunOnRung", fn := fun _ => fun
  | [d1, d2, d3] => { results := [.lit (.bool true)], args := [d1, d2, d3] }
  | _ => none }
def fnExactSunOnRungRow : OpenClaim := { program := "ytngominkeammiaa", sum := "86e581d7cbfe9871e0d1964332c1486ea3877a3ded33d081ebfc505a345bc002", func := "loop.example/g01019/laws.FnExactSunOnRung", spec := "fnExactSunOnRung", apart := false }
def FnExactSunOnRungSaid : Prop := fnExactSunOnRungRow.holds Try.pinned (OpenSpec.ofChange fnExactSunOnRungSpec)

/-- ITS FALSE NEIGHBOUR: 'it returns false'. Refute it at one input. -/
def fnExactSunOnRungWrong : ChangeSpec := { name := "fnExactSunOnRung", fn := fun _ => fun
  | [d1, d2, d3] => { results := [.lit (.bool false)], args := [d1, d2, d3] }
  | _ => none }
def FnExactSunOnRungWrongFalsely : Prop := fnExactSunOnRungRow.holds Try.pinned (OpenSpec.ofChange fnExactSunOnRungWrong)

/-- 'laws.FnExactJoinLadders': WHATEVER THE INPUT: true; the input reads as it did. -/
def fnExactJoinLaddersSpec : ChangeSpec := { name := "fnExactJoinLadders", fn := fun _ => fun
  | [d1, d2] => { results := [.lit (.bool true)], args := [d1, d2] }
  | _ => none }
def fnExactJoinLaddersRow : OpenClaim := { program := "ytngominkeammiaa", sum := "86e581d7cbfe9871e0d1964332c1486ea3877a3ded33d081ebfc505a345bc002", func := "loop.example/g01019/laws.FnExactJoinLadders", spec := "fnExactJoinLadders", apart := false }
def FnExactJoinLaddersSaid : Prop := fnExactJoinLaddersRow.holds Try.pinned (OpenSpec.ofChange fnExactJoinLaddersSpec)

/-- ITS FALSE NEIGHBOUR: 'it returns false'. Refute it at one input. -/
def fnExactJoinLaddersWrong : ChangeSpec := { name := "fnExactJoinLadders", fn := fun _ => fun
  | [d1, d2] => { results := [.lit (.bool false)], args := [d1, d2] }
  | _ => none }
def FnExactJoinLaddersWrongFalsely : Prop := fnExactJoinLaddersRow.holds Try.pinned (OpenSpec.ofChange fnExactJoinLaddersWrong)

/-- 'laws.FnExactWidestRung': WHATEVER THE INPUT: true; the input reads as it did. -/
def fnExactWidestRungSpec : ChangeSpec := { name := "fnExactWidestRung", fn := fun _ => fun
  | [d] => { results := [.lit (.bool true)], args := [d] }
  | _ => none }
def fnExactWidestRungRow : OpenClaim := { program := "ytngominkeammiaa", sum := "86e581d7cbfe9871e0d1964332c1486ea3877a3ded33d081ebfc505a345bc002", func := "loop.example/g01019/laws.FnExactWidestRung", spec := "fnExactWidestRung", apart := false }
def FnExactWidestRungSaid : Prop := fnExactWidestRungRow.holds Try.pinned (OpenSpec.ofChange fnExactWidestRungSpec)

/-- ITS FALSE NEIGHBOUR: 'it returns false'. Refute it at one input. -/
def fnExactWidestRungWrong : ChangeSpec := { name := "fnExactWidestRung", fn := fun _ => fun
  | [d] => { results := [.lit (.bool false)], args := [d] }
  | _ => none }
def FnExactWidestRungWrongFalsely : Prop := fnExactWidestRungRow.holds Try.pinned (OpenSpec.ofChange fnExactWidestRungWrong)

/-- 'laws.FnExactEvenLadder': WHATEVER THE INPUT: true; the input reads as it did. -/
def fnExactEvenLadderSpec : ChangeSpec := { name := "fnExactEvenLadder", fn := fun _ => fun
  | [d1, d2, d3] => { results := [.lit (.bool true)], args := [d1, d2, d3] }
  | _ => none }
def fnExactEvenLadderRow : OpenClaim := { program := "ytngominkeammiaa", sum := "86e581d7cbfe9871e0d1964332c1486ea3877a3ded33d081ebfc505a345bc002", func := "loop.example/g01019/laws.FnExactEvenLadder", spec := "fnExactEvenLadder", apart := false }
def FnExactEvenLadderSaid : Prop := fnExactEvenLadderRow.holds Try.pinned (OpenSpec.ofChange fnExactEvenLadderSpec)

/-- ITS FALSE NEIGHBOUR: 'it returns false'. Refute it at one input. -/
def fnExactEvenLadderWrong : ChangeSpec := { name := "fnExactEvenLadder", fn := fun _ => fun
  | [d1, d2, d3] => { results := [.lit (.bool false)], args := [d1, d2, d3] }
  | _ => none }
def FnExactEvenLadderWrongFalsely : Prop := fnExactEvenLadderRow.holds Try.pinned (OpenSpec.ofChange fnExactEvenLadderWrong)

/- THE SECOND FORM. 'bulk': how many values and letters a reading holds, each counted each time it is reached (what is shared counts as often as it is met; a slice's spare places count too). A statement '..UptoSaid' is the law's where the arguments, and the package variables that the reading takes, are together of bulk at most 1048576: NARROWER than '..Said'. Prove '..Said' where nothing that the law and all that it calls make is longer than what came in: it says more and counts as full. Else prove '..UptoSaid'. A law counts once. -/
mutual
def uptoBulk {H : Type} : DataW H → Nat
  | .lit (.string bytes) => bytes.length + 1
  | .lit _ => 1
  | .nil => 1
  | .ptr d => uptoBulk d + 1
  | .slice elems spare => uptoBulkAll elems + uptoBulkAll spare + 1
  | .agg parts => uptoBulkAll parts + 1
  | .iface _ d => uptoBulk d + 1
  | .map entries => uptoBulkEntries entries + 1
  | .held _ => 1
def uptoBulkAll {H : Type} : List (DataW H) → Nat
  | [] => 0
  | d :: r => uptoBulk d + uptoBulkAll r
def uptoBulkEntries {H : Type} : List (Lit × DataW H) → Nat
  | [] => 0
  | x :: r => uptoBulkEntry x + uptoBulkEntries r
def uptoBulkEntry {H : Type} : Lit × DataW H → Nat
  | (.string bytes, d) => bytes.length + uptoBulk d + 1
  | (_, d) => uptoBulk d + 1
 end
def uptoSmall : (H : Type) → List (DataW H) → Bool := fun _ ds => decide (uptoBulkAll ds ≤ 1048576)
def OpenSpec.upto (s : _root_.Go.ChangeSpec) : _root_.Go.OpenSpec := { _root_.Go.OpenSpec.ofChange s with cond := some uptoSmall }

/-- 'laws.FnLadders', WHERE WHAT IT READS IS OF BULK AT MOST 1048576: true; the input reads as it did. -/
def fnLaddersUptoRow : OpenClaim := { program := "ytngominkeammiaa", sum := "86e581d7cbfe9871e0d1964332c1486ea3877a3ded33d081ebfc505a345bc002", func := "loop.example/g01019/laws.FnLadders", spec := "fnLadders", unfollowed := true, recurses := true, apart := false, narrowed := true }
def FnLaddersUptoSaid : Prop := fnLaddersUptoRow.holds Try.pinned (OpenSpec.upto fnLaddersSpec)

/-- 'laws.FnRungs', WHERE WHAT IT READS IS OF BULK AT MOST 1048576: true; the input reads as it did. -/
def fnRungsUptoRow : OpenClaim := { program := "ytngominkeammiaa", sum := "86e581d7cbfe9871e0d1964332c1486ea3877a3ded33d081ebfc505a345bc002", func := "loop.example/g01019/laws.FnRungs", spec := "fnRungs", unfollowed := true, recurses := true, apart := false, narrowed := true }
def FnRungsUptoSaid : Prop := fnRungsUptoRow.holds Try.pinned (OpenSpec.upto fnRungsSpec)

/-- 'laws.FnExactIsLadder', WHERE WHAT IT READS IS OF BULK AT MOST 1048576: true; the input reads as it did. -/
def fnExactIsLadderUptoRow : OpenClaim := { program := "ytngominkeammiaa", sum := "86e581d7cbfe9871e0d1964332c1486ea3877a3ded33d081ebfc505a345bc002", func := "loop.example/g01019/laws.FnExactIsLadder", spec := "fnExactIsLadder", apart := false, narrowed := true }
def FnExactIsLadderUptoSaid : Prop := fnExactIsLadderUptoRow.holds Try.pinned (OpenSpec.upto fnExactIsLadderSpec)

/-- 'laws.FnExactDoesKeep', WHERE WHAT IT READS IS OF BULK AT MOST 1048576: true; the input reads as it did. -/
def fnExactDoesKeepUptoRow : OpenClaim := { program := "ytngominkeammiaa", sum := "86e581d7cbfe9871e0d1964332c1486ea3877a3ded33d081ebfc505a345bc002", func := "loop.example/g01019/laws.FnExactDoesKeep", spec := "fnExactDoesKeep", unfollowed := true, recurses := true, apart := false, narrowed := true }
def FnExactDoesKeepUptoSaid : Prop := fnExactDoesKeepUptoRow.holds Try.pinned (OpenSpec.upto fnExactDoesKeepSpec)

/-- 'laws.FnExactOffRungs', WHERE WHAT IT READS IS OF BULK AT MOST 1048576: true; the input reads as it did. -/
def fnExactOffRungsUptoRow : OpenClaim := { program := "ytngominkeammiaa", sum := "86e581d7cbfe9871e0d1964332c1486ea3877a3ded33d081ebfc505a345bc002", func := "loop.example/g01019/laws.FnExactOffRungs", spec := "fnExactOffRungs", unfollowed := true, recurses := true, apart := false, narrowed := true }
def FnExactOffRungsUptoSaid : Prop := fnExactOffRungsUptoRow.holds Try.pinned (OpenSpec.upto fnExactOffRungsSpec)

/-- 'laws.FnExactRungsFor', WHERE WHAT IT READS IS OF BULK AT MOST 1048576: true; the input reads as it did. -/
def fnExactRungsForUptoRow : OpenClaim := { program := "ytngominkeammiaa", sum := "86e581d7cbfe9871e0d1964332c1486ea3877a3ded33d081ebfc505a345bc002", func := "loop.example/g01019/laws.FnExactRungsFor", spec := "fnExactRungsFor", unfollowed := true, recurses := true, apart := false, narrowed := true }
def FnExactRungsForUptoSaid : Prop := fnExactRungsForUptoRow.holds Try.pinned (OpenSpec.upto fnExactRungsForSpec)

/-- 'laws.FnExactRoomOnRung', WHERE WHAT IT READS IS OF BULK AT MOST 1048576: true; the input reads as it did. -/
def fnExactRoomOnRungUptoRow : OpenClaim := { program := "ytngominkeammiaa", sum := "86e581d7cbfe9871e0d1964332c1486ea3877a3ded33d081ebfc505a345bc002", func := "loop.example/g01019/laws.FnExactRoomOnRung", spec := "fnExactRoomOnRung", apart := false, narrowed := true }
def FnExactRoomOnRungUptoSaid : Prop := fnExactRoomOnRungUptoRow.holds Try.pinned (OpenSpec.upto fnExactRoomOnRungSpec)

/-- 'laws.FnExactSunOnRung', WHERE WHAT IT READS IS OF BULK AT MOST 1048576: true; the input reads as it did. -/
def fnExactSunOnRungUptoRow : OpenClaim := { program := "ytngominkeammiaa", sum := "86e581d7cbfe9871e0d1964332c1486ea3877a3ded33d081ebfc505a345bc002", func := "loop.example/g01019/laws.FnExactSunOnRung", spec := "fnExactSunOnRung", apart := false, narrowed := true }
def FnExactSunOnRungUptoSaid : Prop := fnExactSunOnRungUptoRow.holds Try.pinned (OpenSpec.upto fnExactSunOnRungSpec)

/-- 'laws.FnExactJoinLadders', WHERE WHAT IT READS IS OF BULK AT MOST 1048576: true; the input reads as it did. -/
def fnExactJoinLaddersUptoRow : OpenClaim := { program := "ytngominkeammiaa", sum := "86e581d7cbfe9871e0d1964332c1486ea3877a3ded33d081ebfc505a345bc002", func := "loop.example/g01019/laws.FnExactJoinLadders", spec := "fnExactJoinLadders", apart := false, narrowed := true }
def FnExactJoinLaddersUptoSaid : Prop := fnExactJoinLaddersUptoRow.holds Try.pinned (OpenSpec.upto fnExactJoinLaddersSpec)

/-- 'laws.FnExactWidestRung', WHERE WHAT IT READS IS OF BULK AT MOST 1048576: true; the input reads as it did. -/
def fnExactWidestRungUptoRow : OpenClaim := { program := "ytngominkeammiaa", sum := "86e581d7cbfe9871e0d1964332c1486ea3877a3ded33d081ebfc505a345bc002", func := "loop.example/g01019/laws.FnExactWidestRung", spec := "fnExactWidestRung", apart := false, narrowed := true }
def FnExactWidestRungUptoSaid : Prop := fnExactWidestRungUptoRow.holds Try.pinned (OpenSpec.upto fnExactWidestRungSpec)

/-- 'laws.FnExactEvenLadder', WHERE WHAT IT READS IS OF BULK AT MOST 1048576: true; the input reads as it did. -/
def fnExactEvenLadderUptoRow : OpenClaim := { program := "ytngominkeammiaa", sum := "86e581d7cbfe9871e0d1964332c1486ea3877a3ded33d081ebfc505a345bc002", func := "loop.example/g01019/laws.FnExactEvenLadder", spec := "fnExactEvenLadder", apart := false, narrowed := true }
def FnExactEvenLadderUptoSaid : Prop := fnExactEvenLadderUptoRow.holds Try.pinned (OpenSpec.upto fnExactEvenLadderSpec)

end Rows
end Go.Proofs.Ytngominkeammiaa
