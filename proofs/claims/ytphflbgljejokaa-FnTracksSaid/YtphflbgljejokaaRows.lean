/-
  No cell of these rows narrows 'for every input' (looked for: loops, veiled, ifaces, maps, wideKeys, modest, calm, conditions, laid).
  DERIVED. THE GIVEN ROWS OF THIS SEAT. 13 by the template 'for every input the law returns true; each argument reads behind the call as it read before'; 0 by the template 'total and deterministic' (their statements: YtphflbgljejokaaTotals.lean).
  GIVEN WITH THE SEED: the statements are not yours to turn. If you find one false, say at which input.
  Laid BY PROGRAM, IN A SANDBOX (cutbox-rows.mjs): the forced cells as the released guide's own fill.sh prints them over the translation d2dc13781eccd027… (all of the seat's roots in one cut). By AI agents, Wed Nov 11 2026. No macro, syntax, notation, axiom, sorry.
-/
import Derived.Test.YtphflbgljejokaaChecked
import GoSem.Claim
import GoSem.ClaimJoined
import GoSem.ClaimMapViews
import Derived.JoinedTies
import Derived.KernelRfl
namespace Go.Proofs.Ytphflbgljejokaa
/- THE CELL 'sum', in the pinned program and in every row, IS THE sha256 OF THE DUMP (.gsa) THAT YtphflbgljejokaaProg.lean LOADS. Nothing in Lean hashes anything: it is a label: what it is worth is what the hold of that sum in a sandbox is worth. -/
noncomputable def Try.pinned : Pinned := { name := "ytphflbgljejokaa", sum := "d2dc13781eccd027d12dcbe8108480468556bf46db097251da31ac3cc855e39d", checked := Try.checked }
namespace Rows
def none {H : Type} : Left H := { results := [], args := [] }

/-- 'laws.FnTrips': WHATEVER THE INPUT: true; the input reads as it did. -/
def fnTripsSpec : ChangeSpec := { name := "fnTrips", fn := fun _ => fun
  | [d] => { results := [.lit (.bool true)], args := [d] }
  | _ => none }
def fnTripsRow : OpenClaim := { program := "ytphflbgljejokaa", sum := "d2dc13781eccd027d12dcbe8108480468556bf46db097251da31ac3cc855e39d", func := "loop.example/g01019/laws.FnTrips", spec := "fnTrips", inPlace := ["slices.overlaps[loop.example/g01019/impl.Trip]"], unfollowed := true, recurses := true, apart := false }
def FnTripsSaid : Prop := fnTripsRow.holds Try.pinned (OpenSpec.ofChange fnTripsSpec)

/-- ITS FALSE NEIGHBOUR: 'it returns false'. Refute it at one input. -/
def fnTripsWrong : ChangeSpec := { name := "fnTrips", fn := fun _ => fun
  | [d] => { results := [.lit (.bool false)], args := [d] }
  | _ => none }
def FnTripsWrongFalsely : Prop := fnTripsRow.holds Try.pinned (OpenSpec.ofChange fnTripsWrong)

/-- 'laws.FnTracks': WHATEVER THE INPUT: true; the input reads as it did. -/
def fnTracksSpec : ChangeSpec := { name := "fnTracks", fn := fun _ => fun
  | [d] => { results := [.lit (.bool true)], args := [d] }
  | _ => none }
def fnTracksRow : OpenClaim := { program := "ytphflbgljejokaa", sum := "d2dc13781eccd027d12dcbe8108480468556bf46db097251da31ac3cc855e39d", func := "loop.example/g01019/laws.FnTracks", spec := "fnTracks", unfollowed := true, recurses := true, apart := false }
def FnTracksSaid : Prop := fnTracksRow.holds Try.pinned (OpenSpec.ofChange fnTracksSpec)

/-- ITS FALSE NEIGHBOUR: 'it returns false'. Refute it at one input. -/
def fnTracksWrong : ChangeSpec := { name := "fnTracks", fn := fun _ => fun
  | [d] => { results := [.lit (.bool false)], args := [d] }
  | _ => none }
def FnTracksWrongFalsely : Prop := fnTracksRow.holds Try.pinned (OpenSpec.ofChange fnTracksWrong)

/-- 'laws.FnExactIsTrip': WHATEVER THE INPUT: true; the input reads as it did. -/
def fnExactIsTripSpec : ChangeSpec := { name := "fnExactIsTrip", fn := fun _ => fun
  | [d] => { results := [.lit (.bool true)], args := [d] }
  | _ => none }
def fnExactIsTripRow : OpenClaim := { program := "ytphflbgljejokaa", sum := "d2dc13781eccd027d12dcbe8108480468556bf46db097251da31ac3cc855e39d", func := "loop.example/g01019/laws.FnExactIsTrip", spec := "fnExactIsTrip", apart := false }
def FnExactIsTripSaid : Prop := fnExactIsTripRow.holds Try.pinned (OpenSpec.ofChange fnExactIsTripSpec)

/-- ITS FALSE NEIGHBOUR: 'it returns false'. Refute it at one input. -/
def fnExactIsTripWrong : ChangeSpec := { name := "fnExactIsTrip", fn := fun _ => fun
  | [d] => { results := [.lit (.bool false)], args := [d] }
  | _ => none }
def FnExactIsTripWrongFalsely : Prop := fnExactIsTripRow.holds Try.pinned (OpenSpec.ofChange fnExactIsTripWrong)

/-- 'laws.FnExactAreTrips': WHATEVER THE INPUT: true; the input reads as it did. -/
def fnExactAreTripsSpec : ChangeSpec := { name := "fnExactAreTrips", fn := fun _ => fun
  | [d] => { results := [.lit (.bool true)], args := [d] }
  | _ => none }
def fnExactAreTripsRow : OpenClaim := { program := "ytphflbgljejokaa", sum := "d2dc13781eccd027d12dcbe8108480468556bf46db097251da31ac3cc855e39d", func := "loop.example/g01019/laws.FnExactAreTrips", spec := "fnExactAreTrips", apart := false }
def FnExactAreTripsSaid : Prop := fnExactAreTripsRow.holds Try.pinned (OpenSpec.ofChange fnExactAreTripsSpec)

/-- ITS FALSE NEIGHBOUR: 'it returns false'. Refute it at one input. -/
def fnExactAreTripsWrong : ChangeSpec := { name := "fnExactAreTrips", fn := fun _ => fun
  | [d] => { results := [.lit (.bool false)], args := [d] }
  | _ => none }
def FnExactAreTripsWrongFalsely : Prop := fnExactAreTripsRow.holds Try.pinned (OpenSpec.ofChange fnExactAreTripsWrong)

/-- 'laws.FnExactArrivalOf': WHATEVER THE INPUT: true; the input reads as it did. -/
def fnExactArrivalOfSpec : ChangeSpec := { name := "fnExactArrivalOf", fn := fun _ => fun
  | [d] => { results := [.lit (.bool true)], args := [d] }
  | _ => none }
def fnExactArrivalOfRow : OpenClaim := { program := "ytphflbgljejokaa", sum := "d2dc13781eccd027d12dcbe8108480468556bf46db097251da31ac3cc855e39d", func := "loop.example/g01019/laws.FnExactArrivalOf", spec := "fnExactArrivalOf", apart := false }
def FnExactArrivalOfSaid : Prop := fnExactArrivalOfRow.holds Try.pinned (OpenSpec.ofChange fnExactArrivalOfSpec)

/-- ITS FALSE NEIGHBOUR: 'it returns false'. Refute it at one input. -/
def fnExactArrivalOfWrong : ChangeSpec := { name := "fnExactArrivalOf", fn := fun _ => fun
  | [d] => { results := [.lit (.bool false)], args := [d] }
  | _ => none }
def FnExactArrivalOfWrongFalsely : Prop := fnExactArrivalOfRow.holds Try.pinned (OpenSpec.ofChange fnExactArrivalOfWrong)

/-- 'laws.FnExactSectionTimes': WHATEVER THE INPUT: true; the input reads as it did. -/
def fnExactSectionTimesSpec : ChangeSpec := { name := "fnExactSectionTimes", fn := fun _ => fun
  | [d] => { results := [.lit (.bool true)], args := [d] }
  | _ => none }
def fnExactSectionTimesRow : OpenClaim := { program := "ytphflbgljejokaa", sum := "d2dc13781eccd027d12dcbe8108480468556bf46db097251da31ac3cc855e39d", func := "loop.example/g01019/laws.FnExactSectionTimes", spec := "fnExactSectionTimes", apart := false }
def FnExactSectionTimesSaid : Prop := fnExactSectionTimesRow.holds Try.pinned (OpenSpec.ofChange fnExactSectionTimesSpec)

/-- ITS FALSE NEIGHBOUR: 'it returns false'. Refute it at one input. -/
def fnExactSectionTimesWrong : ChangeSpec := { name := "fnExactSectionTimes", fn := fun _ => fun
  | [d] => { results := [.lit (.bool false)], args := [d] }
  | _ => none }
def FnExactSectionTimesWrongFalsely : Prop := fnExactSectionTimesRow.holds Try.pinned (OpenSpec.ofChange fnExactSectionTimesWrong)

/-- 'laws.FnExactMeetingTrips': WHATEVER THE INPUT: true; the input reads as it did. -/
def fnExactMeetingTripsSpec : ChangeSpec := { name := "fnExactMeetingTrips", fn := fun _ => fun
  | [d] => { results := [.lit (.bool true)], args := [d] }
  | _ => none }
def fnExactMeetingTripsRow : OpenClaim := { program := "ytphflbgljejokaa", sum := "d2dc13781eccd027d12dcbe8108480468556bf46db097251da31ac3cc855e39d", func := "loop.example/g01019/laws.FnExactMeetingTrips", spec := "fnExactMeetingTrips", apart := false }
def FnExactMeetingTripsSaid : Prop := fnExactMeetingTripsRow.holds Try.pinned (OpenSpec.ofChange fnExactMeetingTripsSpec)

/-- ITS FALSE NEIGHBOUR: 'it returns false'. Refute it at one input. -/
def fnExactMeetingTripsWrong : ChangeSpec := { name := "fnExactMeetingTrips", fn := fun _ => fun
  | [d] => { results := [.lit (.bool false)], args := [d] }
  | _ => none }
def FnExactMeetingTripsWrongFalsely : Prop := fnExactMeetingTripsRow.holds Try.pinned (OpenSpec.ofChange fnExactMeetingTripsWrong)

/-- 'laws.FnExactFirstStart': WHATEVER THE INPUT: true; the input reads as it did. -/
def fnExactFirstStartSpec : ChangeSpec := { name := "fnExactFirstStart", fn := fun _ => fun
  | [d1, d2] => { results := [.lit (.bool true)], args := [d1, d2] }
  | _ => none }
def fnExactFirstStartRow : OpenClaim := { program := "ytphflbgljejokaa", sum := "d2dc13781eccd027d12dcbe8108480468556bf46db097251da31ac3cc855e39d", func := "loop.example/g01019/laws.FnExactFirstStart", spec := "fnExactFirstStart", unfollowed := true, recurses := true, apart := false }
def FnExactFirstStartSaid : Prop := fnExactFirstStartRow.holds Try.pinned (OpenSpec.ofChange fnExactFirstStartSpec)

/-- ITS FALSE NEIGHBOUR: 'it returns false'. Refute it at one input. -/
def fnExactFirstStartWrong : ChangeSpec := { name := "fnExactFirstStart", fn := fun _ => fun
  | [d1, d2] => { results := [.lit (.bool false)], args := [d1, d2] }
  | _ => none }
def FnExactFirstStartWrongFalsely : Prop := fnExactFirstStartRow.holds Try.pinned (OpenSpec.ofChange fnExactFirstStartWrong)

/-- 'laws.FnExactAddTrip': WHATEVER THE INPUT: true; the input reads as it did. -/
def fnExactAddTripSpec : ChangeSpec := { name := "fnExactAddTrip", fn := fun _ => fun
  | [d1, d2] => { results := [.lit (.bool true)], args := [d1, d2] }
  | _ => none }
def fnExactAddTripRow : OpenClaim := { program := "ytphflbgljejokaa", sum := "d2dc13781eccd027d12dcbe8108480468556bf46db097251da31ac3cc855e39d", func := "loop.example/g01019/laws.FnExactAddTrip", spec := "fnExactAddTrip", inPlace := ["slices.overlaps[loop.example/g01019/impl.Trip]"], unfollowed := true, recurses := true, apart := false }
def FnExactAddTripSaid : Prop := fnExactAddTripRow.holds Try.pinned (OpenSpec.ofChange fnExactAddTripSpec)

/-- ITS FALSE NEIGHBOUR: 'it returns false'. Refute it at one input. -/
def fnExactAddTripWrong : ChangeSpec := { name := "fnExactAddTrip", fn := fun _ => fun
  | [d1, d2] => { results := [.lit (.bool false)], args := [d1, d2] }
  | _ => none }
def FnExactAddTripWrongFalsely : Prop := fnExactAddTripRow.holds Try.pinned (OpenSpec.ofChange fnExactAddTripWrong)

/-- 'laws.FnExactLoadsTo': WHATEVER THE INPUT: true; the input reads as it did. -/
def fnExactLoadsToSpec : ChangeSpec := { name := "fnExactLoadsTo", fn := fun _ => fun
  | [d1, d2, d3] => { results := [.lit (.bool true)], args := [d1, d2, d3] }
  | _ => none }
def fnExactLoadsToRow : OpenClaim := { program := "ytphflbgljejokaa", sum := "d2dc13781eccd027d12dcbe8108480468556bf46db097251da31ac3cc855e39d", func := "loop.example/g01019/laws.FnExactLoadsTo", spec := "fnExactLoadsTo", apart := false }
def FnExactLoadsToSaid : Prop := fnExactLoadsToRow.holds Try.pinned (OpenSpec.ofChange fnExactLoadsToSpec)

/-- ITS FALSE NEIGHBOUR: 'it returns false'. Refute it at one input. -/
def fnExactLoadsToWrong : ChangeSpec := { name := "fnExactLoadsTo", fn := fun _ => fun
  | [d1, d2, d3] => { results := [.lit (.bool false)], args := [d1, d2, d3] }
  | _ => none }
def FnExactLoadsToWrongFalsely : Prop := fnExactLoadsToRow.holds Try.pinned (OpenSpec.ofChange fnExactLoadsToWrong)

/-- 'laws.FnExactOnTheWay': WHATEVER THE INPUT: true; the input reads as it did. -/
def fnExactOnTheWaySpec : ChangeSpec := { name := "fnExactOnTheWay", fn := fun _ => fun
  | [d1, d2] => { results := [.lit (.bool true)], args := [d1, d2] }
  | _ => none }
def fnExactOnTheWayRow : OpenClaim := { program := "ytphflbgljejokaa", sum := "d2dc13781eccd027d12dcbe8108480468556bf46db097251da31ac3cc855e39d", func := "loop.example/g01019/laws.FnExactOnTheWay", spec := "fnExactOnTheWay", apart := false }
def FnExactOnTheWaySaid : Prop := fnExactOnTheWayRow.holds Try.pinned (OpenSpec.ofChange fnExactOnTheWaySpec)

/-- ITS FALSE NEIGHBOUR: 'it returns false'. Refute it at one input. -/
def fnExactOnTheWayWrong : ChangeSpec := { name := "fnExactOnTheWay", fn := fun _ => fun
  | [d1, d2] => { results := [.lit (.bool false)], args := [d1, d2] }
  | _ => none }
def FnExactOnTheWayWrongFalsely : Prop := fnExactOnTheWayRow.holds Try.pinned (OpenSpec.ofChange fnExactOnTheWayWrong)

/-- 'laws.FnExactLongestQuiet': WHATEVER THE INPUT: true; the input reads as it did. -/
def fnExactLongestQuietSpec : ChangeSpec := { name := "fnExactLongestQuiet", fn := fun _ => fun
  | [d1, d2] => { results := [.lit (.bool true)], args := [d1, d2] }
  | _ => none }
def fnExactLongestQuietRow : OpenClaim := { program := "ytphflbgljejokaa", sum := "d2dc13781eccd027d12dcbe8108480468556bf46db097251da31ac3cc855e39d", func := "loop.example/g01019/laws.FnExactLongestQuiet", spec := "fnExactLongestQuiet", unfollowed := true, recurses := true, apart := false }
def FnExactLongestQuietSaid : Prop := fnExactLongestQuietRow.holds Try.pinned (OpenSpec.ofChange fnExactLongestQuietSpec)

/-- ITS FALSE NEIGHBOUR: 'it returns false'. Refute it at one input. -/
def fnExactLongestQuietWrong : ChangeSpec := { name := "fnExactLongestQuiet", fn := fun _ => fun
  | [d1, d2] => { results := [.lit (.bool false)], args := [d1, d2] }
  | _ => none }
def FnExactLongestQuietWrongFalsely : Prop := fnExactLongestQuietRow.holds Try.pinned (OpenSpec.ofChange fnExactLongestQuietWrong)

/-- 'laws.FnExactReverseTrip': WHATEVER THE INPUT: true; the input reads as it did. -/
def fnExactReverseTripSpec : ChangeSpec := { name := "fnExactReverseTrip", fn := fun _ => fun
  | [d1, d2] => { results := [.lit (.bool true)], args := [d1, d2] }
  | _ => none }
def fnExactReverseTripRow : OpenClaim := { program := "ytphflbgljejokaa", sum := "d2dc13781eccd027d12dcbe8108480468556bf46db097251da31ac3cc855e39d", func := "loop.example/g01019/laws.FnExactReverseTrip", spec := "fnExactReverseTrip", unfollowed := true, recurses := true, apart := false }
def FnExactReverseTripSaid : Prop := fnExactReverseTripRow.holds Try.pinned (OpenSpec.ofChange fnExactReverseTripSpec)

/-- ITS FALSE NEIGHBOUR: 'it returns false'. Refute it at one input. -/
def fnExactReverseTripWrong : ChangeSpec := { name := "fnExactReverseTrip", fn := fun _ => fun
  | [d1, d2] => { results := [.lit (.bool false)], args := [d1, d2] }
  | _ => none }
def FnExactReverseTripWrongFalsely : Prop := fnExactReverseTripRow.holds Try.pinned (OpenSpec.ofChange fnExactReverseTripWrong)

/- THE SECOND FORM. 'bulk': how many values and letters a reading holds, each counted each time it is reached (what is shared counts as often as it is met; a slice's spare places count too). A statement '..UptoSaid' is the law's where the arguments, and the package variables that the reading takes, are together of bulk at most 1048576: NARROWER than '..Said'. Prove '..Said' where nothing that the law and all that it calls make is longer than what came in: it says more and counts as full. Else prove '..UptoSaid'. A law counts once. -/
mutual
def uptoBulk {H : Type} : DataW H → Nat
  | .lit (.string bytes) => bytes.length + 1
  | .lit _ => 1
  | .nil => 1
  | .ptr d => uptoBulk d + 1
  | .slice elems spare => uptoBulkAll elems + uptoBulkAll spare + 1
  | .agg parts => uptoBulkAll parts + 1
  | .iface _ d => uptoBulk d + 1
  | .map entries => uptoBulkEntries entries + 1
  | .held _ => 1
def uptoBulkAll {H : Type} : List (DataW H) → Nat
  | [] => 0
  | d :: r => uptoBulk d + uptoBulkAll r
def uptoBulkEntries {H : Type} : List (Lit × DataW H) → Nat
  | [] => 0
  | x :: r => uptoBulkEntry x + uptoBulkEntries r
def uptoBulkEntry {H : Type} : Lit × DataW H → Nat
  | (.string bytes, d) => bytes.length + uptoBulk d + 1
  | (_, d) => uptoBulk d + 1
 end
def uptoSmall : (H : Type) → List (DataW H) → Bool := fun _ ds => decide (uptoBulkAll ds ≤ 1048576)
def OpenSpec.upto (s : _root_.Go.ChangeSpec) : _root_.Go.OpenSpec := { _root_.Go.OpenSpec.ofChange s with cond := some uptoSmall }

/-- 'laws.FnTrips', WHERE WHAT IT READS IS OF BULK AT MOST 1048576: true; the input reads as it did. -/
def fnTripsUptoRow : OpenClaim := { program := "ytphflbgljejokaa", sum := "d2dc13781eccd027d12dcbe8108480468556bf46db097251da31ac3cc855e39d", func := "loop.example/g01019/laws.FnTrips", spec := "fnTrips", inPlace := ["slices.overlaps[loop.example/g01019/impl.Trip]"], unfollowed := true, recurses := true, apart := false, narrowed := true }
def FnTripsUptoSaid : Prop := fnTripsUptoRow.holds Try.pinned (OpenSpec.upto fnTripsSpec)

/-- 'laws.FnTracks', WHERE WHAT IT READS IS OF BULK AT MOST 1048576: true; the input reads as it did. -/
def fnTracksUptoRow : OpenClaim := { program := "ytphflbgljejokaa", sum := "d2dc13781eccd027d12dcbe8108480468556bf46db097251da31ac3cc855e39d", func := "loop.example/g01019/laws.FnTracks", spec := "fnTracks", unfollowed := true, recurses := true, apart := false, narrowed := true }
def FnTracksUptoSaid : Prop := fnTracksUptoRow.holds Try.pinned (OpenSpec.upto fnTracksSpec)

/-- 'laws.FnExactIsTrip', WHERE WHAT IT READS IS OF BULK AT MOST 1048576: true; the input reads as it did. -/
def fnExactIsTripUptoRow : OpenClaim := { program := "ytphflbgljejokaa", sum := "d2dc13781eccd027d12dcbe8108480468556bf46db097251da31ac3cc855e39d", func := "loop.example/g01019/laws.FnExactIsTrip", spec := "fnExactIsTrip", apart := false, narrowed := true }
def FnExactIsTripUptoSaid : Prop := fnExactIsTripUptoRow.holds Try.pinned (OpenSpec.upto fnExactIsTripSpec)

/-- 'laws.FnExactAreTrips', WHERE WHAT IT READS IS OF BULK AT MOST 1048576: true; the input reads as it did. -/
def fnExactAreTripsUptoRow : OpenClaim := { program := "ytphflbgljejokaa", sum := "d2dc13781eccd027d12dcbe8108480468556bf46db097251da31ac3cc855e39d", func := "loop.example/g01019/laws.FnExactAreTrips", spec := "fnExactAreTrips", apart := false, narrowed := true }
def FnExactAreTripsUptoSaid : Prop := fnExactAreTripsUptoRow.holds Try.pinned (OpenSpec.upto fnExactAreTripsSpec)

/-- 'laws.FnExactArrivalOf', WHERE WHAT IT READS IS OF BULK AT MOST 1048576: true; the input reads as it did. -/
def fnExactArrivalOfUptoRow : OpenClaim := { program := "ytphflbgljejokaa", sum := "d2dc13781eccd027d12dcbe8108480468556bf46db097251da31ac3cc855e39d", func := "loop.example/g01019/laws.FnExactArrivalOf", spec := "fnExactArrivalOf", apart := false, narrowed := true }
def FnExactArrivalOfUptoSaid : Prop := fnExactArrivalOfUptoRow.holds Try.pinned (OpenSpec.upto fnExactArrivalOfSpec)

/-- 'laws.FnExactSectionTimes', WHERE WHAT IT READS IS OF BULK AT MOST 1048576: true; the input reads as it did. -/
def fnExactSectionTimesUptoRow : OpenClaim := { program := "ytphflbgljejokaa", sum := "d2dc13781eccd027d12dcbe8108480468556bf46db097251da31ac3cc855e39d", func := "loop.example/g01019/laws.FnExactSectionTimes", spec := "fnExactSectionTimes", apart := false, narrowed := true }
def FnExactSectionTimesUptoSaid : Prop := fnExactSectionTimesUptoRow.holds Try.pinned (OpenSpec.upto fnExactSectionTimesSpec)

/-- 'laws.FnExactMeetingTrips', WHERE WHAT IT READS IS OF BULK AT MOST 1048576: true; the input reads as it did. -/
def fnExactMeetingTripsUptoRow : OpenClaim := { program := "ytphflbgljejokaa", sum := "d2dc13781eccd027d12dcbe8108480468556bf46db097251da31ac3cc855e39d", func := "loop.example/g01019/laws.FnExactMeetingTrips", spec := "fnExactMeetingTrips", apart := false, narrowed := true }
def FnExactMeetingTripsUptoSaid : Prop := fnExactMeetingTripsUptoRow.holds Try.pinned (OpenSpec.upto fnExactMeetingTripsSpec)

/-- 'laws.FnExactFirstStart', WHERE WHAT IT READS IS OF BULK AT MOST 1048576: true; the input reads as it did. -/
def fnExactFirstStartUptoRow : OpenClaim := { program := "ytphflbgljejokaa", sum := "d2dc13781eccd027d12dcbe8108480468556bf46db097251da31ac3cc855e39d", func := "loop.example/g01019/laws.FnExactFirstStart", spec := "fnExactFirstStart", unfollowed := true, recurses := true, apart := false, narrowed := true }
def FnExactFirstStartUptoSaid : Prop := fnExactFirstStartUptoRow.holds Try.pinned (OpenSpec.upto fnExactFirstStartSpec)

/-- 'laws.FnExactAddTrip', WHERE WHAT IT READS IS OF BULK AT MOST 1048576: true; the input reads as it did. -/
def fnExactAddTripUptoRow : OpenClaim := { program := "ytphflbgljejokaa", sum := "d2dc13781eccd027d12dcbe8108480468556bf46db097251da31ac3cc855e39d", func := "loop.example/g01019/laws.FnExactAddTrip", spec := "fnExactAddTrip", inPlace := ["slices.overlaps[loop.example/g01019/impl.Trip]"], unfollowed := true, recurses := true, apart := false, narrowed := true }
def FnExactAddTripUptoSaid : Prop := fnExactAddTripUptoRow.holds Try.pinned (OpenSpec.upto fnExactAddTripSpec)

/-- 'laws.FnExactLoadsTo', WHERE WHAT IT READS IS OF BULK AT MOST 1048576: true; the input reads as it did. -/
def fnExactLoadsToUptoRow : OpenClaim := { program := "ytphflbgljejokaa", sum := "d2dc13781eccd027d12dcbe8108480468556bf46db097251da31ac3cc855e39d", func := "loop.example/g01019/laws.FnExactLoadsTo", spec := "fnExactLoadsTo", apart := false, narrowed := true }
def FnExactLoadsToUptoSaid : Prop := fnExactLoadsToUptoRow.holds Try.pinned (OpenSpec.upto fnExactLoadsToSpec)

/-- 'laws.FnExactOnTheWay', WHERE WHAT IT READS IS OF BULK AT MOST 1048576: true; the input reads as it did. -/
def fnExactOnTheWayUptoRow : OpenClaim := { program := "ytphflbgljejokaa", sum := "d2dc13781eccd027d12dcbe8108480468556bf46db097251da31ac3cc855e39d", func := "loop.example/g01019/laws.FnExactOnTheWay", spec := "fnExactOnTheWay", apart := false, narrowed := true }
def FnExactOnTheWayUptoSaid : Prop := fnExactOnTheWayUptoRow.holds Try.pinned (OpenSpec.upto fnExactOnTheWaySpec)

/-- 'laws.FnExactLongestQuiet', WHERE WHAT IT READS IS OF BULK AT MOST 1048576: true; the input reads as it did. -/
def fnExactLongestQuietUptoRow : OpenClaim := { program := "ytphflbgljejokaa", sum := "d2dc13781eccd027d12dcbe8108480468556bf46db097251da31ac3cc855e39d", func := "loop.example/g01019/laws.FnExactLongestQuiet", spec := "fnExactLongestQuiet", unfollowed := true, recurses := true, apart := false, narrowed := true }
def FnExactLongestQuietUptoSaid : Prop := fnExactLongestQuietUptoRow.holds Try.pinned (OpenSpec.upto fnExactLongestQuietSpec)

/-- 'laws.FnExactReverseTrip', WHERE WHAT IT READS IS OF BULK AT MOST 1048576: true; the input reads as it did. -/
def fnExactReverseTripUptoRow : OpenClaim := { program := "ytphflbgljejokaa", sum := "d2dc13781eccd027d12dcbe8108480468556bf46db097251da31ac3cc855e39d", func := "loop.example/g01019/laws.FnExactReverseTrip", spec := "fnExactReverseTrip", unfollowed := true, recurses := true, apart := false, narrowed := true }
def FnExactReverseTripUptoSaid : Prop := fnExactReverseTripUptoRow.holds Try.pinned (OpenSpec.upto fnExactReverseTripSpec)

end Rows
end Go.Proofs.Ytphflbgljejokaa
