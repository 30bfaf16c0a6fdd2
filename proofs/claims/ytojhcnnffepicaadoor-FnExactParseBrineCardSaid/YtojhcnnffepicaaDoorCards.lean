/-
  DERIVED. GIVEN WITH THE SEED: THE CARDS: each row of YtojhcnnffepicaaDoorRows.lean that lists a variable, with what it lists TIED to the program's text (the seventh form; the later family's looks); each row that meets fmt, with fmt's text TOLD by the authors' own Lean function (tested against real Go, not proved from fmt's source: count such statements apart). THE CARD IS WHAT COUNTS. Prove the row's statement (the work); the ties are given (YtojhcnnffepicaaDoorTie.lean); close each card by the builder's one call (the guide's Derived/Test/ToyasCard.lean, 'card_holds'). Laid BY PROGRAM, IN A SANDBOX (cutbox-door.mjs). By AI agents, Wed Nov 11 2026. No macro, syntax, notation, axiom, sorry.
-/
import Derived.Test.YtojhcnnffepicaaDoorRows
import GoSem.ClaimSeven
namespace Go.Proofs.YtojhcnnffepicaaDoor
namespace Rows

/-- THE TIED CARD OF 'laws.FnSplitJoin'. -/
def fnSplitJoinCard : Claim7 := { stood := { row := fnSplitJoinRow, standIns := [], harness := (true, "2302bfdc6e5beeb4891c886510bd260e6364395e4ae123feaff2ab1d482c5d4d"), looks := true }, kinds := [], alts := [], laidByText := true, laidKinds := [.data, .pinned], laidTests := true, laidLooks := .later }
def FnSplitJoinCardSaid : Prop := Claim7.holds Tryd.pinned (.plain (OpenSpec.ofChange fnSplitJoinSpec)) fnSplitJoinCard

/-- THE TIED CARD OF 'laws.FnBrines'. -/
def fnBrinesCard : Claim7 := { stood := { row := fnBrinesRow, standIns := [], harness := (true, "2302bfdc6e5beeb4891c886510bd260e6364395e4ae123feaff2ab1d482c5d4d"), looks := true }, kinds := [], alts := [], laidByText := true, laidKinds := [.data, .data, .data, .sentinel, .sentinel], laidTests := true, laidLooks := .later }
def FnBrinesCardSaid : Prop := Claim7.holds Tryd.pinned (.plain (OpenSpec.ofChange fnBrinesSpec)) fnBrinesCard

/-- THE TIED CARD OF 'laws.FnExactSplitString'. -/
def fnExactSplitStringCard : Claim7 := { stood := { row := fnExactSplitStringRow, standIns := [], harness := (true, "2302bfdc6e5beeb4891c886510bd260e6364395e4ae123feaff2ab1d482c5d4d"), looks := true }, kinds := [], alts := [], laidByText := true, laidKinds := [.data, .pinned], laidTests := true, laidLooks := .later }
def FnExactSplitStringCardSaid : Prop := Claim7.holds Tryd.pinned (.plain (OpenSpec.ofChange fnExactSplitStringSpec)) fnExactSplitStringCard

/-- THE TIED CARD OF 'laws.FnExactBrineText'. -/
def fnExactBrineTextCard : Claim7 := { stood := { row := fnExactBrineTextRow, standIns := [], harness := (true, "2302bfdc6e5beeb4891c886510bd260e6364395e4ae123feaff2ab1d482c5d4d"), looks := true }, kinds := [], alts := [], laidByText := true, laidKinds := [.data, .data, .data], laidTests := true, laidLooks := .later }
def FnExactBrineTextCardSaid : Prop := Claim7.holds Tryd.pinned (.plain (OpenSpec.ofChange fnExactBrineTextSpec)) fnExactBrineTextCard

/-- THE TIED CARD OF 'laws.FnExactParseBrine'. -/
def fnExactParseBrineCard : Claim7 := { stood := { row := fnExactParseBrineRow, standIns := [], harness := (true, "2302bfdc6e5beeb4891c886510bd260e6364395e4ae123feaff2ab1d482c5d4d"), looks := true }, kinds := [], alts := [], laidByText := true, laidKinds := [.data, .data, .data, .sentinel, .sentinel], laidTests := true, laidLooks := .later }
def FnExactParseBrineCardSaid : Prop := Claim7.holds Tryd.pinned (.plain (OpenSpec.ofChange fnExactParseBrineSpec)) fnExactParseBrineCard

/-- THE SECOND FORM's CARD OF 'laws.FnSplitJoin'. -/
def fnSplitJoinUptoCard : Claim7 := { stood := { row := fnSplitJoinUptoRow, standIns := [], harness := (true, "2302bfdc6e5beeb4891c886510bd260e6364395e4ae123feaff2ab1d482c5d4d"), looks := true }, kinds := [], alts := [], laidByText := true, laidKinds := [.data, .pinned], laidTests := true, laidLooks := .later }
def FnSplitJoinUptoCardSaid : Prop := Claim7.holds Tryd.pinned (.plain (OpenSpec.upto fnSplitJoinSpec)) fnSplitJoinUptoCard

/-- THE SECOND FORM's CARD OF 'laws.FnBrines'. -/
def fnBrinesUptoCard : Claim7 := { stood := { row := fnBrinesUptoRow, standIns := [], harness := (true, "2302bfdc6e5beeb4891c886510bd260e6364395e4ae123feaff2ab1d482c5d4d"), looks := true }, kinds := [], alts := [], laidByText := true, laidKinds := [.data, .data, .data, .sentinel, .sentinel], laidTests := true, laidLooks := .later }
def FnBrinesUptoCardSaid : Prop := Claim7.holds Tryd.pinned (.plain (OpenSpec.upto fnBrinesSpec)) fnBrinesUptoCard

/-- THE SECOND FORM's CARD OF 'laws.FnExactSplitString'. -/
def fnExactSplitStringUptoCard : Claim7 := { stood := { row := fnExactSplitStringUptoRow, standIns := [], harness := (true, "2302bfdc6e5beeb4891c886510bd260e6364395e4ae123feaff2ab1d482c5d4d"), looks := true }, kinds := [], alts := [], laidByText := true, laidKinds := [.data, .pinned], laidTests := true, laidLooks := .later }
def FnExactSplitStringUptoCardSaid : Prop := Claim7.holds Tryd.pinned (.plain (OpenSpec.upto fnExactSplitStringSpec)) fnExactSplitStringUptoCard

/-- THE SECOND FORM's CARD OF 'laws.FnExactBrineText'. -/
def fnExactBrineTextUptoCard : Claim7 := { stood := { row := fnExactBrineTextUptoRow, standIns := [], harness := (true, "2302bfdc6e5beeb4891c886510bd260e6364395e4ae123feaff2ab1d482c5d4d"), looks := true }, kinds := [], alts := [], laidByText := true, laidKinds := [.data, .data, .data], laidTests := true, laidLooks := .later }
def FnExactBrineTextUptoCardSaid : Prop := Claim7.holds Tryd.pinned (.plain (OpenSpec.upto fnExactBrineTextSpec)) fnExactBrineTextUptoCard

/-- THE SECOND FORM's CARD OF 'laws.FnExactParseBrine'. -/
def fnExactParseBrineUptoCard : Claim7 := { stood := { row := fnExactParseBrineUptoRow, standIns := [], harness := (true, "2302bfdc6e5beeb4891c886510bd260e6364395e4ae123feaff2ab1d482c5d4d"), looks := true }, kinds := [], alts := [], laidByText := true, laidKinds := [.data, .data, .data, .sentinel, .sentinel], laidTests := true, laidLooks := .later }
def FnExactParseBrineUptoCardSaid : Prop := Claim7.holds Tryd.pinned (.plain (OpenSpec.upto fnExactParseBrineSpec)) fnExactParseBrineUptoCard
end Rows
end Go.Proofs.YtojhcnnffepicaaDoor
