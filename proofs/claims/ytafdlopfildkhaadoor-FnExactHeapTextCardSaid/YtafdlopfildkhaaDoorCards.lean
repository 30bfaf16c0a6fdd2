/-
  DERIVED. GIVEN WITH THE SEED: THE CARDS: each row of YtafdlopfildkhaaDoorRows.lean that lists a variable, with what it lists TIED to the program's text (the seventh form; the later family's looks); each row that meets fmt, with fmt's text TOLD by the authors' own Lean function (tested against real Go, not proved from fmt's source: count such statements apart). THE CARD IS WHAT COUNTS. Prove the row's statement (the work); the ties are given (YtafdlopfildkhaaDoorTie.lean); close each card by the builder's one call (the guide's Derived/Test/ToyasCard.lean, 'card_holds'). Laid BY PROGRAM, IN A SANDBOX (cutbox-door.mjs). By AI agents, Wed Nov 11 2026. No macro, syntax, notation, axiom, sorry.
-/
import Derived.Test.YtafdlopfildkhaaDoorRows
import GoSem.ClaimSeven
namespace Go.Proofs.YtafdlopfildkhaaDoor
namespace Rows

/-- THE TIED CARD OF 'laws.FnHeaps'. -/
def fnHeapsCard : Claim7 := { stood := { row := fnHeapsRow, standIns := [], harness := (true, "8dae4df80dbdee048204c3ea6574cf80fa7e39fec906d37d600050bf739a5eab"), looks := false }, kinds := [], alts := [], laidByText := true, laidKinds := [.data, .data, .data], laidTests := true, laidLooks := .later }
def FnHeapsCardSaid : Prop := Claim7.holds Tryd.pinned (.plain (OpenSpec.ofChange fnHeapsSpec)) fnHeapsCard

/-- THE TIED CARD OF 'laws.FnExactHeapText'. -/
def fnExactHeapTextCard : Claim7 := { stood := { row := fnExactHeapTextRow, standIns := [], harness := (true, "8dae4df80dbdee048204c3ea6574cf80fa7e39fec906d37d600050bf739a5eab"), looks := false }, kinds := [], alts := [], laidByText := true, laidKinds := [.data, .data, .data], laidTests := true, laidLooks := .later }
def FnExactHeapTextCardSaid : Prop := Claim7.holds Tryd.pinned (.plain (OpenSpec.ofChange fnExactHeapTextSpec)) fnExactHeapTextCard

/-- THE SECOND FORM's CARD OF 'laws.FnHeaps'. -/
def fnHeapsUptoCard : Claim7 := { stood := { row := fnHeapsUptoRow, standIns := [], harness := (true, "8dae4df80dbdee048204c3ea6574cf80fa7e39fec906d37d600050bf739a5eab"), looks := false }, kinds := [], alts := [], laidByText := true, laidKinds := [.data, .data, .data], laidTests := true, laidLooks := .later }
def FnHeapsUptoCardSaid : Prop := Claim7.holds Tryd.pinned (.plain (OpenSpec.upto fnHeapsSpec)) fnHeapsUptoCard

/-- THE SECOND FORM's CARD OF 'laws.FnExactHeapText'. -/
def fnExactHeapTextUptoCard : Claim7 := { stood := { row := fnExactHeapTextUptoRow, standIns := [], harness := (true, "8dae4df80dbdee048204c3ea6574cf80fa7e39fec906d37d600050bf739a5eab"), looks := false }, kinds := [], alts := [], laidByText := true, laidKinds := [.data, .data, .data], laidTests := true, laidLooks := .later }
def FnExactHeapTextUptoCardSaid : Prop := Claim7.holds Tryd.pinned (.plain (OpenSpec.upto fnExactHeapTextSpec)) fnExactHeapTextUptoCard
end Rows
end Go.Proofs.YtafdlopfildkhaaDoor
