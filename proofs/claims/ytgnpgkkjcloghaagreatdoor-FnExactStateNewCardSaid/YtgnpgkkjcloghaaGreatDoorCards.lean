/-
  DERIVED. GIVEN WITH THE SEED: THE CARDS: each row of YtgnpgkkjcloghaaGreatDoorRows.lean that lists a variable, with what it lists TIED to the program's text (the seventh form; the later family's looks); each row that meets fmt, with fmt's text TOLD by the authors' own Lean function (tested against real Go, not proved from fmt's source: count such statements apart). THE CARD IS WHAT COUNTS. Prove the row's statement (the work); the ties are given (YtgnpgkkjcloghaaGreatDoorTie.lean); close each card by the builder's one call (the guide's Derived/Test/ToyasCard.lean, 'card_holds'). Laid BY PROGRAM, IN A SANDBOX (cutbox-door.mjs). By AI agents, Wed Nov 11 2026. No macro, syntax, notation, axiom, sorry.
-/
import Derived.Test.YtgnpgkkjcloghaaGreatDoorRows
import GoSem.ClaimSeven
namespace Go.Proofs.YtgnpgkkjcloghaaGreatDoor
namespace Rows

/-- THE TIED CARD OF 'laws.FnExactStateOk'. -/
def fnExactStateOkCard : Claim7 := { stood := { row := fnExactStateOkRow, standIns := [], harness := (true, "2dece3fecd563b59f841ff4329c240528b83f1393afa8e5556ae80c3df7dd0ef"), looks := true }, kinds := [], alts := [], laidByText := true, laidKinds := [.data, .pinned], laidTests := true, laidLooks := .later }
def FnExactStateOkCardSaid : Prop := Claim7.holds Tryz.pinned (.plain (OpenSpec.ofChange fnExactStateOkSpec)) fnExactStateOkCard

/-- THE TIED CARD OF 'laws.FnExactStateNew'. -/
def fnExactStateNewCard : Claim7 := { stood := { row := fnExactStateNewRow, standIns := [], harness := (true, "2dece3fecd563b59f841ff4329c240528b83f1393afa8e5556ae80c3df7dd0ef"), looks := true }, kinds := [], alts := [], laidByText := true, laidKinds := [.data, .pinned], laidTests := true, laidLooks := .later }
def FnExactStateNewCardSaid : Prop := Claim7.holds Tryz.pinned (.plain (OpenSpec.ofChange fnExactStateNewSpec)) fnExactStateNewCard

/-- THE SECOND FORM's CARD OF 'laws.FnExactStateOk'. -/
def fnExactStateOkUptoCard : Claim7 := { stood := { row := fnExactStateOkUptoRow, standIns := [], harness := (true, "2dece3fecd563b59f841ff4329c240528b83f1393afa8e5556ae80c3df7dd0ef"), looks := true }, kinds := [], alts := [], laidByText := true, laidKinds := [.data, .pinned], laidTests := true, laidLooks := .later }
def FnExactStateOkUptoCardSaid : Prop := Claim7.holds Tryz.pinned (.plain (OpenSpec.upto fnExactStateOkSpec)) fnExactStateOkUptoCard

/-- THE SECOND FORM's CARD OF 'laws.FnExactStateNew'. -/
def fnExactStateNewUptoCard : Claim7 := { stood := { row := fnExactStateNewUptoRow, standIns := [], harness := (true, "2dece3fecd563b59f841ff4329c240528b83f1393afa8e5556ae80c3df7dd0ef"), looks := true }, kinds := [], alts := [], laidByText := true, laidKinds := [.data, .pinned], laidTests := true, laidLooks := .later }
def FnExactStateNewUptoCardSaid : Prop := Claim7.holds Tryz.pinned (.plain (OpenSpec.upto fnExactStateNewSpec)) fnExactStateNewUptoCard
end Rows
end Go.Proofs.YtgnpgkkjcloghaaGreatDoor
