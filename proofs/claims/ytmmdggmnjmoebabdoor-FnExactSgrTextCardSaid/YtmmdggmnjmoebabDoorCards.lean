/-
  DERIVED. GIVEN WITH THE SEED: THE CARDS: each row of YtmmdggmnjmoebabDoorRows.lean that lists a variable, with what it lists TIED to the program's text (the seventh form; the later family's looks); each row that meets fmt, with fmt's text TOLD by the authors' own Lean function (tested against real Go, not proved from fmt's source: count such statements apart). THE CARD IS WHAT COUNTS. Prove the row's statement (the work); the ties are given (YtmmdggmnjmoebabDoorTie.lean); close each card by the builder's one call (the guide's Derived/Test/ToyasCard.lean, 'card_holds'). Laid BY PROGRAM, IN A SANDBOX (cutbox-door.mjs). By AI agents, Wed Nov 11 2026. No macro, syntax, notation, axiom, sorry.
-/
import Derived.Test.YtmmdggmnjmoebabDoorRows
import GoSem.ClaimSeven
namespace Go.Proofs.YtmmdggmnjmoebabDoor
namespace Rows

/-- THE TIED CARD OF 'laws.FnExactSgrText'. -/
def fnExactSgrTextCard : Claim7 := { stood := { row := fnExactSgrTextRow, standIns := [], harness := (true, "c154f575d9a73d52a485a957bbffaaea01db20b8e35c98af72a69d177c4aacb6"), looks := false }, kinds := [], alts := [], laidByText := true, laidKinds := [.data, .data, .data], laidTests := true, laidLooks := .later }
def FnExactSgrTextCardSaid : Prop := Claim7.holds Tryd.pinned (.plain (OpenSpec.ofChange fnExactSgrTextSpec)) fnExactSgrTextCard

/-- THE SECOND FORM's CARD OF 'laws.FnExactSgrText'. -/
def fnExactSgrTextUptoCard : Claim7 := { stood := { row := fnExactSgrTextUptoRow, standIns := [], harness := (true, "c154f575d9a73d52a485a957bbffaaea01db20b8e35c98af72a69d177c4aacb6"), looks := false }, kinds := [], alts := [], laidByText := true, laidKinds := [.data, .data, .data], laidTests := true, laidLooks := .later }
def FnExactSgrTextUptoCardSaid : Prop := Claim7.holds Tryd.pinned (.plain (OpenSpec.upto fnExactSgrTextSpec)) fnExactSgrTextUptoCard
end Rows
end Go.Proofs.YtmmdggmnjmoebabDoor
