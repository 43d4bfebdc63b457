/-
  DERIVED. GIVEN WITH THE SEED: THE CARDS: each row of YtmmdggmnjmoebaaDoorRows.lean that lists a variable, with what it lists TIED to the program's text (the seventh form; the later family's looks); each row that meets fmt, with fmt's text TOLD by the authors' own Lean function (tested against real Go, not proved from fmt's source: count such statements apart). THE CARD IS WHAT COUNTS. Prove the row's statement (the work); the ties are given (YtmmdggmnjmoebaaDoorTie.lean); close each card by the builder's one call (the guide's Derived/Test/ToyasCard.lean, 'card_holds'). Laid BY PROGRAM, IN A SANDBOX (cutbox-door.mjs). By AI agents, Wed Nov 11 2026. No macro, syntax, notation, axiom, sorry.
-/
import Derived.Test.YtmmdggmnjmoebaaDoorRows
import GoSem.ClaimSeven
namespace Go.Proofs.YtmmdggmnjmoebaaDoor
namespace Rows

/-- THE TIED CARD OF 'laws.FnExactRuneRead'. -/
def fnExactRuneReadCard : Claim7 := { stood := { row := fnExactRuneReadRow, standIns := [], harness := (true, "871fe2082ad8e2df35c2c6673caf93013508478f6be528cb62304ede9c330342"), looks := false }, kinds := [], alts := [], laidByText := true, laidKinds := [.data, .pinned], laidTests := true, laidLooks := .later }
def FnExactRuneReadCardSaid : Prop := Claim7.holds Tryd.pinned (.plain (OpenSpec.ofChange fnExactRuneReadSpec)) fnExactRuneReadCard

/-- THE TIED CARD OF 'laws.FnExactRuneBegin'. -/
def fnExactRuneBeginCard : Claim7 := { stood := { row := fnExactRuneBeginRow, standIns := [], harness := (true, "871fe2082ad8e2df35c2c6673caf93013508478f6be528cb62304ede9c330342"), looks := false }, kinds := [], alts := [], laidByText := true, laidKinds := [.data, .pinned], laidTests := true, laidLooks := .later }
def FnExactRuneBeginCardSaid : Prop := Claim7.holds Tryd.pinned (.plain (OpenSpec.ofChange fnExactRuneBeginSpec)) fnExactRuneBeginCard

/-- THE SECOND FORM's CARD OF 'laws.FnExactRuneRead'. -/
def fnExactRuneReadUptoCard : Claim7 := { stood := { row := fnExactRuneReadUptoRow, standIns := [], harness := (true, "871fe2082ad8e2df35c2c6673caf93013508478f6be528cb62304ede9c330342"), looks := false }, kinds := [], alts := [], laidByText := true, laidKinds := [.data, .pinned], laidTests := true, laidLooks := .later }
def FnExactRuneReadUptoCardSaid : Prop := Claim7.holds Tryd.pinned (.plain (OpenSpec.upto fnExactRuneReadSpec)) fnExactRuneReadUptoCard

/-- THE SECOND FORM's CARD OF 'laws.FnExactRuneBegin'. -/
def fnExactRuneBeginUptoCard : Claim7 := { stood := { row := fnExactRuneBeginUptoRow, standIns := [], harness := (true, "871fe2082ad8e2df35c2c6673caf93013508478f6be528cb62304ede9c330342"), looks := false }, kinds := [], alts := [], laidByText := true, laidKinds := [.data, .pinned], laidTests := true, laidLooks := .later }
def FnExactRuneBeginUptoCardSaid : Prop := Claim7.holds Tryd.pinned (.plain (OpenSpec.upto fnExactRuneBeginSpec)) fnExactRuneBeginUptoCard
end Rows
end Go.Proofs.YtmmdggmnjmoebaaDoor
