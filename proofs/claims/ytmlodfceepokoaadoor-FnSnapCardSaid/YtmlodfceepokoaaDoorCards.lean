/-
  DERIVED. GIVEN WITH THE SEED: THE CARDS: each row of YtmlodfceepokoaaDoorRows.lean that lists a variable, with what it lists TIED to the program's text (the seventh form; the later family's looks); each row that meets fmt, with fmt's text TOLD by the authors' own Lean function (tested against real Go, not proved from fmt's source: count such statements apart). THE CARD IS WHAT COUNTS. Prove the row's statement (the work); the ties are given (YtmlodfceepokoaaDoorTie.lean); close each card by the builder's one call (the guide's Derived/Test/ToyasCard.lean, 'card_holds'). Laid BY PROGRAM, IN A SANDBOX (cutbox-door.mjs). By AI agents, Wed Nov 11 2026. No macro, syntax, notation, axiom, sorry.
-/
import Derived.Test.YtmlodfceepokoaaDoorRows
import GoSem.ClaimSeven
namespace Go.Proofs.YtmlodfceepokoaaDoor
namespace Rows

/-- THE TIED CARD OF 'laws.FnSnap'. -/
def fnSnapCard : Claim7 := { stood := { row := fnSnapRow, standIns := [], harness := (true, "93dfb4f3d47707a1781a4b089ac491f20e2fe28e60420fdf9874a8e74e67ea57"), looks := true }, kinds := [], alts := [], laidByText := true, laidKinds := [.data, .data, .data, .handle, .sentinel, .sentinel], laidTests := true, laidLooks := .later }
def FnSnapCardSaid : Prop := Claim7.holds Tryd.pinned (.plain (OpenSpec.ofChange fnSnapSpec)) fnSnapCard

/-- THE TIED CARD OF 'laws.FnExactSnapRead'. -/
def fnExactSnapReadCard : Claim7 := { stood := { row := fnExactSnapReadRow, standIns := [], harness := (true, "93dfb4f3d47707a1781a4b089ac491f20e2fe28e60420fdf9874a8e74e67ea57"), looks := true }, kinds := [], alts := [], laidByText := true, laidKinds := [.handle], laidTests := true, laidLooks := .later }
def FnExactSnapReadCardSaid : Prop := Claim7.holds Tryd.pinned (.plain (OpenSpec.ofChange fnExactSnapReadSpec)) fnExactSnapReadCard

/-- THE TIED CARD OF 'laws.FnExactSnapName'. -/
def fnExactSnapNameCard : Claim7 := { stood := { row := fnExactSnapNameRow, standIns := [], harness := (true, "93dfb4f3d47707a1781a4b089ac491f20e2fe28e60420fdf9874a8e74e67ea57"), looks := true }, kinds := [], alts := [], laidByText := true, laidKinds := [.data, .data, .data], laidTests := true, laidLooks := .later }
def FnExactSnapNameCardSaid : Prop := Claim7.holds Tryd.pinned (.plain (OpenSpec.ofChange fnExactSnapNameSpec)) fnExactSnapNameCard

/-- THE TIED CARD OF 'laws.FnExactLogName'. -/
def fnExactLogNameCard : Claim7 := { stood := { row := fnExactLogNameRow, standIns := [], harness := (true, "93dfb4f3d47707a1781a4b089ac491f20e2fe28e60420fdf9874a8e74e67ea57"), looks := true }, kinds := [], alts := [], laidByText := true, laidKinds := [.data, .data, .data], laidTests := true, laidLooks := .later }
def FnExactLogNameCardSaid : Prop := Claim7.holds Tryd.pinned (.plain (OpenSpec.ofChange fnExactLogNameSpec)) fnExactLogNameCard

/-- THE TIED CARD OF 'laws.FnExactGenOf'. -/
def fnExactGenOfCard : Claim7 := { stood := { row := fnExactGenOfRow, standIns := [], harness := (true, "93dfb4f3d47707a1781a4b089ac491f20e2fe28e60420fdf9874a8e74e67ea57"), looks := true }, kinds := [], alts := [], laidByText := true, laidKinds := [.data, .data, .data, .sentinel, .sentinel], laidTests := true, laidLooks := .later }
def FnExactGenOfCardSaid : Prop := Claim7.holds Tryd.pinned (.plain (OpenSpec.ofChange fnExactGenOfSpec)) fnExactGenOfCard

/-- THE SECOND FORM's CARD OF 'laws.FnSnap'. -/
def fnSnapUptoCard : Claim7 := { stood := { row := fnSnapUptoRow, standIns := [], harness := (true, "93dfb4f3d47707a1781a4b089ac491f20e2fe28e60420fdf9874a8e74e67ea57"), looks := true }, kinds := [], alts := [], laidByText := true, laidKinds := [.data, .data, .data, .handle, .sentinel, .sentinel], laidTests := true, laidLooks := .later }
def FnSnapUptoCardSaid : Prop := Claim7.holds Tryd.pinned (.plain (OpenSpec.upto fnSnapSpec)) fnSnapUptoCard

/-- THE SECOND FORM's CARD OF 'laws.FnExactSnapRead'. -/
def fnExactSnapReadUptoCard : Claim7 := { stood := { row := fnExactSnapReadUptoRow, standIns := [], harness := (true, "93dfb4f3d47707a1781a4b089ac491f20e2fe28e60420fdf9874a8e74e67ea57"), looks := true }, kinds := [], alts := [], laidByText := true, laidKinds := [.handle], laidTests := true, laidLooks := .later }
def FnExactSnapReadUptoCardSaid : Prop := Claim7.holds Tryd.pinned (.plain (OpenSpec.upto fnExactSnapReadSpec)) fnExactSnapReadUptoCard

/-- THE SECOND FORM's CARD OF 'laws.FnExactSnapName'. -/
def fnExactSnapNameUptoCard : Claim7 := { stood := { row := fnExactSnapNameUptoRow, standIns := [], harness := (true, "93dfb4f3d47707a1781a4b089ac491f20e2fe28e60420fdf9874a8e74e67ea57"), looks := true }, kinds := [], alts := [], laidByText := true, laidKinds := [.data, .data, .data], laidTests := true, laidLooks := .later }
def FnExactSnapNameUptoCardSaid : Prop := Claim7.holds Tryd.pinned (.plain (OpenSpec.upto fnExactSnapNameSpec)) fnExactSnapNameUptoCard

/-- THE SECOND FORM's CARD OF 'laws.FnExactLogName'. -/
def fnExactLogNameUptoCard : Claim7 := { stood := { row := fnExactLogNameUptoRow, standIns := [], harness := (true, "93dfb4f3d47707a1781a4b089ac491f20e2fe28e60420fdf9874a8e74e67ea57"), looks := true }, kinds := [], alts := [], laidByText := true, laidKinds := [.data, .data, .data], laidTests := true, laidLooks := .later }
def FnExactLogNameUptoCardSaid : Prop := Claim7.holds Tryd.pinned (.plain (OpenSpec.upto fnExactLogNameSpec)) fnExactLogNameUptoCard

/-- THE SECOND FORM's CARD OF 'laws.FnExactGenOf'. -/
def fnExactGenOfUptoCard : Claim7 := { stood := { row := fnExactGenOfUptoRow, standIns := [], harness := (true, "93dfb4f3d47707a1781a4b089ac491f20e2fe28e60420fdf9874a8e74e67ea57"), looks := true }, kinds := [], alts := [], laidByText := true, laidKinds := [.data, .data, .data, .sentinel, .sentinel], laidTests := true, laidLooks := .later }
def FnExactGenOfUptoCardSaid : Prop := Claim7.holds Tryd.pinned (.plain (OpenSpec.upto fnExactGenOfSpec)) fnExactGenOfUptoCard
end Rows
end Go.Proofs.YtmlodfceepokoaaDoor
