/-
  DERIVED. GIVEN WITH THE SEED: THE CARDS: each row of YtckiloacbanbmaaDoorRows.lean that lists a variable, with what it lists TIED to the program's text (the seventh form; the later family's looks); each row that meets fmt, with fmt's text TOLD by the authors' own Lean function (tested against real Go, not proved from fmt's source: count such statements apart). THE CARD IS WHAT COUNTS. Prove the row's statement (the work); the ties are given (YtckiloacbanbmaaDoorTie.lean); close each card by the builder's one call (the guide's Derived/Test/ToyasCard.lean, 'card_holds'). Laid BY PROGRAM, IN A SANDBOX (cutbox-door.mjs). By AI agents, Wed Nov 11 2026. No macro, syntax, notation, axiom, sorry.
-/
import Derived.Test.YtckiloacbanbmaaDoorRows
import GoSem.ClaimSeven
namespace Go.Proofs.YtckiloacbanbmaaDoor
namespace Rows

/-- THE TIED CARD OF 'laws.FnExactDepotOk'. -/
def fnExactDepotOkCard : Claim7 := { stood := { row := fnExactDepotOkRow, standIns := [], harness := (true, "8a60f2204bf4044668e9ef39a17469d5351ba4c5203b400bd3852850cccd4a37"), looks := false }, kinds := [], alts := [], laidByText := true, laidKinds := [.data, .data, .data], laidTests := true, laidLooks := .later }
def FnExactDepotOkCardSaid : Prop := Claim7.holds Tryd.pinned (.plain (OpenSpec.ofChange fnExactDepotOkSpec)) fnExactDepotOkCard

/-- THE SECOND FORM's CARD OF 'laws.FnExactDepotOk'. -/
def fnExactDepotOkUptoCard : Claim7 := { stood := { row := fnExactDepotOkUptoRow, standIns := [], harness := (true, "8a60f2204bf4044668e9ef39a17469d5351ba4c5203b400bd3852850cccd4a37"), looks := false }, kinds := [], alts := [], laidByText := true, laidKinds := [.data, .data, .data], laidTests := true, laidLooks := .later }
def FnExactDepotOkUptoCardSaid : Prop := Claim7.holds Tryd.pinned (.plain (OpenSpec.upto fnExactDepotOkSpec)) fnExactDepotOkUptoCard
end Rows
end Go.Proofs.YtckiloacbanbmaaDoor
