/-
  DERIVED. GIVEN WITH THE SEED: THE CARDS: each row of YtbheimjepikkfaaDoorRows.lean that lists a variable, with what it lists TIED to the program's text (the seventh form; the later family's looks); each row that meets fmt, with fmt's text TOLD by the authors' own Lean function (tested against real Go, not proved from fmt's source: count such statements apart). THE CARD IS WHAT COUNTS. Prove the row's statement (the work); the ties are given (YtbheimjepikkfaaDoorTie.lean); close each card by the builder's one call (the guide's Derived/Test/ToyasCard.lean, 'card_holds'). Laid BY PROGRAM, IN A SANDBOX (cutbox-door.mjs). By AI agents, Wed Nov 11 2026. No macro, syntax, notation, axiom, sorry.
-/
import Derived.Test.YtbheimjepikkfaaDoorRows
import GoSem.ClaimSeven
namespace Go.Proofs.YtbheimjepikkfaaDoor
namespace Rows

/-- THE TIED CARD OF 'laws.FnExactTermOk'. -/
def fnExactTermOkCard : Claim7 := { stood := { row := fnExactTermOkRow, standIns := [], harness := (true, "44c8d199f3c2ca240434bdbc6d4dd7acac76eed7649860a609a40baf5bc4f456"), looks := false }, kinds := [], alts := [], laidByText := true, laidKinds := [.data, .pinned], laidTests := true, laidLooks := .later }
def FnExactTermOkCardSaid : Prop := Claim7.holds Tryd.pinned (.plain (OpenSpec.ofChange fnExactTermOkSpec)) fnExactTermOkCard

/-- THE TIED CARD OF 'laws.FnExactPaneOk'. -/
def fnExactPaneOkCard : Claim7 := { stood := { row := fnExactPaneOkRow, standIns := [], harness := (true, "44c8d199f3c2ca240434bdbc6d4dd7acac76eed7649860a609a40baf5bc4f456"), looks := false }, kinds := [], alts := [], laidByText := true, laidKinds := [.data, .pinned], laidTests := true, laidLooks := .later }
def FnExactPaneOkCardSaid : Prop := Claim7.holds Tryd.pinned (.plain (OpenSpec.ofChange fnExactPaneOkSpec)) fnExactPaneOkCard

/-- THE SECOND FORM's CARD OF 'laws.FnExactTermOk'. -/
def fnExactTermOkUptoCard : Claim7 := { stood := { row := fnExactTermOkUptoRow, standIns := [], harness := (true, "44c8d199f3c2ca240434bdbc6d4dd7acac76eed7649860a609a40baf5bc4f456"), looks := false }, kinds := [], alts := [], laidByText := true, laidKinds := [.data, .pinned], laidTests := true, laidLooks := .later }
def FnExactTermOkUptoCardSaid : Prop := Claim7.holds Tryd.pinned (.plain (OpenSpec.upto fnExactTermOkSpec)) fnExactTermOkUptoCard

/-- THE SECOND FORM's CARD OF 'laws.FnExactPaneOk'. -/
def fnExactPaneOkUptoCard : Claim7 := { stood := { row := fnExactPaneOkUptoRow, standIns := [], harness := (true, "44c8d199f3c2ca240434bdbc6d4dd7acac76eed7649860a609a40baf5bc4f456"), looks := false }, kinds := [], alts := [], laidByText := true, laidKinds := [.data, .pinned], laidTests := true, laidLooks := .later }
def FnExactPaneOkUptoCardSaid : Prop := Claim7.holds Tryd.pinned (.plain (OpenSpec.upto fnExactPaneOkSpec)) fnExactPaneOkUptoCard
end Rows
end Go.Proofs.YtbheimjepikkfaaDoor
