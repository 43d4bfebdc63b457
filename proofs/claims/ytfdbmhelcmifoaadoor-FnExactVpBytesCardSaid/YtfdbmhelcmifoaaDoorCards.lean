/-
  DERIVED. GIVEN WITH THE SEED: THE CARDS: each row of YtfdbmhelcmifoaaDoorRows.lean that lists a variable, with what it lists TIED to the program's text (the seventh form; the later family's looks); each row that meets fmt, with fmt's text TOLD by the authors' own Lean function (tested against real Go, not proved from fmt's source: count such statements apart). THE CARD IS WHAT COUNTS. Prove the row's statement (the work); the ties are given (YtfdbmhelcmifoaaDoorTie.lean); close each card by the builder's one call (the guide's Derived/Test/ToyasCard.lean, 'card_holds'). Laid BY PROGRAM, IN A SANDBOX (cutbox-door.mjs). By AI agents, Wed Nov 11 2026. No macro, syntax, notation, axiom, sorry.
-/
import Derived.Test.YtfdbmhelcmifoaaDoorRows
import GoSem.ClaimSeven
namespace Go.Proofs.YtfdbmhelcmifoaaDoor
namespace Rows

/-- THE TIED CARD OF 'laws.FnExactTermOk'. -/
def fnExactTermOkCard : Claim7 := { stood := { row := fnExactTermOkRow, standIns := [], harness := (true, "0b612fce4acee94e0733cd0e5e488a9e6de1accd15c767f1465cdaf3798533d5"), looks := false }, kinds := [], alts := [], laidByText := true, laidKinds := [.data, .pinned], laidTests := true, laidLooks := .later }
def FnExactTermOkCardSaid : Prop := Claim7.holds Tryd.pinned (.plain (OpenSpec.ofChange fnExactTermOkSpec)) fnExactTermOkCard

/-- THE TIED CARD OF 'laws.FnExactVpByte'. -/
def fnExactVpByteCard : Claim7 := { stood := { row := fnExactVpByteRow, standIns := [], harness := (true, "0b612fce4acee94e0733cd0e5e488a9e6de1accd15c767f1465cdaf3798533d5"), looks := false }, kinds := [], alts := [], laidByText := true, laidKinds := [.data, .pinned], laidTests := true, laidLooks := .later }
def FnExactVpByteCardSaid : Prop := Claim7.holds Tryd.pinned (.plain (OpenSpec.ofChange fnExactVpByteSpec)) fnExactVpByteCard

/-- THE TIED CARD OF 'laws.FnExactVpBytes'. -/
def fnExactVpBytesCard : Claim7 := { stood := { row := fnExactVpBytesRow, standIns := [], harness := (true, "0b612fce4acee94e0733cd0e5e488a9e6de1accd15c767f1465cdaf3798533d5"), looks := false }, kinds := [], alts := [], laidByText := true, laidKinds := [.data, .pinned], laidTests := true, laidLooks := .later }
def FnExactVpBytesCardSaid : Prop := Claim7.holds Tryd.pinned (.plain (OpenSpec.ofChange fnExactVpBytesSpec)) fnExactVpBytesCard

/-- THE SECOND FORM's CARD OF 'laws.FnExactTermOk'. -/
def fnExactTermOkUptoCard : Claim7 := { stood := { row := fnExactTermOkUptoRow, standIns := [], harness := (true, "0b612fce4acee94e0733cd0e5e488a9e6de1accd15c767f1465cdaf3798533d5"), looks := false }, kinds := [], alts := [], laidByText := true, laidKinds := [.data, .pinned], laidTests := true, laidLooks := .later }
def FnExactTermOkUptoCardSaid : Prop := Claim7.holds Tryd.pinned (.plain (OpenSpec.upto fnExactTermOkSpec)) fnExactTermOkUptoCard

/-- THE SECOND FORM's CARD OF 'laws.FnExactVpByte'. -/
def fnExactVpByteUptoCard : Claim7 := { stood := { row := fnExactVpByteUptoRow, standIns := [], harness := (true, "0b612fce4acee94e0733cd0e5e488a9e6de1accd15c767f1465cdaf3798533d5"), looks := false }, kinds := [], alts := [], laidByText := true, laidKinds := [.data, .pinned], laidTests := true, laidLooks := .later }
def FnExactVpByteUptoCardSaid : Prop := Claim7.holds Tryd.pinned (.plain (OpenSpec.upto fnExactVpByteSpec)) fnExactVpByteUptoCard

/-- THE SECOND FORM's CARD OF 'laws.FnExactVpBytes'. -/
def fnExactVpBytesUptoCard : Claim7 := { stood := { row := fnExactVpBytesUptoRow, standIns := [], harness := (true, "0b612fce4acee94e0733cd0e5e488a9e6de1accd15c767f1465cdaf3798533d5"), looks := false }, kinds := [], alts := [], laidByText := true, laidKinds := [.data, .pinned], laidTests := true, laidLooks := .later }
def FnExactVpBytesUptoCardSaid : Prop := Claim7.holds Tryd.pinned (.plain (OpenSpec.upto fnExactVpBytesSpec)) fnExactVpBytesUptoCard
end Rows
end Go.Proofs.YtfdbmhelcmifoaaDoor
