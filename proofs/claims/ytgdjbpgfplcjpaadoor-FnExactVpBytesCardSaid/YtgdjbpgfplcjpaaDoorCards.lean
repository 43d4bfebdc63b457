/-
  DERIVED. GIVEN WITH THE SEED: THE CARDS: each row of YtgdjbpgfplcjpaaDoorRows.lean that lists a variable, with what it lists TIED to the program's text (the seventh form; the later family's looks); each row that meets fmt, with fmt's text TOLD by the authors' own Lean function (tested against real Go, not proved from fmt's source: count such statements apart). THE CARD IS WHAT COUNTS. Prove the row's statement (the work); the ties are given (YtgdjbpgfplcjpaaDoorTie.lean); close each card by the builder's one call (the guide's Derived/Test/ToyasCard.lean, 'card_holds'). Laid BY PROGRAM, IN A SANDBOX (cutbox-door.mjs). By AI agents, Wed Nov 11 2026. No macro, syntax, notation, axiom, sorry.
-/
import Derived.Test.YtgdjbpgfplcjpaaDoorRows
import GoSem.ClaimSeven
namespace Go.Proofs.YtgdjbpgfplcjpaaDoor
namespace Rows

/-- THE TIED CARD OF 'laws.FnParse'. -/
def fnParseCard : Claim7 := { stood := { row := fnParseRow, standIns := [], harness := (true, "a2a4d017a0df2519f3d284b5bf7153feb6fff13806dce8a571e6d5b226821f03"), looks := false }, kinds := [], alts := [], laidByText := true, laidKinds := [.data, .data, .data, .data, .pinned], laidTests := true, laidLooks := .later }
def FnParseCardSaid : Prop := Claim7.holds Tryd.pinned (.plain (OpenSpec.ofChange fnParseSpec)) fnParseCard

/-- THE TIED CARD OF 'laws.FnExactVpOk'. -/
def fnExactVpOkCard : Claim7 := { stood := { row := fnExactVpOkRow, standIns := [], harness := (true, "a2a4d017a0df2519f3d284b5bf7153feb6fff13806dce8a571e6d5b226821f03"), looks := false }, kinds := [], alts := [], laidByText := true, laidKinds := [.data, .pinned], laidTests := true, laidLooks := .later }
def FnExactVpOkCardSaid : Prop := Claim7.holds Tryd.pinned (.plain (OpenSpec.ofChange fnExactVpOkSpec)) fnExactVpOkCard

/-- THE TIED CARD OF 'laws.FnExactVpByte'. -/
def fnExactVpByteCard : Claim7 := { stood := { row := fnExactVpByteRow, standIns := [], harness := (true, "a2a4d017a0df2519f3d284b5bf7153feb6fff13806dce8a571e6d5b226821f03"), looks := false }, kinds := [], alts := [], laidByText := true, laidKinds := [.data, .pinned], laidTests := true, laidLooks := .later }
def FnExactVpByteCardSaid : Prop := Claim7.holds Tryd.pinned (.plain (OpenSpec.ofChange fnExactVpByteSpec)) fnExactVpByteCard

/-- THE TIED CARD OF 'laws.FnExactVpBytes'. -/
def fnExactVpBytesCard : Claim7 := { stood := { row := fnExactVpBytesRow, standIns := [], harness := (true, "a2a4d017a0df2519f3d284b5bf7153feb6fff13806dce8a571e6d5b226821f03"), looks := false }, kinds := [], alts := [], laidByText := true, laidKinds := [.data, .pinned], laidTests := true, laidLooks := .later }
def FnExactVpBytesCardSaid : Prop := Claim7.holds Tryd.pinned (.plain (OpenSpec.ofChange fnExactVpBytesSpec)) fnExactVpBytesCard

/-- THE TIED CARD OF 'laws.FnExactActText'. -/
def fnExactActTextCard : Claim7 := { stood := { row := fnExactActTextRow, standIns := [], harness := (true, "a2a4d017a0df2519f3d284b5bf7153feb6fff13806dce8a571e6d5b226821f03"), looks := false }, kinds := [], alts := [], laidByText := true, laidKinds := [.data, .data, .data, .data, .pinned], laidTests := true, laidLooks := .later }
def FnExactActTextCardSaid : Prop := Claim7.holds Tryd.pinned (.plain (OpenSpec.ofChange fnExactActTextSpec)) fnExactActTextCard

/-- THE SECOND FORM's CARD OF 'laws.FnParse'. -/
def fnParseUptoCard : Claim7 := { stood := { row := fnParseUptoRow, standIns := [], harness := (true, "a2a4d017a0df2519f3d284b5bf7153feb6fff13806dce8a571e6d5b226821f03"), looks := false }, kinds := [], alts := [], laidByText := true, laidKinds := [.data, .data, .data, .data, .pinned], laidTests := true, laidLooks := .later }
def FnParseUptoCardSaid : Prop := Claim7.holds Tryd.pinned (.plain (OpenSpec.upto fnParseSpec)) fnParseUptoCard

/-- THE SECOND FORM's CARD OF 'laws.FnExactVpOk'. -/
def fnExactVpOkUptoCard : Claim7 := { stood := { row := fnExactVpOkUptoRow, standIns := [], harness := (true, "a2a4d017a0df2519f3d284b5bf7153feb6fff13806dce8a571e6d5b226821f03"), looks := false }, kinds := [], alts := [], laidByText := true, laidKinds := [.data, .pinned], laidTests := true, laidLooks := .later }
def FnExactVpOkUptoCardSaid : Prop := Claim7.holds Tryd.pinned (.plain (OpenSpec.upto fnExactVpOkSpec)) fnExactVpOkUptoCard

/-- THE SECOND FORM's CARD OF 'laws.FnExactVpByte'. -/
def fnExactVpByteUptoCard : Claim7 := { stood := { row := fnExactVpByteUptoRow, standIns := [], harness := (true, "a2a4d017a0df2519f3d284b5bf7153feb6fff13806dce8a571e6d5b226821f03"), looks := false }, kinds := [], alts := [], laidByText := true, laidKinds := [.data, .pinned], laidTests := true, laidLooks := .later }
def FnExactVpByteUptoCardSaid : Prop := Claim7.holds Tryd.pinned (.plain (OpenSpec.upto fnExactVpByteSpec)) fnExactVpByteUptoCard

/-- THE SECOND FORM's CARD OF 'laws.FnExactVpBytes'. -/
def fnExactVpBytesUptoCard : Claim7 := { stood := { row := fnExactVpBytesUptoRow, standIns := [], harness := (true, "a2a4d017a0df2519f3d284b5bf7153feb6fff13806dce8a571e6d5b226821f03"), looks := false }, kinds := [], alts := [], laidByText := true, laidKinds := [.data, .pinned], laidTests := true, laidLooks := .later }
def FnExactVpBytesUptoCardSaid : Prop := Claim7.holds Tryd.pinned (.plain (OpenSpec.upto fnExactVpBytesSpec)) fnExactVpBytesUptoCard

/-- THE SECOND FORM's CARD OF 'laws.FnExactActText'. -/
def fnExactActTextUptoCard : Claim7 := { stood := { row := fnExactActTextUptoRow, standIns := [], harness := (true, "a2a4d017a0df2519f3d284b5bf7153feb6fff13806dce8a571e6d5b226821f03"), looks := false }, kinds := [], alts := [], laidByText := true, laidKinds := [.data, .data, .data, .data, .pinned], laidTests := true, laidLooks := .later }
def FnExactActTextUptoCardSaid : Prop := Claim7.holds Tryd.pinned (.plain (OpenSpec.upto fnExactActTextSpec)) fnExactActTextUptoCard
end Rows
end Go.Proofs.YtgdjbpgfplcjpaaDoor
