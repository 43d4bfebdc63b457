/-
  No cell of these rows narrows 'for every input' (looked for: loops, veiled, ifaces, maps, wideKeys, modest, calm, conditions, laid).
  DERIVED. THE GIVEN ROWS OF THIS SEAT. 11 by the template 'for every input the law returns true; each argument reads behind the call as it read before'; 0 by the template 'total and deterministic' (their statements: YtknopmbjbokpaaaTotals.lean).
  GIVEN WITH THE SEED: the statements are not yours to turn. If you find one false, say at which input.
  Laid BY PROGRAM, IN A SANDBOX (cutbox-rows.mjs): the forced cells as the released guide's own fill.sh prints them over the translation 837ae8c9467c4b16… (all of the seat's roots in one cut). By AI agents, Wed Nov 11 2026. No macro, syntax, notation, axiom, sorry.
-/
import Derived.Test.YtknopmbjbokpaaaChecked
import GoSem.Claim
import GoSem.ClaimJoined
import GoSem.ClaimMapViews
import Derived.JoinedTies
import Derived.KernelRfl
namespace Go.Proofs.Ytknopmbjbokpaaa
/- THE CELL 'sum', in the pinned program and in every row, IS THE sha256 OF THE DUMP (.gsa) THAT YtknopmbjbokpaaaProg.lean LOADS. Nothing in Lean hashes anything: it is a label: what it is worth is what the hold of that sum in a sandbox is worth. -/
noncomputable def Try.pinned : Pinned := { name := "ytknopmbjbokpaaa", sum := "837ae8c9467c4b16731c97f1a1d88a924f8a3a7e9cebc13e5b0c4c54aeef7b44", checked := Try.checked }
namespace Rows
def none {H : Type} : Left H := { results := [], args := [] }

/-- 'laws.FnGrid': WHATEVER THE INPUT: true; the input reads as it did. -/
def fnGridSpec : ChangeSpec := { name := "fnGrid", fn := fun _ => fun
  | [d] => { results := [.lit (.bool true)], args := [d] }
  | _ => none }
def fnGridRow : OpenClaim := { program := "ytknopmbjbokpaaa", sum := "837ae8c9467c4b16731c97f1a1d88a924f8a3a7e9cebc13e5b0c4c54aeef7b44", func := "loop.example/g00661/laws.FnGrid", spec := "fnGrid", apart := false }
def FnGridSaid : Prop := fnGridRow.holds Try.pinned (OpenSpec.ofChange fnGridSpec)

/-- ITS FALSE NEIGHBOUR: 'it returns false'. Refute it at one input. -/
def fnGridWrong : ChangeSpec := { name := "fnGrid", fn := fun _ => fun
  | [d] => { results := [.lit (.bool false)], args := [d] }
  | _ => none }
def FnGridWrongFalsely : Prop := fnGridRow.holds Try.pinned (OpenSpec.ofChange fnGridWrong)

/-- 'laws.FnExactCellOk': WHATEVER THE INPUT: true; the input reads as it did. -/
def fnExactCellOkSpec : ChangeSpec := { name := "fnExactCellOk", fn := fun _ => fun
  | [d] => { results := [.lit (.bool true)], args := [d] }
  | _ => none }
def fnExactCellOkRow : OpenClaim := { program := "ytknopmbjbokpaaa", sum := "837ae8c9467c4b16731c97f1a1d88a924f8a3a7e9cebc13e5b0c4c54aeef7b44", func := "loop.example/g00661/laws.FnExactCellOk", spec := "fnExactCellOk", apart := false }
def FnExactCellOkSaid : Prop := fnExactCellOkRow.holds Try.pinned (OpenSpec.ofChange fnExactCellOkSpec)

/-- ITS FALSE NEIGHBOUR: 'it returns false'. Refute it at one input. -/
def fnExactCellOkWrong : ChangeSpec := { name := "fnExactCellOk", fn := fun _ => fun
  | [d] => { results := [.lit (.bool false)], args := [d] }
  | _ => none }
def FnExactCellOkWrongFalsely : Prop := fnExactCellOkRow.holds Try.pinned (OpenSpec.ofChange fnExactCellOkWrong)

/-- 'laws.FnExactGridOk': WHATEVER THE INPUT: true; the input reads as it did. -/
def fnExactGridOkSpec : ChangeSpec := { name := "fnExactGridOk", fn := fun _ => fun
  | [d] => { results := [.lit (.bool true)], args := [d] }
  | _ => none }
def fnExactGridOkRow : OpenClaim := { program := "ytknopmbjbokpaaa", sum := "837ae8c9467c4b16731c97f1a1d88a924f8a3a7e9cebc13e5b0c4c54aeef7b44", func := "loop.example/g00661/laws.FnExactGridOk", spec := "fnExactGridOk", apart := false }
def FnExactGridOkSaid : Prop := fnExactGridOkRow.holds Try.pinned (OpenSpec.ofChange fnExactGridOkSpec)

/-- ITS FALSE NEIGHBOUR: 'it returns false'. Refute it at one input. -/
def fnExactGridOkWrong : ChangeSpec := { name := "fnExactGridOk", fn := fun _ => fun
  | [d] => { results := [.lit (.bool false)], args := [d] }
  | _ => none }
def FnExactGridOkWrongFalsely : Prop := fnExactGridOkRow.holds Try.pinned (OpenSpec.ofChange fnExactGridOkWrong)

/-- 'laws.FnExactGridNew': WHATEVER THE INPUT: true; the input reads as it did. -/
def fnExactGridNewSpec : ChangeSpec := { name := "fnExactGridNew", fn := fun _ => fun
  | [d1, d2] => { results := [.lit (.bool true)], args := [d1, d2] }
  | _ => none }
def fnExactGridNewRow : OpenClaim := { program := "ytknopmbjbokpaaa", sum := "837ae8c9467c4b16731c97f1a1d88a924f8a3a7e9cebc13e5b0c4c54aeef7b44", func := "loop.example/g00661/laws.FnExactGridNew", spec := "fnExactGridNew", apart := false }
def FnExactGridNewSaid : Prop := fnExactGridNewRow.holds Try.pinned (OpenSpec.ofChange fnExactGridNewSpec)

/-- ITS FALSE NEIGHBOUR: 'it returns false'. Refute it at one input. -/
def fnExactGridNewWrong : ChangeSpec := { name := "fnExactGridNew", fn := fun _ => fun
  | [d1, d2] => { results := [.lit (.bool false)], args := [d1, d2] }
  | _ => none }
def FnExactGridNewWrongFalsely : Prop := fnExactGridNewRow.holds Try.pinned (OpenSpec.ofChange fnExactGridNewWrong)

/-- 'laws.FnExactGridAt': WHATEVER THE INPUT: true; the input reads as it did. -/
def fnExactGridAtSpec : ChangeSpec := { name := "fnExactGridAt", fn := fun _ => fun
  | [d1, d2, d3] => { results := [.lit (.bool true)], args := [d1, d2, d3] }
  | _ => none }
def fnExactGridAtRow : OpenClaim := { program := "ytknopmbjbokpaaa", sum := "837ae8c9467c4b16731c97f1a1d88a924f8a3a7e9cebc13e5b0c4c54aeef7b44", func := "loop.example/g00661/laws.FnExactGridAt", spec := "fnExactGridAt", apart := false }
def FnExactGridAtSaid : Prop := fnExactGridAtRow.holds Try.pinned (OpenSpec.ofChange fnExactGridAtSpec)

/-- ITS FALSE NEIGHBOUR: 'it returns false'. Refute it at one input. -/
def fnExactGridAtWrong : ChangeSpec := { name := "fnExactGridAt", fn := fun _ => fun
  | [d1, d2, d3] => { results := [.lit (.bool false)], args := [d1, d2, d3] }
  | _ => none }
def FnExactGridAtWrongFalsely : Prop := fnExactGridAtRow.holds Try.pinned (OpenSpec.ofChange fnExactGridAtWrong)

/-- 'laws.FnExactGridFill': WHATEVER THE INPUT: true; the input reads as it did. -/
def fnExactGridFillSpec : ChangeSpec := { name := "fnExactGridFill", fn := fun _ => fun
  | [d1, d2, d3, d4, d5, d6] => { results := [.lit (.bool true)], args := [d1, d2, d3, d4, d5, d6] }
  | _ => none }
def fnExactGridFillRow : OpenClaim := { program := "ytknopmbjbokpaaa", sum := "837ae8c9467c4b16731c97f1a1d88a924f8a3a7e9cebc13e5b0c4c54aeef7b44", func := "loop.example/g00661/laws.FnExactGridFill", spec := "fnExactGridFill", apart := false }
def FnExactGridFillSaid : Prop := fnExactGridFillRow.holds Try.pinned (OpenSpec.ofChange fnExactGridFillSpec)

/-- ITS FALSE NEIGHBOUR: 'it returns false'. Refute it at one input. -/
def fnExactGridFillWrong : ChangeSpec := { name := "fnExactGridFill", fn := fun _ => fun
  | [d1, d2, d3, d4, d5, d6] => { results := [.lit (.bool false)], args := [d1, d2, d3, d4, d5, d6] }
  | _ => none }
def FnExactGridFillWrongFalsely : Prop := fnExactGridFillRow.holds Try.pinned (OpenSpec.ofChange fnExactGridFillWrong)

/-- 'laws.FnExactGridRoll': WHATEVER THE INPUT: true; the input reads as it did. -/
def fnExactGridRollSpec : ChangeSpec := { name := "fnExactGridRoll", fn := fun _ => fun
  | [d1, d2, d3, d4] => { results := [.lit (.bool true)], args := [d1, d2, d3, d4] }
  | _ => none }
def fnExactGridRollRow : OpenClaim := { program := "ytknopmbjbokpaaa", sum := "837ae8c9467c4b16731c97f1a1d88a924f8a3a7e9cebc13e5b0c4c54aeef7b44", func := "loop.example/g00661/laws.FnExactGridRoll", spec := "fnExactGridRoll", apart := false }
def FnExactGridRollSaid : Prop := fnExactGridRollRow.holds Try.pinned (OpenSpec.ofChange fnExactGridRollSpec)

/-- ITS FALSE NEIGHBOUR: 'it returns false'. Refute it at one input. -/
def fnExactGridRollWrong : ChangeSpec := { name := "fnExactGridRoll", fn := fun _ => fun
  | [d1, d2, d3, d4] => { results := [.lit (.bool false)], args := [d1, d2, d3, d4] }
  | _ => none }
def FnExactGridRollWrongFalsely : Prop := fnExactGridRollRow.holds Try.pinned (OpenSpec.ofChange fnExactGridRollWrong)

/-- 'laws.FnExactGridShift': WHATEVER THE INPUT: true; the input reads as it did. -/
def fnExactGridShiftSpec : ChangeSpec := { name := "fnExactGridShift", fn := fun _ => fun
  | [d1, d2, d3, d4] => { results := [.lit (.bool true)], args := [d1, d2, d3, d4] }
  | _ => none }
def fnExactGridShiftRow : OpenClaim := { program := "ytknopmbjbokpaaa", sum := "837ae8c9467c4b16731c97f1a1d88a924f8a3a7e9cebc13e5b0c4c54aeef7b44", func := "loop.example/g00661/laws.FnExactGridShift", spec := "fnExactGridShift", apart := false }
def FnExactGridShiftSaid : Prop := fnExactGridShiftRow.holds Try.pinned (OpenSpec.ofChange fnExactGridShiftSpec)

/-- ITS FALSE NEIGHBOUR: 'it returns false'. Refute it at one input. -/
def fnExactGridShiftWrong : ChangeSpec := { name := "fnExactGridShift", fn := fun _ => fun
  | [d1, d2, d3, d4] => { results := [.lit (.bool false)], args := [d1, d2, d3, d4] }
  | _ => none }
def FnExactGridShiftWrongFalsely : Prop := fnExactGridShiftRow.holds Try.pinned (OpenSpec.ofChange fnExactGridShiftWrong)

/-- 'laws.FnExactGridPaste': WHATEVER THE INPUT: true; the input reads as it did. -/
def fnExactGridPasteSpec : ChangeSpec := { name := "fnExactGridPaste", fn := fun _ => fun
  | [d1, d2, d3, d4] => { results := [.lit (.bool true)], args := [d1, d2, d3, d4] }
  | _ => none }
def fnExactGridPasteRow : OpenClaim := { program := "ytknopmbjbokpaaa", sum := "837ae8c9467c4b16731c97f1a1d88a924f8a3a7e9cebc13e5b0c4c54aeef7b44", func := "loop.example/g00661/laws.FnExactGridPaste", spec := "fnExactGridPaste", apart := false }
def FnExactGridPasteSaid : Prop := fnExactGridPasteRow.holds Try.pinned (OpenSpec.ofChange fnExactGridPasteSpec)

/-- ITS FALSE NEIGHBOUR: 'it returns false'. Refute it at one input. -/
def fnExactGridPasteWrong : ChangeSpec := { name := "fnExactGridPaste", fn := fun _ => fun
  | [d1, d2, d3, d4] => { results := [.lit (.bool false)], args := [d1, d2, d3, d4] }
  | _ => none }
def FnExactGridPasteWrongFalsely : Prop := fnExactGridPasteRow.holds Try.pinned (OpenSpec.ofChange fnExactGridPasteWrong)

/-- 'laws.FnExactGridText': WHATEVER THE INPUT: true; the input reads as it did. -/
def fnExactGridTextSpec : ChangeSpec := { name := "fnExactGridText", fn := fun _ => fun
  | [d] => { results := [.lit (.bool true)], args := [d] }
  | _ => none }
def fnExactGridTextRow : OpenClaim := { program := "ytknopmbjbokpaaa", sum := "837ae8c9467c4b16731c97f1a1d88a924f8a3a7e9cebc13e5b0c4c54aeef7b44", func := "loop.example/g00661/laws.FnExactGridText", spec := "fnExactGridText", apart := false }
def FnExactGridTextSaid : Prop := fnExactGridTextRow.holds Try.pinned (OpenSpec.ofChange fnExactGridTextSpec)

/-- ITS FALSE NEIGHBOUR: 'it returns false'. Refute it at one input. -/
def fnExactGridTextWrong : ChangeSpec := { name := "fnExactGridText", fn := fun _ => fun
  | [d] => { results := [.lit (.bool false)], args := [d] }
  | _ => none }
def FnExactGridTextWrongFalsely : Prop := fnExactGridTextRow.holds Try.pinned (OpenSpec.ofChange fnExactGridTextWrong)

/-- 'laws.FnExactSameGrid': WHATEVER THE INPUT: true; the input reads as it did. -/
def fnExactSameGridSpec : ChangeSpec := { name := "fnExactSameGrid", fn := fun _ => fun
  | [d1, d2] => { results := [.lit (.bool true)], args := [d1, d2] }
  | _ => none }
def fnExactSameGridRow : OpenClaim := { program := "ytknopmbjbokpaaa", sum := "837ae8c9467c4b16731c97f1a1d88a924f8a3a7e9cebc13e5b0c4c54aeef7b44", func := "loop.example/g00661/laws.FnExactSameGrid", spec := "fnExactSameGrid", apart := false }
def FnExactSameGridSaid : Prop := fnExactSameGridRow.holds Try.pinned (OpenSpec.ofChange fnExactSameGridSpec)

/-- ITS FALSE NEIGHBOUR: 'it returns false'. Refute it at one input. -/
def fnExactSameGridWrong : ChangeSpec := { name := "fnExactSameGrid", fn := fun _ => fun
  | [d1, d2] => { results := [.lit (.bool false)], args := [d1, d2] }
  | _ => none }
def FnExactSameGridWrongFalsely : Prop := fnExactSameGridRow.holds Try.pinned (OpenSpec.ofChange fnExactSameGridWrong)

/- THE SECOND FORM. 'bulk': how many values and letters a reading holds, each counted each time it is reached (what is shared counts as often as it is met; a slice's spare places count too). A statement '..UptoSaid' is the law's where the arguments, and the package variables that the reading takes, are together of bulk at most 1048576: NARROWER than '..Said'. Prove '..Said' where nothing that the law and all that it calls make is longer than what came in: it says more and counts as full. Else prove '..UptoSaid'. A law counts once. -/
mutual
def uptoBulk {H : Type} : DataW H → Nat
  | .lit (.string bytes) => bytes.length + 1
  | .lit _ => 1
  | .nil => 1
  | .ptr d => uptoBulk d + 1
  | .slice elems spare => uptoBulkAll elems + uptoBulkAll spare + 1
  | .agg parts => uptoBulkAll parts + 1
  | .iface _ d => uptoBulk d + 1
  | .map entries => uptoBulkEntries entries + 1
  | .held _ => 1
def uptoBulkAll {H : Type} : List (DataW H) → Nat
  | [] => 0
  | d :: r => uptoBulk d + uptoBulkAll r
def uptoBulkEntries {H : Type} : List (Lit × DataW H) → Nat
  | [] => 0
  | x :: r => uptoBulkEntry x + uptoBulkEntries r
def uptoBulkEntry {H : Type} : Lit × DataW H → Nat
  | (.string bytes, d) => bytes.length + uptoBulk d + 1
  | (_, d) => uptoBulk d + 1
 end
def uptoSmall : (H : Type) → List (DataW H) → Bool := fun _ ds => decide (uptoBulkAll ds ≤ 1048576)
def OpenSpec.upto (s : _root_.Go.ChangeSpec) : _root_.Go.OpenSpec := { _root_.Go.OpenSpec.ofChange s with cond := some uptoSmall }

/-- 'laws.FnGrid', WHERE WHAT IT READS IS OF BULK AT MOST 1048576: true; the input reads as it did. -/
def fnGridUptoRow : OpenClaim := { program := "ytknopmbjbokpaaa", sum := "837ae8c9467c4b16731c97f1a1d88a924f8a3a7e9cebc13e5b0c4c54aeef7b44", func := "loop.example/g00661/laws.FnGrid", spec := "fnGrid", apart := false, narrowed := true }
def FnGridUptoSaid : Prop := fnGridUptoRow.holds Try.pinned (OpenSpec.upto fnGridSpec)

/-- 'laws.FnExactCellOk', WHERE WHAT IT READS IS OF BULK AT MOST 1048576: true; the input reads as it did. -/
def fnExactCellOkUptoRow : OpenClaim := { program := "ytknopmbjbokpaaa", sum := "837ae8c9467c4b16731c97f1a1d88a924f8a3a7e9cebc13e5b0c4c54aeef7b44", func := "loop.example/g00661/laws.FnExactCellOk", spec := "fnExactCellOk", apart := false, narrowed := true }
def FnExactCellOkUptoSaid : Prop := fnExactCellOkUptoRow.holds Try.pinned (OpenSpec.upto fnExactCellOkSpec)

/-- 'laws.FnExactGridOk', WHERE WHAT IT READS IS OF BULK AT MOST 1048576: true; the input reads as it did. -/
def fnExactGridOkUptoRow : OpenClaim := { program := "ytknopmbjbokpaaa", sum := "837ae8c9467c4b16731c97f1a1d88a924f8a3a7e9cebc13e5b0c4c54aeef7b44", func := "loop.example/g00661/laws.FnExactGridOk", spec := "fnExactGridOk", apart := false, narrowed := true }
def FnExactGridOkUptoSaid : Prop := fnExactGridOkUptoRow.holds Try.pinned (OpenSpec.upto fnExactGridOkSpec)

/-- 'laws.FnExactGridNew', WHERE WHAT IT READS IS OF BULK AT MOST 1048576: true; the input reads as it did. -/
def fnExactGridNewUptoRow : OpenClaim := { program := "ytknopmbjbokpaaa", sum := "837ae8c9467c4b16731c97f1a1d88a924f8a3a7e9cebc13e5b0c4c54aeef7b44", func := "loop.example/g00661/laws.FnExactGridNew", spec := "fnExactGridNew", apart := false, narrowed := true }
def FnExactGridNewUptoSaid : Prop := fnExactGridNewUptoRow.holds Try.pinned (OpenSpec.upto fnExactGridNewSpec)

/-- 'laws.FnExactGridAt', WHERE WHAT IT READS IS OF BULK AT MOST 1048576: true; the input reads as it did. -/
def fnExactGridAtUptoRow : OpenClaim := { program := "ytknopmbjbokpaaa", sum := "837ae8c9467c4b16731c97f1a1d88a924f8a3a7e9cebc13e5b0c4c54aeef7b44", func := "loop.example/g00661/laws.FnExactGridAt", spec := "fnExactGridAt", apart := false, narrowed := true }
def FnExactGridAtUptoSaid : Prop := fnExactGridAtUptoRow.holds Try.pinned (OpenSpec.upto fnExactGridAtSpec)

/-- 'laws.FnExactGridFill', WHERE WHAT IT READS IS OF BULK AT MOST 1048576: true; the input reads as it did. -/
def fnExactGridFillUptoRow : OpenClaim := { program := "ytknopmbjbokpaaa", sum := "837ae8c9467c4b16731c97f1a1d88a924f8a3a7e9cebc13e5b0c4c54aeef7b44", func := "loop.example/g00661/laws.FnExactGridFill", spec := "fnExactGridFill", apart := false, narrowed := true }
def FnExactGridFillUptoSaid : Prop := fnExactGridFillUptoRow.holds Try.pinned (OpenSpec.upto fnExactGridFillSpec)

/-- 'laws.FnExactGridRoll', WHERE WHAT IT READS IS OF BULK AT MOST 1048576: true; the input reads as it did. -/
def fnExactGridRollUptoRow : OpenClaim := { program := "ytknopmbjbokpaaa", sum := "837ae8c9467c4b16731c97f1a1d88a924f8a3a7e9cebc13e5b0c4c54aeef7b44", func := "loop.example/g00661/laws.FnExactGridRoll", spec := "fnExactGridRoll", apart := false, narrowed := true }
def FnExactGridRollUptoSaid : Prop := fnExactGridRollUptoRow.holds Try.pinned (OpenSpec.upto fnExactGridRollSpec)

/-- 'laws.FnExactGridShift', WHERE WHAT IT READS IS OF BULK AT MOST 1048576: true; the input reads as it did. -/
def fnExactGridShiftUptoRow : OpenClaim := { program := "ytknopmbjbokpaaa", sum := "837ae8c9467c4b16731c97f1a1d88a924f8a3a7e9cebc13e5b0c4c54aeef7b44", func := "loop.example/g00661/laws.FnExactGridShift", spec := "fnExactGridShift", apart := false, narrowed := true }
def FnExactGridShiftUptoSaid : Prop := fnExactGridShiftUptoRow.holds Try.pinned (OpenSpec.upto fnExactGridShiftSpec)

/-- 'laws.FnExactGridPaste', WHERE WHAT IT READS IS OF BULK AT MOST 1048576: true; the input reads as it did. -/
def fnExactGridPasteUptoRow : OpenClaim := { program := "ytknopmbjbokpaaa", sum := "837ae8c9467c4b16731c97f1a1d88a924f8a3a7e9cebc13e5b0c4c54aeef7b44", func := "loop.example/g00661/laws.FnExactGridPaste", spec := "fnExactGridPaste", apart := false, narrowed := true }
def FnExactGridPasteUptoSaid : Prop := fnExactGridPasteUptoRow.holds Try.pinned (OpenSpec.upto fnExactGridPasteSpec)

/-- 'laws.FnExactGridText', WHERE WHAT IT READS IS OF BULK AT MOST 1048576: true; the input reads as it did. -/
def fnExactGridTextUptoRow : OpenClaim := { program := "ytknopmbjbokpaaa", sum := "837ae8c9467c4b16731c97f1a1d88a924f8a3a7e9cebc13e5b0c4c54aeef7b44", func := "loop.example/g00661/laws.FnExactGridText", spec := "fnExactGridText", apart := false, narrowed := true }
def FnExactGridTextUptoSaid : Prop := fnExactGridTextUptoRow.holds Try.pinned (OpenSpec.upto fnExactGridTextSpec)

/-- 'laws.FnExactSameGrid', WHERE WHAT IT READS IS OF BULK AT MOST 1048576: true; the input reads as it did. -/
def fnExactSameGridUptoRow : OpenClaim := { program := "ytknopmbjbokpaaa", sum := "837ae8c9467c4b16731c97f1a1d88a924f8a3a7e9cebc13e5b0c4c54aeef7b44", func := "loop.example/g00661/laws.FnExactSameGrid", spec := "fnExactSameGrid", apart := false, narrowed := true }
def FnExactSameGridUptoSaid : Prop := fnExactSameGridUptoRow.holds Try.pinned (OpenSpec.upto fnExactSameGridSpec)

end Rows
end Go.Proofs.Ytknopmbjbokpaaa
