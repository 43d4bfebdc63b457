/-
  No cell of these rows narrows 'for every input' (looked for: loops, veiled, ifaces, maps, wideKeys, modest, calm, conditions, laid).
  DERIVED. THE GIVEN ROWS OF THIS SEAT. 7 by the template 'for every input the law returns true; each argument reads behind the call as it read before'; 0 by the template 'total and deterministic' (their statements: YthlpchojlddnbaaTotals.lean).
  GIVEN WITH THE SEED: the statements are not yours to turn. If you find one false, say at which input.
  Laid BY PROGRAM, IN A SANDBOX (cutbox-rows.mjs): the forced cells as the released guide's own fill.sh prints them over the translation 504e4f04ae5a1a8c… (all of the seat's roots in one cut). By AI agents, Wed Nov 11 2026. No macro, syntax, notation, axiom, sorry.
-/
import Derived.Test.YthlpchojlddnbaaChecked
import GoSem.Claim
import GoSem.ClaimJoined
import GoSem.ClaimMapViews
import Derived.JoinedTies
import Derived.KernelRfl
namespace Go.Proofs.Ythlpchojlddnbaa
/- THE CELL 'sum', in the pinned program and in every row, IS THE sha256 OF THE DUMP (.gsa) THAT YthlpchojlddnbaaProg.lean LOADS. Nothing in Lean hashes anything: it is a label: what it is worth is what the hold of that sum in a sandbox is worth. -/
noncomputable def Try.pinned : Pinned := { name := "ythlpchojlddnbaa", sum := "504e4f04ae5a1a8c5d2c516fd23e5dc4fab31bc8108804d0aa7ca3a671b8b350", checked := Try.checked }
namespace Rows
def none {H : Type} : Left H := { results := [], args := [] }

/-- 'laws.FnExactGridFill': WHATEVER THE INPUT: true; the input reads as it did. -/
def fnExactGridFillSpec : ChangeSpec := { name := "fnExactGridFill", fn := fun _ => fun
  | [d1, d2, d3, d4, d5, d6] => { results := [.lit (.bool true)], args := [d1, d2, d3, d4, d5, d6] }
  | _ => none }
def fnExactGridFillRow : OpenClaim := { program := "ythlpchojlddnbaa", sum := "504e4f04ae5a1a8c5d2c516fd23e5dc4fab31bc8108804d0aa7ca3a671b8b350", func := "loop.example/g00661/laws.FnExactGridFill", spec := "fnExactGridFill", apart := false }
def FnExactGridFillSaid : Prop := fnExactGridFillRow.holds Try.pinned (OpenSpec.ofChange fnExactGridFillSpec)

/-- ITS FALSE NEIGHBOUR: 'it returns false'. Refute it at one input. -/
def fnExactGridFillWrong : ChangeSpec := { name := "fnExactGridFill", fn := fun _ => fun
  | [d1, d2, d3, d4, d5, d6] => { results := [.lit (.bool false)], args := [d1, d2, d3, d4, d5, d6] }
  | _ => none }
def FnExactGridFillWrongFalsely : Prop := fnExactGridFillRow.holds Try.pinned (OpenSpec.ofChange fnExactGridFillWrong)

/-- 'laws.FnExactGridPaste': WHATEVER THE INPUT: true; the input reads as it did. -/
def fnExactGridPasteSpec : ChangeSpec := { name := "fnExactGridPaste", fn := fun _ => fun
  | [d1, d2, d3, d4] => { results := [.lit (.bool true)], args := [d1, d2, d3, d4] }
  | _ => none }
def fnExactGridPasteRow : OpenClaim := { program := "ythlpchojlddnbaa", sum := "504e4f04ae5a1a8c5d2c516fd23e5dc4fab31bc8108804d0aa7ca3a671b8b350", func := "loop.example/g00661/laws.FnExactGridPaste", spec := "fnExactGridPaste", apart := false }
def FnExactGridPasteSaid : Prop := fnExactGridPasteRow.holds Try.pinned (OpenSpec.ofChange fnExactGridPasteSpec)

/-- ITS FALSE NEIGHBOUR: 'it returns false'. Refute it at one input. -/
def fnExactGridPasteWrong : ChangeSpec := { name := "fnExactGridPaste", fn := fun _ => fun
  | [d1, d2, d3, d4] => { results := [.lit (.bool false)], args := [d1, d2, d3, d4] }
  | _ => none }
def FnExactGridPasteWrongFalsely : Prop := fnExactGridPasteRow.holds Try.pinned (OpenSpec.ofChange fnExactGridPasteWrong)

/-- 'laws.FnExactGridText': WHATEVER THE INPUT: true; the input reads as it did. -/
def fnExactGridTextSpec : ChangeSpec := { name := "fnExactGridText", fn := fun _ => fun
  | [d] => { results := [.lit (.bool true)], args := [d] }
  | _ => none }
def fnExactGridTextRow : OpenClaim := { program := "ythlpchojlddnbaa", sum := "504e4f04ae5a1a8c5d2c516fd23e5dc4fab31bc8108804d0aa7ca3a671b8b350", func := "loop.example/g00661/laws.FnExactGridText", spec := "fnExactGridText", apart := false }
def FnExactGridTextSaid : Prop := fnExactGridTextRow.holds Try.pinned (OpenSpec.ofChange fnExactGridTextSpec)

/-- ITS FALSE NEIGHBOUR: 'it returns false'. Refute it at one input. -/
def fnExactGridTextWrong : ChangeSpec := { name := "fnExactGridText", fn := fun _ => fun
  | [d] => { results := [.lit (.bool false)], args := [d] }
  | _ => none }
def FnExactGridTextWrongFalsely : Prop := fnExactGridTextRow.holds Try.pinned (OpenSpec.ofChange fnExactGridTextWrong)

/-- 'laws.FnExactScrDown': WHATEVER THE INPUT: true; the input reads as it did. -/
def fnExactScrDownSpec : ChangeSpec := { name := "fnExactScrDown", fn := fun _ => fun
  | [d] => { results := [.lit (.bool true)], args := [d] }
  | _ => none }
def fnExactScrDownRow : OpenClaim := { program := "ythlpchojlddnbaa", sum := "504e4f04ae5a1a8c5d2c516fd23e5dc4fab31bc8108804d0aa7ca3a671b8b350", func := "loop.example/g00661/laws.FnExactScrDown", spec := "fnExactScrDown", unfollowed := true, recurses := true, apart := false }
def FnExactScrDownSaid : Prop := fnExactScrDownRow.holds Try.pinned (OpenSpec.ofChange fnExactScrDownSpec)

/-- ITS FALSE NEIGHBOUR: 'it returns false'. Refute it at one input. -/
def fnExactScrDownWrong : ChangeSpec := { name := "fnExactScrDown", fn := fun _ => fun
  | [d] => { results := [.lit (.bool false)], args := [d] }
  | _ => none }
def FnExactScrDownWrongFalsely : Prop := fnExactScrDownRow.holds Try.pinned (OpenSpec.ofChange fnExactScrDownWrong)

/-- 'laws.FnExactScrRune': WHATEVER THE INPUT: true; the input reads as it did. -/
def fnExactScrRuneSpec : ChangeSpec := { name := "fnExactScrRune", fn := fun _ => fun
  | [d1, d2] => { results := [.lit (.bool true)], args := [d1, d2] }
  | _ => none }
def fnExactScrRuneRow : OpenClaim := { program := "ythlpchojlddnbaa", sum := "504e4f04ae5a1a8c5d2c516fd23e5dc4fab31bc8108804d0aa7ca3a671b8b350", func := "loop.example/g00661/laws.FnExactScrRune", spec := "fnExactScrRune", unfollowed := true, recurses := true, apart := false }
def FnExactScrRuneSaid : Prop := fnExactScrRuneRow.holds Try.pinned (OpenSpec.ofChange fnExactScrRuneSpec)

/-- ITS FALSE NEIGHBOUR: 'it returns false'. Refute it at one input. -/
def fnExactScrRuneWrong : ChangeSpec := { name := "fnExactScrRune", fn := fun _ => fun
  | [d1, d2] => { results := [.lit (.bool false)], args := [d1, d2] }
  | _ => none }
def FnExactScrRuneWrongFalsely : Prop := fnExactScrRuneRow.holds Try.pinned (OpenSpec.ofChange fnExactScrRuneWrong)

/-- 'laws.FnExactScrCtl': WHATEVER THE INPUT: true; the input reads as it did. -/
def fnExactScrCtlSpec : ChangeSpec := { name := "fnExactScrCtl", fn := fun _ => fun
  | [d1, d2] => { results := [.lit (.bool true)], args := [d1, d2] }
  | _ => none }
def fnExactScrCtlRow : OpenClaim := { program := "ythlpchojlddnbaa", sum := "504e4f04ae5a1a8c5d2c516fd23e5dc4fab31bc8108804d0aa7ca3a671b8b350", func := "loop.example/g00661/laws.FnExactScrCtl", spec := "fnExactScrCtl", unfollowed := true, recurses := true, apart := false }
def FnExactScrCtlSaid : Prop := fnExactScrCtlRow.holds Try.pinned (OpenSpec.ofChange fnExactScrCtlSpec)

/-- ITS FALSE NEIGHBOUR: 'it returns false'. Refute it at one input. -/
def fnExactScrCtlWrong : ChangeSpec := { name := "fnExactScrCtl", fn := fun _ => fun
  | [d1, d2] => { results := [.lit (.bool false)], args := [d1, d2] }
  | _ => none }
def FnExactScrCtlWrongFalsely : Prop := fnExactScrCtlRow.holds Try.pinned (OpenSpec.ofChange fnExactScrCtlWrong)

/-- 'laws.FnExactScrSize': WHATEVER THE INPUT: true; the input reads as it did. -/
def fnExactScrSizeSpec : ChangeSpec := { name := "fnExactScrSize", fn := fun _ => fun
  | [d1, d2, d3] => { results := [.lit (.bool true)], args := [d1, d2, d3] }
  | _ => none }
def fnExactScrSizeRow : OpenClaim := { program := "ythlpchojlddnbaa", sum := "504e4f04ae5a1a8c5d2c516fd23e5dc4fab31bc8108804d0aa7ca3a671b8b350", func := "loop.example/g00661/laws.FnExactScrSize", spec := "fnExactScrSize", apart := false }
def FnExactScrSizeSaid : Prop := fnExactScrSizeRow.holds Try.pinned (OpenSpec.ofChange fnExactScrSizeSpec)

/-- ITS FALSE NEIGHBOUR: 'it returns false'. Refute it at one input. -/
def fnExactScrSizeWrong : ChangeSpec := { name := "fnExactScrSize", fn := fun _ => fun
  | [d1, d2, d3] => { results := [.lit (.bool false)], args := [d1, d2, d3] }
  | _ => none }
def FnExactScrSizeWrongFalsely : Prop := fnExactScrSizeRow.holds Try.pinned (OpenSpec.ofChange fnExactScrSizeWrong)

/- THE SECOND FORM. 'bulk': how many values and letters a reading holds, each counted each time it is reached (what is shared counts as often as it is met; a slice's spare places count too). A statement '..UptoSaid' is the law's where the arguments, and the package variables that the reading takes, are together of bulk at most 1048576: NARROWER than '..Said'. Prove '..Said' where nothing that the law and all that it calls make is longer than what came in: it says more and counts as full. Else prove '..UptoSaid'. A law counts once. -/
mutual
def uptoBulk {H : Type} : DataW H → Nat
  | .lit (.string bytes) => bytes.length + 1
  | .lit _ => 1
  | .nil => 1
  | .ptr d => uptoBulk d + 1
  | .slice elems spare => uptoBulkAll elems + uptoBulkAll spare + 1
  | .agg parts => uptoBulkAll parts + 1
  | .iface _ d => uptoBulk d + 1
  | .map entries => uptoBulkEntries entries + 1
  | .held _ => 1
def uptoBulkAll {H : Type} : List (DataW H) → Nat
  | [] => 0
  | d :: r => uptoBulk d + uptoBulkAll r
def uptoBulkEntries {H : Type} : List (Lit × DataW H) → Nat
  | [] => 0
  | x :: r => uptoBulkEntry x + uptoBulkEntries r
def uptoBulkEntry {H : Type} : Lit × DataW H → Nat
  | (.string bytes, d) => bytes.length + uptoBulk d + 1
  | (_, d) => uptoBulk d + 1
 end
def uptoSmall : (H : Type) → List (DataW H) → Bool := fun _ ds => decide (uptoBulkAll ds ≤ 1048576)
def OpenSpec.upto (s : _root_.Go.ChangeSpec) : _root_.Go.OpenSpec := { _root_.Go.OpenSpec.ofChange s with cond := some uptoSmall }

/-- 'laws.FnExactGridFill', WHERE WHAT IT READS IS OF BULK AT MOST 1048576: true; the input reads as it did. -/
def fnExactGridFillUptoRow : OpenClaim := { program := "ythlpchojlddnbaa", sum := "504e4f04ae5a1a8c5d2c516fd23e5dc4fab31bc8108804d0aa7ca3a671b8b350", func := "loop.example/g00661/laws.FnExactGridFill", spec := "fnExactGridFill", apart := false, narrowed := true }
def FnExactGridFillUptoSaid : Prop := fnExactGridFillUptoRow.holds Try.pinned (OpenSpec.upto fnExactGridFillSpec)

/-- 'laws.FnExactGridPaste', WHERE WHAT IT READS IS OF BULK AT MOST 1048576: true; the input reads as it did. -/
def fnExactGridPasteUptoRow : OpenClaim := { program := "ythlpchojlddnbaa", sum := "504e4f04ae5a1a8c5d2c516fd23e5dc4fab31bc8108804d0aa7ca3a671b8b350", func := "loop.example/g00661/laws.FnExactGridPaste", spec := "fnExactGridPaste", apart := false, narrowed := true }
def FnExactGridPasteUptoSaid : Prop := fnExactGridPasteUptoRow.holds Try.pinned (OpenSpec.upto fnExactGridPasteSpec)

/-- 'laws.FnExactGridText', WHERE WHAT IT READS IS OF BULK AT MOST 1048576: true; the input reads as it did. -/
def fnExactGridTextUptoRow : OpenClaim := { program := "ythlpchojlddnbaa", sum := "504e4f04ae5a1a8c5d2c516fd23e5dc4fab31bc8108804d0aa7ca3a671b8b350", func := "loop.example/g00661/laws.FnExactGridText", spec := "fnExactGridText", apart := false, narrowed := true }
def FnExactGridTextUptoSaid : Prop := fnExactGridTextUptoRow.holds Try.pinned (OpenSpec.upto fnExactGridTextSpec)

/-- 'laws.FnExactScrDown', WHERE WHAT IT READS IS OF BULK AT MOST 1048576: true; the input reads as it did. -/
def fnExactScrDownUptoRow : OpenClaim := { program := "ythlpchojlddnbaa", sum := "504e4f04ae5a1a8c5d2c516fd23e5dc4fab31bc8108804d0aa7ca3a671b8b350", func := "loop.example/g00661/laws.FnExactScrDown", spec := "fnExactScrDown", unfollowed := true, recurses := true, apart := false, narrowed := true }
def FnExactScrDownUptoSaid : Prop := fnExactScrDownUptoRow.holds Try.pinned (OpenSpec.upto fnExactScrDownSpec)

/-- 'laws.FnExactScrRune', WHERE WHAT IT READS IS OF BULK AT MOST 1048576: true; the input reads as it did. -/
def fnExactScrRuneUptoRow : OpenClaim := { program := "ythlpchojlddnbaa", sum := "504e4f04ae5a1a8c5d2c516fd23e5dc4fab31bc8108804d0aa7ca3a671b8b350", func := "loop.example/g00661/laws.FnExactScrRune", spec := "fnExactScrRune", unfollowed := true, recurses := true, apart := false, narrowed := true }
def FnExactScrRuneUptoSaid : Prop := fnExactScrRuneUptoRow.holds Try.pinned (OpenSpec.upto fnExactScrRuneSpec)

/-- 'laws.FnExactScrCtl', WHERE WHAT IT READS IS OF BULK AT MOST 1048576: true; the input reads as it did. -/
def fnExactScrCtlUptoRow : OpenClaim := { program := "ythlpchojlddnbaa", sum := "504e4f04ae5a1a8c5d2c516fd23e5dc4fab31bc8108804d0aa7ca3a671b8b350", func := "loop.example/g00661/laws.FnExactScrCtl", spec := "fnExactScrCtl", unfollowed := true, recurses := true, apart := false, narrowed := true }
def FnExactScrCtlUptoSaid : Prop := fnExactScrCtlUptoRow.holds Try.pinned (OpenSpec.upto fnExactScrCtlSpec)

/-- 'laws.FnExactScrSize', WHERE WHAT IT READS IS OF BULK AT MOST 1048576: true; the input reads as it did. -/
def fnExactScrSizeUptoRow : OpenClaim := { program := "ythlpchojlddnbaa", sum := "504e4f04ae5a1a8c5d2c516fd23e5dc4fab31bc8108804d0aa7ca3a671b8b350", func := "loop.example/g00661/laws.FnExactScrSize", spec := "fnExactScrSize", apart := false, narrowed := true }
def FnExactScrSizeUptoSaid : Prop := fnExactScrSizeUptoRow.holds Try.pinned (OpenSpec.upto fnExactScrSizeSpec)

end Rows
end Go.Proofs.Ythlpchojlddnbaa
