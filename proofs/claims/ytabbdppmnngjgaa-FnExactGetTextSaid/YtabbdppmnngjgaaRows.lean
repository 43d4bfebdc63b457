/-
  No cell of these rows narrows 'for every input' (looked for: loops, veiled, ifaces, maps, wideKeys, modest, calm, conditions, laid).
  DERIVED. THE GIVEN ROWS OF THIS SEAT. 6 by the template 'for every input the law returns true; each argument reads behind the call as it read before'; 0 by the template 'total and deterministic' (their statements: YtabbdppmnngjgaaTotals.lean).
  GIVEN WITH THE SEED: the statements are not yours to turn. If you find one false, say at which input.
  Laid BY PROGRAM, IN A SANDBOX (cutbox-rows.mjs): the forced cells as the released guide's own fill.sh prints them over the translation 2a900c52cb792b25… (all of the seat's roots in one cut). By AI agents, Wed Nov 11 2026. No macro, syntax, notation, axiom, sorry.
-/
import Derived.Test.YtabbdppmnngjgaaChecked
import GoSem.Claim
import GoSem.ClaimJoined
import GoSem.ClaimMapViews
import Derived.JoinedTies
import Derived.KernelRfl
namespace Go.Proofs.Ytabbdppmnngjgaa
/- THE CELL 'sum', in the pinned program and in every row, IS THE sha256 OF THE DUMP (.gsa) THAT YtabbdppmnngjgaaProg.lean LOADS. Nothing in Lean hashes anything: it is a label: what it is worth is what the hold of that sum in a sandbox is worth. -/
noncomputable def Try.pinned : Pinned := { name := "ytabbdppmnngjgaa", sum := "2a900c52cb792b25501e9c8727bc634b9efc4dc98d3c99069dc860bad07e25fb", checked := Try.checked }
namespace Rows
def none {H : Type} : Left H := { results := [], args := [] }

/-- 'laws.FnExactPutText': WHATEVER THE INPUT: true; the input reads as it did. -/
def fnExactPutTextSpec : ChangeSpec := { name := "fnExactPutText", fn := fun _ => fun
  | [d1, d2] => { results := [.lit (.bool true)], args := [d1, d2] }
  | _ => none }
def fnExactPutTextRow : OpenClaim := { program := "ytabbdppmnngjgaa", sum := "2a900c52cb792b25501e9c8727bc634b9efc4dc98d3c99069dc860bad07e25fb", func := "loop.example/g00661/laws.FnExactPutText", spec := "fnExactPutText", apart := false }
def FnExactPutTextSaid : Prop := fnExactPutTextRow.holds Try.pinned (OpenSpec.ofChange fnExactPutTextSpec)

/-- ITS FALSE NEIGHBOUR: 'it returns false'. Refute it at one input. -/
def fnExactPutTextWrong : ChangeSpec := { name := "fnExactPutText", fn := fun _ => fun
  | [d1, d2] => { results := [.lit (.bool false)], args := [d1, d2] }
  | _ => none }
def FnExactPutTextWrongFalsely : Prop := fnExactPutTextRow.holds Try.pinned (OpenSpec.ofChange fnExactPutTextWrong)

/-- 'laws.FnExactGetText': WHATEVER THE INPUT: true; the input reads as it did. -/
def fnExactGetTextSpec : ChangeSpec := { name := "fnExactGetText", fn := fun _ => fun
  | [d1, d2] => { results := [.lit (.bool true)], args := [d1, d2] }
  | _ => none }
def fnExactGetTextRow : OpenClaim := { program := "ytabbdppmnngjgaa", sum := "2a900c52cb792b25501e9c8727bc634b9efc4dc98d3c99069dc860bad07e25fb", func := "loop.example/g00661/laws.FnExactGetText", spec := "fnExactGetText", apart := false }
def FnExactGetTextSaid : Prop := fnExactGetTextRow.holds Try.pinned (OpenSpec.ofChange fnExactGetTextSpec)

/-- ITS FALSE NEIGHBOUR: 'it returns false'. Refute it at one input. -/
def fnExactGetTextWrong : ChangeSpec := { name := "fnExactGetText", fn := fun _ => fun
  | [d1, d2] => { results := [.lit (.bool false)], args := [d1, d2] }
  | _ => none }
def FnExactGetTextWrongFalsely : Prop := fnExactGetTextRow.holds Try.pinned (OpenSpec.ofChange fnExactGetTextWrong)

/-- 'laws.FnExactFrameBytes': WHATEVER THE INPUT: true; the input reads as it did. -/
def fnExactFrameBytesSpec : ChangeSpec := { name := "fnExactFrameBytes", fn := fun _ => fun
  | [d1, d2] => { results := [.lit (.bool true)], args := [d1, d2] }
  | _ => none }
def fnExactFrameBytesRow : OpenClaim := { program := "ytabbdppmnngjgaa", sum := "2a900c52cb792b25501e9c8727bc634b9efc4dc98d3c99069dc860bad07e25fb", func := "loop.example/g00661/laws.FnExactFrameBytes", spec := "fnExactFrameBytes", unfollowed := true, recurses := true, apart := false }
def FnExactFrameBytesSaid : Prop := fnExactFrameBytesRow.holds Try.pinned (OpenSpec.ofChange fnExactFrameBytesSpec)

/-- ITS FALSE NEIGHBOUR: 'it returns false'. Refute it at one input. -/
def fnExactFrameBytesWrong : ChangeSpec := { name := "fnExactFrameBytes", fn := fun _ => fun
  | [d1, d2] => { results := [.lit (.bool false)], args := [d1, d2] }
  | _ => none }
def FnExactFrameBytesWrongFalsely : Prop := fnExactFrameBytesRow.holds Try.pinned (OpenSpec.ofChange fnExactFrameBytesWrong)

/-- 'laws.FnExactJournalBytes': WHATEVER THE INPUT: true; the input reads as it did. -/
def fnExactJournalBytesSpec : ChangeSpec := { name := "fnExactJournalBytes", fn := fun _ => fun
  | [d1, d2] => { results := [.lit (.bool true)], args := [d1, d2] }
  | _ => none }
def fnExactJournalBytesRow : OpenClaim := { program := "ytabbdppmnngjgaa", sum := "2a900c52cb792b25501e9c8727bc634b9efc4dc98d3c99069dc860bad07e25fb", func := "loop.example/g00661/laws.FnExactJournalBytes", spec := "fnExactJournalBytes", unfollowed := true, recurses := true, apart := false }
def FnExactJournalBytesSaid : Prop := fnExactJournalBytesRow.holds Try.pinned (OpenSpec.ofChange fnExactJournalBytesSpec)

/-- ITS FALSE NEIGHBOUR: 'it returns false'. Refute it at one input. -/
def fnExactJournalBytesWrong : ChangeSpec := { name := "fnExactJournalBytes", fn := fun _ => fun
  | [d1, d2] => { results := [.lit (.bool false)], args := [d1, d2] }
  | _ => none }
def FnExactJournalBytesWrongFalsely : Prop := fnExactJournalBytesRow.holds Try.pinned (OpenSpec.ofChange fnExactJournalBytesWrong)

/-- 'laws.FnExactSnapBytes': WHATEVER THE INPUT: true; the input reads as it did. -/
def fnExactSnapBytesSpec : ChangeSpec := { name := "fnExactSnapBytes", fn := fun _ => fun
  | [d1, d2, d3] => { results := [.lit (.bool true)], args := [d1, d2, d3] }
  | _ => none }
def fnExactSnapBytesRow : OpenClaim := { program := "ytabbdppmnngjgaa", sum := "2a900c52cb792b25501e9c8727bc634b9efc4dc98d3c99069dc860bad07e25fb", func := "loop.example/g00661/laws.FnExactSnapBytes", spec := "fnExactSnapBytes", unfollowed := true, recurses := true, apart := false }
def FnExactSnapBytesSaid : Prop := fnExactSnapBytesRow.holds Try.pinned (OpenSpec.ofChange fnExactSnapBytesSpec)

/-- ITS FALSE NEIGHBOUR: 'it returns false'. Refute it at one input. -/
def fnExactSnapBytesWrong : ChangeSpec := { name := "fnExactSnapBytes", fn := fun _ => fun
  | [d1, d2, d3] => { results := [.lit (.bool false)], args := [d1, d2, d3] }
  | _ => none }
def FnExactSnapBytesWrongFalsely : Prop := fnExactSnapBytesRow.holds Try.pinned (OpenSpec.ofChange fnExactSnapBytesWrong)

/-- 'laws.FnExactCellsBytes': WHATEVER THE INPUT: true; the input reads as it did. -/
def fnExactCellsBytesSpec : ChangeSpec := { name := "fnExactCellsBytes", fn := fun _ => fun
  | [d] => { results := [.lit (.bool true)], args := [d] }
  | _ => none }
def fnExactCellsBytesRow : OpenClaim := { program := "ytabbdppmnngjgaa", sum := "2a900c52cb792b25501e9c8727bc634b9efc4dc98d3c99069dc860bad07e25fb", func := "loop.example/g00661/laws.FnExactCellsBytes", spec := "fnExactCellsBytes", apart := false }
def FnExactCellsBytesSaid : Prop := fnExactCellsBytesRow.holds Try.pinned (OpenSpec.ofChange fnExactCellsBytesSpec)

/-- ITS FALSE NEIGHBOUR: 'it returns false'. Refute it at one input. -/
def fnExactCellsBytesWrong : ChangeSpec := { name := "fnExactCellsBytes", fn := fun _ => fun
  | [d] => { results := [.lit (.bool false)], args := [d] }
  | _ => none }
def FnExactCellsBytesWrongFalsely : Prop := fnExactCellsBytesRow.holds Try.pinned (OpenSpec.ofChange fnExactCellsBytesWrong)

/- THE SECOND FORM. 'bulk': how many values and letters a reading holds, each counted each time it is reached (what is shared counts as often as it is met; a slice's spare places count too). A statement '..UptoSaid' is the law's where the arguments, and the package variables that the reading takes, are together of bulk at most 1048576: NARROWER than '..Said'. Prove '..Said' where nothing that the law and all that it calls make is longer than what came in: it says more and counts as full. Else prove '..UptoSaid'. A law counts once. -/
mutual
def uptoBulk {H : Type} : DataW H → Nat
  | .lit (.string bytes) => bytes.length + 1
  | .lit _ => 1
  | .nil => 1
  | .ptr d => uptoBulk d + 1
  | .slice elems spare => uptoBulkAll elems + uptoBulkAll spare + 1
  | .agg parts => uptoBulkAll parts + 1
  | .iface _ d => uptoBulk d + 1
  | .map entries => uptoBulkEntries entries + 1
  | .held _ => 1
def uptoBulkAll {H : Type} : List (DataW H) → Nat
  | [] => 0
  | d :: r => uptoBulk d + uptoBulkAll r
def uptoBulkEntries {H : Type} : List (Lit × DataW H) → Nat
  | [] => 0
  | x :: r => uptoBulkEntry x + uptoBulkEntries r
def uptoBulkEntry {H : Type} : Lit × DataW H → Nat
  | (.string bytes, d) => bytes.length + uptoBulk d + 1
  | (_, d) => uptoBulk d + 1
 end
def uptoSmall : (H : Type) → List (DataW H) → Bool := fun _ ds => decide (uptoBulkAll ds ≤ 1048576)
def OpenSpec.upto (s : _root_.Go.ChangeSpec) : _root_.Go.OpenSpec := { _root_.Go.OpenSpec.ofChange s with cond := some uptoSmall }

/-- 'laws.FnExactPutText', WHERE WHAT IT READS IS OF BULK AT MOST 1048576: true; the input reads as it did. -/
def fnExactPutTextUptoRow : OpenClaim := { program := "ytabbdppmnngjgaa", sum := "2a900c52cb792b25501e9c8727bc634b9efc4dc98d3c99069dc860bad07e25fb", func := "loop.example/g00661/laws.FnExactPutText", spec := "fnExactPutText", apart := false, narrowed := true }
def FnExactPutTextUptoSaid : Prop := fnExactPutTextUptoRow.holds Try.pinned (OpenSpec.upto fnExactPutTextSpec)

/-- 'laws.FnExactGetText', WHERE WHAT IT READS IS OF BULK AT MOST 1048576: true; the input reads as it did. -/
def fnExactGetTextUptoRow : OpenClaim := { program := "ytabbdppmnngjgaa", sum := "2a900c52cb792b25501e9c8727bc634b9efc4dc98d3c99069dc860bad07e25fb", func := "loop.example/g00661/laws.FnExactGetText", spec := "fnExactGetText", apart := false, narrowed := true }
def FnExactGetTextUptoSaid : Prop := fnExactGetTextUptoRow.holds Try.pinned (OpenSpec.upto fnExactGetTextSpec)

/-- 'laws.FnExactFrameBytes', WHERE WHAT IT READS IS OF BULK AT MOST 1048576: true; the input reads as it did. -/
def fnExactFrameBytesUptoRow : OpenClaim := { program := "ytabbdppmnngjgaa", sum := "2a900c52cb792b25501e9c8727bc634b9efc4dc98d3c99069dc860bad07e25fb", func := "loop.example/g00661/laws.FnExactFrameBytes", spec := "fnExactFrameBytes", unfollowed := true, recurses := true, apart := false, narrowed := true }
def FnExactFrameBytesUptoSaid : Prop := fnExactFrameBytesUptoRow.holds Try.pinned (OpenSpec.upto fnExactFrameBytesSpec)

/-- 'laws.FnExactJournalBytes', WHERE WHAT IT READS IS OF BULK AT MOST 1048576: true; the input reads as it did. -/
def fnExactJournalBytesUptoRow : OpenClaim := { program := "ytabbdppmnngjgaa", sum := "2a900c52cb792b25501e9c8727bc634b9efc4dc98d3c99069dc860bad07e25fb", func := "loop.example/g00661/laws.FnExactJournalBytes", spec := "fnExactJournalBytes", unfollowed := true, recurses := true, apart := false, narrowed := true }
def FnExactJournalBytesUptoSaid : Prop := fnExactJournalBytesUptoRow.holds Try.pinned (OpenSpec.upto fnExactJournalBytesSpec)

/-- 'laws.FnExactSnapBytes', WHERE WHAT IT READS IS OF BULK AT MOST 1048576: true; the input reads as it did. -/
def fnExactSnapBytesUptoRow : OpenClaim := { program := "ytabbdppmnngjgaa", sum := "2a900c52cb792b25501e9c8727bc634b9efc4dc98d3c99069dc860bad07e25fb", func := "loop.example/g00661/laws.FnExactSnapBytes", spec := "fnExactSnapBytes", unfollowed := true, recurses := true, apart := false, narrowed := true }
def FnExactSnapBytesUptoSaid : Prop := fnExactSnapBytesUptoRow.holds Try.pinned (OpenSpec.upto fnExactSnapBytesSpec)

/-- 'laws.FnExactCellsBytes', WHERE WHAT IT READS IS OF BULK AT MOST 1048576: true; the input reads as it did. -/
def fnExactCellsBytesUptoRow : OpenClaim := { program := "ytabbdppmnngjgaa", sum := "2a900c52cb792b25501e9c8727bc634b9efc4dc98d3c99069dc860bad07e25fb", func := "loop.example/g00661/laws.FnExactCellsBytes", spec := "fnExactCellsBytes", apart := false, narrowed := true }
def FnExactCellsBytesUptoSaid : Prop := fnExactCellsBytesUptoRow.holds Try.pinned (OpenSpec.upto fnExactCellsBytesSpec)

end Rows
end Go.Proofs.Ytabbdppmnngjgaa
