/-
  No cell of these rows narrows 'for every input' (looked for: loops, veiled, ifaces, maps, wideKeys, modest, calm, conditions, laid).
  DERIVED. THE GIVEN ROWS OF THIS SEAT. 8 by the template 'for every input the law returns true; each argument reads behind the call as it read before'; 0 by the template 'total and deterministic' (their statements: YteiojpglhmikoaaTotals.lean).
  GIVEN WITH THE SEED: the statements are not yours to turn. If you find one false, say at which input.
  Laid BY PROGRAM, IN A SANDBOX (cutbox-rows.mjs): the forced cells as the released guide's own fill.sh prints them over the translation 45084fb254c59f6a… (all of the seat's roots in one cut). By AI agents, Wed Nov 11 2026. No macro, syntax, notation, axiom, sorry.
-/
import Derived.Test.YteiojpglhmikoaaChecked
import GoSem.Claim
import GoSem.ClaimJoined
import GoSem.ClaimMapViews
import Derived.JoinedTies
import Derived.KernelRfl
namespace Go.Proofs.Yteiojpglhmikoaa
/- THE CELL 'sum', in the pinned program and in every row, IS THE sha256 OF THE DUMP (.gsa) THAT YteiojpglhmikoaaProg.lean LOADS. Nothing in Lean hashes anything: it is a label: what it is worth is what the hold of that sum in a sandbox is worth. -/
noncomputable def Try.pinned : Pinned := { name := "yteiojpglhmikoaa", sum := "45084fb254c59f6a5c6344cdd0f25a53734714b7410b0660a9c4693663f76465", checked := Try.checked }
namespace Rows
def none {H : Type} : Left H := { results := [], args := [] }

/-- 'laws.FnJournal': WHATEVER THE INPUT: true; the input reads as it did. -/
def fnJournalSpec : ChangeSpec := { name := "fnJournal", fn := fun _ => fun
  | [d] => { results := [.lit (.bool true)], args := [d] }
  | _ => none }
def fnJournalRow : OpenClaim := { program := "yteiojpglhmikoaa", sum := "45084fb254c59f6a5c6344cdd0f25a53734714b7410b0660a9c4693663f76465", func := "loop.example/g00661/laws.FnJournal", spec := "fnJournal", unfollowed := true, recurses := true, apart := false }
def FnJournalSaid : Prop := fnJournalRow.holds Try.pinned (OpenSpec.ofChange fnJournalSpec)

/-- ITS FALSE NEIGHBOUR: 'it returns false'. Refute it at one input. -/
def fnJournalWrong : ChangeSpec := { name := "fnJournal", fn := fun _ => fun
  | [d] => { results := [.lit (.bool false)], args := [d] }
  | _ => none }
def FnJournalWrongFalsely : Prop := fnJournalRow.holds Try.pinned (OpenSpec.ofChange fnJournalWrong)

/-- 'laws.FnExactFrameBytes': WHATEVER THE INPUT: true; the input reads as it did. -/
def fnExactFrameBytesSpec : ChangeSpec := { name := "fnExactFrameBytes", fn := fun _ => fun
  | [d1, d2] => { results := [.lit (.bool true)], args := [d1, d2] }
  | _ => none }
def fnExactFrameBytesRow : OpenClaim := { program := "yteiojpglhmikoaa", sum := "45084fb254c59f6a5c6344cdd0f25a53734714b7410b0660a9c4693663f76465", func := "loop.example/g00661/laws.FnExactFrameBytes", spec := "fnExactFrameBytes", unfollowed := true, recurses := true, apart := false }
def FnExactFrameBytesSaid : Prop := fnExactFrameBytesRow.holds Try.pinned (OpenSpec.ofChange fnExactFrameBytesSpec)

/-- ITS FALSE NEIGHBOUR: 'it returns false'. Refute it at one input. -/
def fnExactFrameBytesWrong : ChangeSpec := { name := "fnExactFrameBytes", fn := fun _ => fun
  | [d1, d2] => { results := [.lit (.bool false)], args := [d1, d2] }
  | _ => none }
def FnExactFrameBytesWrongFalsely : Prop := fnExactFrameBytesRow.holds Try.pinned (OpenSpec.ofChange fnExactFrameBytesWrong)

/-- 'laws.FnExactJournalBytes': WHATEVER THE INPUT: true; the input reads as it did. -/
def fnExactJournalBytesSpec : ChangeSpec := { name := "fnExactJournalBytes", fn := fun _ => fun
  | [d1, d2] => { results := [.lit (.bool true)], args := [d1, d2] }
  | _ => none }
def fnExactJournalBytesRow : OpenClaim := { program := "yteiojpglhmikoaa", sum := "45084fb254c59f6a5c6344cdd0f25a53734714b7410b0660a9c4693663f76465", func := "loop.example/g00661/laws.FnExactJournalBytes", spec := "fnExactJournalBytes", unfollowed := true, recurses := true, apart := false }
def FnExactJournalBytesSaid : Prop := fnExactJournalBytesRow.holds Try.pinned (OpenSpec.ofChange fnExactJournalBytesSpec)

/-- ITS FALSE NEIGHBOUR: 'it returns false'. Refute it at one input. -/
def fnExactJournalBytesWrong : ChangeSpec := { name := "fnExactJournalBytes", fn := fun _ => fun
  | [d1, d2] => { results := [.lit (.bool false)], args := [d1, d2] }
  | _ => none }
def FnExactJournalBytesWrongFalsely : Prop := fnExactJournalBytesRow.holds Try.pinned (OpenSpec.ofChange fnExactJournalBytesWrong)

/-- 'laws.FnExactSnapBytes': WHATEVER THE INPUT: true; the input reads as it did. -/
def fnExactSnapBytesSpec : ChangeSpec := { name := "fnExactSnapBytes", fn := fun _ => fun
  | [d1, d2, d3] => { results := [.lit (.bool true)], args := [d1, d2, d3] }
  | _ => none }
def fnExactSnapBytesRow : OpenClaim := { program := "yteiojpglhmikoaa", sum := "45084fb254c59f6a5c6344cdd0f25a53734714b7410b0660a9c4693663f76465", func := "loop.example/g00661/laws.FnExactSnapBytes", spec := "fnExactSnapBytes", unfollowed := true, recurses := true, apart := false }
def FnExactSnapBytesSaid : Prop := fnExactSnapBytesRow.holds Try.pinned (OpenSpec.ofChange fnExactSnapBytesSpec)

/-- ITS FALSE NEIGHBOUR: 'it returns false'. Refute it at one input. -/
def fnExactSnapBytesWrong : ChangeSpec := { name := "fnExactSnapBytes", fn := fun _ => fun
  | [d1, d2, d3] => { results := [.lit (.bool false)], args := [d1, d2, d3] }
  | _ => none }
def FnExactSnapBytesWrongFalsely : Prop := fnExactSnapBytesRow.holds Try.pinned (OpenSpec.ofChange fnExactSnapBytesWrong)

/-- 'laws.FnExactCellsBytes': WHATEVER THE INPUT: true; the input reads as it did. -/
def fnExactCellsBytesSpec : ChangeSpec := { name := "fnExactCellsBytes", fn := fun _ => fun
  | [d] => { results := [.lit (.bool true)], args := [d] }
  | _ => none }
def fnExactCellsBytesRow : OpenClaim := { program := "yteiojpglhmikoaa", sum := "45084fb254c59f6a5c6344cdd0f25a53734714b7410b0660a9c4693663f76465", func := "loop.example/g00661/laws.FnExactCellsBytes", spec := "fnExactCellsBytes", apart := false }
def FnExactCellsBytesSaid : Prop := fnExactCellsBytesRow.holds Try.pinned (OpenSpec.ofChange fnExactCellsBytesSpec)

/-- ITS FALSE NEIGHBOUR: 'it returns false'. Refute it at one input. -/
def fnExactCellsBytesWrong : ChangeSpec := { name := "fnExactCellsBytes", fn := fun _ => fun
  | [d] => { results := [.lit (.bool false)], args := [d] }
  | _ => none }
def FnExactCellsBytesWrongFalsely : Prop := fnExactCellsBytesRow.holds Try.pinned (OpenSpec.ofChange fnExactCellsBytesWrong)

/-- 'laws.FnExactOpOk': WHATEVER THE INPUT: true; the input reads as it did. -/
def fnExactOpOkSpec : ChangeSpec := { name := "fnExactOpOk", fn := fun _ => fun
  | [d] => { results := [.lit (.bool true)], args := [d] }
  | _ => none }
def fnExactOpOkRow : OpenClaim := { program := "yteiojpglhmikoaa", sum := "45084fb254c59f6a5c6344cdd0f25a53734714b7410b0660a9c4693663f76465", func := "loop.example/g00661/laws.FnExactOpOk", spec := "fnExactOpOk", unfollowed := true, recurses := true, apart := false }
def FnExactOpOkSaid : Prop := fnExactOpOkRow.holds Try.pinned (OpenSpec.ofChange fnExactOpOkSpec)

/-- ITS FALSE NEIGHBOUR: 'it returns false'. Refute it at one input. -/
def fnExactOpOkWrong : ChangeSpec := { name := "fnExactOpOk", fn := fun _ => fun
  | [d] => { results := [.lit (.bool false)], args := [d] }
  | _ => none }
def FnExactOpOkWrongFalsely : Prop := fnExactOpOkRow.holds Try.pinned (OpenSpec.ofChange fnExactOpOkWrong)

/-- 'laws.FnExactOpBytes': WHATEVER THE INPUT: true; the input reads as it did. -/
def fnExactOpBytesSpec : ChangeSpec := { name := "fnExactOpBytes", fn := fun _ => fun
  | [d] => { results := [.lit (.bool true)], args := [d] }
  | _ => none }
def fnExactOpBytesRow : OpenClaim := { program := "yteiojpglhmikoaa", sum := "45084fb254c59f6a5c6344cdd0f25a53734714b7410b0660a9c4693663f76465", func := "loop.example/g00661/laws.FnExactOpBytes", spec := "fnExactOpBytes", unfollowed := true, recurses := true, apart := false }
def FnExactOpBytesSaid : Prop := fnExactOpBytesRow.holds Try.pinned (OpenSpec.ofChange fnExactOpBytesSpec)

/-- ITS FALSE NEIGHBOUR: 'it returns false'. Refute it at one input. -/
def fnExactOpBytesWrong : ChangeSpec := { name := "fnExactOpBytes", fn := fun _ => fun
  | [d] => { results := [.lit (.bool false)], args := [d] }
  | _ => none }
def FnExactOpBytesWrongFalsely : Prop := fnExactOpBytesRow.holds Try.pinned (OpenSpec.ofChange fnExactOpBytesWrong)

/-- 'laws.FnExactOpRead': WHATEVER THE INPUT: true; the input reads as it did. -/
def fnExactOpReadSpec : ChangeSpec := { name := "fnExactOpRead", fn := fun _ => fun
  | [d] => { results := [.lit (.bool true)], args := [d] }
  | _ => none }
def fnExactOpReadRow : OpenClaim := { program := "yteiojpglhmikoaa", sum := "45084fb254c59f6a5c6344cdd0f25a53734714b7410b0660a9c4693663f76465", func := "loop.example/g00661/laws.FnExactOpRead", spec := "fnExactOpRead", unfollowed := true, recurses := true, apart := false }
def FnExactOpReadSaid : Prop := fnExactOpReadRow.holds Try.pinned (OpenSpec.ofChange fnExactOpReadSpec)

/-- ITS FALSE NEIGHBOUR: 'it returns false'. Refute it at one input. -/
def fnExactOpReadWrong : ChangeSpec := { name := "fnExactOpRead", fn := fun _ => fun
  | [d] => { results := [.lit (.bool false)], args := [d] }
  | _ => none }
def FnExactOpReadWrongFalsely : Prop := fnExactOpReadRow.holds Try.pinned (OpenSpec.ofChange fnExactOpReadWrong)

/- THE SECOND FORM. 'bulk': how many values and letters a reading holds, each counted each time it is reached (what is shared counts as often as it is met; a slice's spare places count too). A statement '..UptoSaid' is the law's where the arguments, and the package variables that the reading takes, are together of bulk at most 1048576: NARROWER than '..Said'. Prove '..Said' where nothing that the law and all that it calls make is longer than what came in: it says more and counts as full. Else prove '..UptoSaid'. A law counts once. -/
mutual
def uptoBulk {H : Type} : DataW H → Nat
  | .lit (.string bytes) => bytes.length + 1
  | .lit _ => 1
  | .nil => 1
  | .ptr d => uptoBulk d + 1
  | .slice elems spare => uptoBulkAll elems + uptoBulkAll spare + 1
  | .agg parts => uptoBulkAll parts + 1
  | .iface _ d => uptoBulk d + 1
  | .map entries => uptoBulkEntries entries + 1
  | .held _ => 1
def uptoBulkAll {H : Type} : List (DataW H) → Nat
  | [] => 0
  | d :: r => uptoBulk d + uptoBulkAll r
def uptoBulkEntries {H : Type} : List (Lit × DataW H) → Nat
  | [] => 0
  | x :: r => uptoBulkEntry x + uptoBulkEntries r
def uptoBulkEntry {H : Type} : Lit × DataW H → Nat
  | (.string bytes, d) => bytes.length + uptoBulk d + 1
  | (_, d) => uptoBulk d + 1
 end
def uptoSmall : (H : Type) → List (DataW H) → Bool := fun _ ds => decide (uptoBulkAll ds ≤ 1048576)
def OpenSpec.upto (s : _root_.Go.ChangeSpec) : _root_.Go.OpenSpec := { _root_.Go.OpenSpec.ofChange s with cond := some uptoSmall }

/-- 'laws.FnJournal', WHERE WHAT IT READS IS OF BULK AT MOST 1048576: true; the input reads as it did. -/
def fnJournalUptoRow : OpenClaim := { program := "yteiojpglhmikoaa", sum := "45084fb254c59f6a5c6344cdd0f25a53734714b7410b0660a9c4693663f76465", func := "loop.example/g00661/laws.FnJournal", spec := "fnJournal", unfollowed := true, recurses := true, apart := false, narrowed := true }
def FnJournalUptoSaid : Prop := fnJournalUptoRow.holds Try.pinned (OpenSpec.upto fnJournalSpec)

/-- 'laws.FnExactFrameBytes', WHERE WHAT IT READS IS OF BULK AT MOST 1048576: true; the input reads as it did. -/
def fnExactFrameBytesUptoRow : OpenClaim := { program := "yteiojpglhmikoaa", sum := "45084fb254c59f6a5c6344cdd0f25a53734714b7410b0660a9c4693663f76465", func := "loop.example/g00661/laws.FnExactFrameBytes", spec := "fnExactFrameBytes", unfollowed := true, recurses := true, apart := false, narrowed := true }
def FnExactFrameBytesUptoSaid : Prop := fnExactFrameBytesUptoRow.holds Try.pinned (OpenSpec.upto fnExactFrameBytesSpec)

/-- 'laws.FnExactJournalBytes', WHERE WHAT IT READS IS OF BULK AT MOST 1048576: true; the input reads as it did. -/
def fnExactJournalBytesUptoRow : OpenClaim := { program := "yteiojpglhmikoaa", sum := "45084fb254c59f6a5c6344cdd0f25a53734714b7410b0660a9c4693663f76465", func := "loop.example/g00661/laws.FnExactJournalBytes", spec := "fnExactJournalBytes", unfollowed := true, recurses := true, apart := false, narrowed := true }
def FnExactJournalBytesUptoSaid : Prop := fnExactJournalBytesUptoRow.holds Try.pinned (OpenSpec.upto fnExactJournalBytesSpec)

/-- 'laws.FnExactSnapBytes', WHERE WHAT IT READS IS OF BULK AT MOST 1048576: true; the input reads as it did. -/
def fnExactSnapBytesUptoRow : OpenClaim := { program := "yteiojpglhmikoaa", sum := "45084fb254c59f6a5c6344cdd0f25a53734714b7410b0660a9c4693663f76465", func := "loop.example/g00661/laws.FnExactSnapBytes", spec := "fnExactSnapBytes", unfollowed := true, recurses := true, apart := false, narrowed := true }
def FnExactSnapBytesUptoSaid : Prop := fnExactSnapBytesUptoRow.holds Try.pinned (OpenSpec.upto fnExactSnapBytesSpec)

/-- 'laws.FnExactCellsBytes', WHERE WHAT IT READS IS OF BULK AT MOST 1048576: true; the input reads as it did. -/
def fnExactCellsBytesUptoRow : OpenClaim := { program := "yteiojpglhmikoaa", sum := "45084fb254c59f6a5c6344cdd0f25a53734714b7410b0660a9c4693663f76465", func := "loop.example/g00661/laws.FnExactCellsBytes", spec := "fnExactCellsBytes", apart := false, narrowed := true }
def FnExactCellsBytesUptoSaid : Prop := fnExactCellsBytesUptoRow.holds Try.pinned (OpenSpec.upto fnExactCellsBytesSpec)

/-- 'laws.FnExactOpOk', WHERE WHAT IT READS IS OF BULK AT MOST 1048576: true; the input reads as it did. -/
def fnExactOpOkUptoRow : OpenClaim := { program := "yteiojpglhmikoaa", sum := "45084fb254c59f6a5c6344cdd0f25a53734714b7410b0660a9c4693663f76465", func := "loop.example/g00661/laws.FnExactOpOk", spec := "fnExactOpOk", unfollowed := true, recurses := true, apart := false, narrowed := true }
def FnExactOpOkUptoSaid : Prop := fnExactOpOkUptoRow.holds Try.pinned (OpenSpec.upto fnExactOpOkSpec)

/-- 'laws.FnExactOpBytes', WHERE WHAT IT READS IS OF BULK AT MOST 1048576: true; the input reads as it did. -/
def fnExactOpBytesUptoRow : OpenClaim := { program := "yteiojpglhmikoaa", sum := "45084fb254c59f6a5c6344cdd0f25a53734714b7410b0660a9c4693663f76465", func := "loop.example/g00661/laws.FnExactOpBytes", spec := "fnExactOpBytes", unfollowed := true, recurses := true, apart := false, narrowed := true }
def FnExactOpBytesUptoSaid : Prop := fnExactOpBytesUptoRow.holds Try.pinned (OpenSpec.upto fnExactOpBytesSpec)

/-- 'laws.FnExactOpRead', WHERE WHAT IT READS IS OF BULK AT MOST 1048576: true; the input reads as it did. -/
def fnExactOpReadUptoRow : OpenClaim := { program := "yteiojpglhmikoaa", sum := "45084fb254c59f6a5c6344cdd0f25a53734714b7410b0660a9c4693663f76465", func := "loop.example/g00661/laws.FnExactOpRead", spec := "fnExactOpRead", unfollowed := true, recurses := true, apart := false, narrowed := true }
def FnExactOpReadUptoSaid : Prop := fnExactOpReadUptoRow.holds Try.pinned (OpenSpec.upto fnExactOpReadSpec)

end Rows
end Go.Proofs.Yteiojpglhmikoaa
