/-
  No cell of these rows narrows 'for every input' (looked for: loops, veiled, ifaces, maps, wideKeys, modest, calm, conditions, laid).
  DERIVED. THE GIVEN ROWS OF THIS SEAT. 8 by the template 'for every input the law returns true; each argument reads behind the call as it read before'; 0 by the template 'total and deterministic' (their statements: YtmlodfceepokoaaTotals.lean).
  GIVEN WITH THE SEED: the statements are not yours to turn. If you find one false, say at which input.
  Laid BY PROGRAM, IN A SANDBOX (cutbox-rows.mjs): the forced cells as the released guide's own fill.sh prints them over the translation f3d3ee0f4600ac72… (all of the seat's roots in one cut). By AI agents, Wed Nov 11 2026. No macro, syntax, notation, axiom, sorry.
-/
import Derived.Test.YtmlodfceepokoaaChecked
import GoSem.Claim
import GoSem.ClaimJoined
import GoSem.ClaimMapViews
import Derived.JoinedTies
import Derived.KernelRfl
namespace Go.Proofs.Ytmlodfceepokoaa
/- THE CELL 'sum', in the pinned program and in every row, IS THE sha256 OF THE DUMP (.gsa) THAT YtmlodfceepokoaaProg.lean LOADS. Nothing in Lean hashes anything: it is a label: what it is worth is what the hold of that sum in a sandbox is worth. -/
noncomputable def Try.pinned : Pinned := { name := "ytmlodfceepokoaa", sum := "f3d3ee0f4600ac728e1f429c469fde6212fcb405c9b8f7fd8eda5c71bef5f31d", checked := Try.checked }
namespace Rows
def none {H : Type} : Left H := { results := [], args := [] }

/-- 'laws.FnExactSnapBytes': WHATEVER THE INPUT: true; the input reads as it did. -/
def fnExactSnapBytesSpec : ChangeSpec := { name := "fnExactSnapBytes", fn := fun _ => fun
  | [d1, d2, d3] => { results := [.lit (.bool true)], args := [d1, d2, d3] }
  | _ => none }
def fnExactSnapBytesRow : OpenClaim := { program := "ytmlodfceepokoaa", sum := "f3d3ee0f4600ac728e1f429c469fde6212fcb405c9b8f7fd8eda5c71bef5f31d", func := "loop.example/g00661/laws.FnExactSnapBytes", spec := "fnExactSnapBytes", unfollowed := true, recurses := true, apart := false }
def FnExactSnapBytesSaid : Prop := fnExactSnapBytesRow.holds Try.pinned (OpenSpec.ofChange fnExactSnapBytesSpec)

/-- ITS FALSE NEIGHBOUR: 'it returns false'. Refute it at one input. -/
def fnExactSnapBytesWrong : ChangeSpec := { name := "fnExactSnapBytes", fn := fun _ => fun
  | [d1, d2, d3] => { results := [.lit (.bool false)], args := [d1, d2, d3] }
  | _ => none }
def FnExactSnapBytesWrongFalsely : Prop := fnExactSnapBytesRow.holds Try.pinned (OpenSpec.ofChange fnExactSnapBytesWrong)

/-- 'laws.FnJournal': WHATEVER THE INPUT: true; the input reads as it did. -/
def fnJournalSpec : ChangeSpec := { name := "fnJournal", fn := fun _ => fun
  | [d] => { results := [.lit (.bool true)], args := [d] }
  | _ => none }
def fnJournalRow : OpenClaim := { program := "ytmlodfceepokoaa", sum := "f3d3ee0f4600ac728e1f429c469fde6212fcb405c9b8f7fd8eda5c71bef5f31d", func := "loop.example/g00661/laws.FnJournal", spec := "fnJournal", unfollowed := true, recurses := true, apart := false }
def FnJournalSaid : Prop := fnJournalRow.holds Try.pinned (OpenSpec.ofChange fnJournalSpec)

/-- ITS FALSE NEIGHBOUR: 'it returns false'. Refute it at one input. -/
def fnJournalWrong : ChangeSpec := { name := "fnJournal", fn := fun _ => fun
  | [d] => { results := [.lit (.bool false)], args := [d] }
  | _ => none }
def FnJournalWrongFalsely : Prop := fnJournalRow.holds Try.pinned (OpenSpec.ofChange fnJournalWrong)

/-- 'laws.FnExactFrameBytes': WHATEVER THE INPUT: true; the input reads as it did. -/
def fnExactFrameBytesSpec : ChangeSpec := { name := "fnExactFrameBytes", fn := fun _ => fun
  | [d1, d2] => { results := [.lit (.bool true)], args := [d1, d2] }
  | _ => none }
def fnExactFrameBytesRow : OpenClaim := { program := "ytmlodfceepokoaa", sum := "f3d3ee0f4600ac728e1f429c469fde6212fcb405c9b8f7fd8eda5c71bef5f31d", func := "loop.example/g00661/laws.FnExactFrameBytes", spec := "fnExactFrameBytes", unfollowed := true, recurses := true, apart := false }
def FnExactFrameBytesSaid : Prop := fnExactFrameBytesRow.holds Try.pinned (OpenSpec.ofChange fnExactFrameBytesSpec)

/-- ITS FALSE NEIGHBOUR: 'it returns false'. Refute it at one input. -/
def fnExactFrameBytesWrong : ChangeSpec := { name := "fnExactFrameBytes", fn := fun _ => fun
  | [d1, d2] => { results := [.lit (.bool false)], args := [d1, d2] }
  | _ => none }
def FnExactFrameBytesWrongFalsely : Prop := fnExactFrameBytesRow.holds Try.pinned (OpenSpec.ofChange fnExactFrameBytesWrong)

/-- 'laws.FnExactFrameRead': WHATEVER THE INPUT: true; the input reads as it did. -/
def fnExactFrameReadSpec : ChangeSpec := { name := "fnExactFrameRead", fn := fun _ => fun
  | [d1, d2] => { results := [.lit (.bool true)], args := [d1, d2] }
  | _ => none }
def fnExactFrameReadRow : OpenClaim := { program := "ytmlodfceepokoaa", sum := "f3d3ee0f4600ac728e1f429c469fde6212fcb405c9b8f7fd8eda5c71bef5f31d", func := "loop.example/g00661/laws.FnExactFrameRead", spec := "fnExactFrameRead", unfollowed := true, recurses := true, apart := false }
def FnExactFrameReadSaid : Prop := fnExactFrameReadRow.holds Try.pinned (OpenSpec.ofChange fnExactFrameReadSpec)

/-- ITS FALSE NEIGHBOUR: 'it returns false'. Refute it at one input. -/
def fnExactFrameReadWrong : ChangeSpec := { name := "fnExactFrameRead", fn := fun _ => fun
  | [d1, d2] => { results := [.lit (.bool false)], args := [d1, d2] }
  | _ => none }
def FnExactFrameReadWrongFalsely : Prop := fnExactFrameReadRow.holds Try.pinned (OpenSpec.ofChange fnExactFrameReadWrong)

/-- 'laws.FnExactJournalBytes': WHATEVER THE INPUT: true; the input reads as it did. -/
def fnExactJournalBytesSpec : ChangeSpec := { name := "fnExactJournalBytes", fn := fun _ => fun
  | [d1, d2] => { results := [.lit (.bool true)], args := [d1, d2] }
  | _ => none }
def fnExactJournalBytesRow : OpenClaim := { program := "ytmlodfceepokoaa", sum := "f3d3ee0f4600ac728e1f429c469fde6212fcb405c9b8f7fd8eda5c71bef5f31d", func := "loop.example/g00661/laws.FnExactJournalBytes", spec := "fnExactJournalBytes", unfollowed := true, recurses := true, apart := false }
def FnExactJournalBytesSaid : Prop := fnExactJournalBytesRow.holds Try.pinned (OpenSpec.ofChange fnExactJournalBytesSpec)

/-- ITS FALSE NEIGHBOUR: 'it returns false'. Refute it at one input. -/
def fnExactJournalBytesWrong : ChangeSpec := { name := "fnExactJournalBytes", fn := fun _ => fun
  | [d1, d2] => { results := [.lit (.bool false)], args := [d1, d2] }
  | _ => none }
def FnExactJournalBytesWrongFalsely : Prop := fnExactJournalBytesRow.holds Try.pinned (OpenSpec.ofChange fnExactJournalBytesWrong)

/-- 'laws.FnExactJournalRead': WHATEVER THE INPUT: true; the input reads as it did. -/
def fnExactJournalReadSpec : ChangeSpec := { name := "fnExactJournalRead", fn := fun _ => fun
  | [d1, d2] => { results := [.lit (.bool true)], args := [d1, d2] }
  | _ => none }
def fnExactJournalReadRow : OpenClaim := { program := "ytmlodfceepokoaa", sum := "f3d3ee0f4600ac728e1f429c469fde6212fcb405c9b8f7fd8eda5c71bef5f31d", func := "loop.example/g00661/laws.FnExactJournalRead", spec := "fnExactJournalRead", unfollowed := true, recurses := true, apart := false }
def FnExactJournalReadSaid : Prop := fnExactJournalReadRow.holds Try.pinned (OpenSpec.ofChange fnExactJournalReadSpec)

/-- ITS FALSE NEIGHBOUR: 'it returns false'. Refute it at one input. -/
def fnExactJournalReadWrong : ChangeSpec := { name := "fnExactJournalRead", fn := fun _ => fun
  | [d1, d2] => { results := [.lit (.bool false)], args := [d1, d2] }
  | _ => none }
def FnExactJournalReadWrongFalsely : Prop := fnExactJournalReadRow.holds Try.pinned (OpenSpec.ofChange fnExactJournalReadWrong)

/-- 'laws.FnDisk': WHATEVER THE INPUT: true; the input reads as it did. -/
def fnDiskSpec : ChangeSpec := { name := "fnDisk", fn := fun _ => fun
  | [d] => { results := [.lit (.bool true)], args := [d] }
  | _ => none }
def fnDiskRow : OpenClaim := { program := "ytmlodfceepokoaa", sum := "f3d3ee0f4600ac728e1f429c469fde6212fcb405c9b8f7fd8eda5c71bef5f31d", func := "loop.example/g00661/laws.FnDisk", spec := "fnDisk", inPlace := ["internal/bytealg.abigen_runtime_cmpstring"], unfollowed := true, recurses := true, apart := false }
def FnDiskSaid : Prop := fnDiskRow.holds Try.pinned (OpenSpec.ofChange fnDiskSpec)

/-- ITS FALSE NEIGHBOUR: 'it returns false'. Refute it at one input. -/
def fnDiskWrong : ChangeSpec := { name := "fnDisk", fn := fun _ => fun
  | [d] => { results := [.lit (.bool false)], args := [d] }
  | _ => none }
def FnDiskWrongFalsely : Prop := fnDiskRow.holds Try.pinned (OpenSpec.ofChange fnDiskWrong)

/-- 'laws.FnExactDiskDir': WHATEVER THE INPUT: true; the input reads as it did. -/
def fnExactDiskDirSpec : ChangeSpec := { name := "fnExactDiskDir", fn := fun _ => fun
  | [d] => { results := [.lit (.bool true)], args := [d] }
  | _ => none }
def fnExactDiskDirRow : OpenClaim := { program := "ytmlodfceepokoaa", sum := "f3d3ee0f4600ac728e1f429c469fde6212fcb405c9b8f7fd8eda5c71bef5f31d", func := "loop.example/g00661/laws.FnExactDiskDir", spec := "fnExactDiskDir", inPlace := ["internal/bytealg.abigen_runtime_cmpstring"], unfollowed := true, recurses := true, apart := false }
def FnExactDiskDirSaid : Prop := fnExactDiskDirRow.holds Try.pinned (OpenSpec.ofChange fnExactDiskDirSpec)

/-- ITS FALSE NEIGHBOUR: 'it returns false'. Refute it at one input. -/
def fnExactDiskDirWrong : ChangeSpec := { name := "fnExactDiskDir", fn := fun _ => fun
  | [d] => { results := [.lit (.bool false)], args := [d] }
  | _ => none }
def FnExactDiskDirWrongFalsely : Prop := fnExactDiskDirRow.holds Try.pinned (OpenSpec.ofChange fnExactDiskDirWrong)

/- THE SECOND FORM. 'bulk': how many values and letters a reading holds, each counted each time it is reached (what is shared counts as often as it is met; a slice's spare places count too). A statement '..UptoSaid' is the law's where the arguments, and the package variables that the reading takes, are together of bulk at most 1048576: NARROWER than '..Said'. Prove '..Said' where nothing that the law and all that it calls make is longer than what came in: it says more and counts as full. Else prove '..UptoSaid'. A law counts once. -/
mutual
def uptoBulk {H : Type} : DataW H → Nat
  | .lit (.string bytes) => bytes.length + 1
  | .lit _ => 1
  | .nil => 1
  | .ptr d => uptoBulk d + 1
  | .slice elems spare => uptoBulkAll elems + uptoBulkAll spare + 1
  | .agg parts => uptoBulkAll parts + 1
  | .iface _ d => uptoBulk d + 1
  | .map entries => uptoBulkEntries entries + 1
  | .held _ => 1
def uptoBulkAll {H : Type} : List (DataW H) → Nat
  | [] => 0
  | d :: r => uptoBulk d + uptoBulkAll r
def uptoBulkEntries {H : Type} : List (Lit × DataW H) → Nat
  | [] => 0
  | x :: r => uptoBulkEntry x + uptoBulkEntries r
def uptoBulkEntry {H : Type} : Lit × DataW H → Nat
  | (.string bytes, d) => bytes.length + uptoBulk d + 1
  | (_, d) => uptoBulk d + 1
 end
def uptoSmall : (H : Type) → List (DataW H) → Bool := fun _ ds => decide (uptoBulkAll ds ≤ 1048576)
def OpenSpec.upto (s : _root_.Go.ChangeSpec) : _root_.Go.OpenSpec := { _root_.Go.OpenSpec.ofChange s with cond := some uptoSmall }

/-- 'laws.FnExactSnapBytes', WHERE WHAT IT READS IS OF BULK AT MOST 1048576: true; the input reads as it did. -/
def fnExactSnapBytesUptoRow : OpenClaim := { program := "ytmlodfceepokoaa", sum := "f3d3ee0f4600ac728e1f429c469fde6212fcb405c9b8f7fd8eda5c71bef5f31d", func := "loop.example/g00661/laws.FnExactSnapBytes", spec := "fnExactSnapBytes", unfollowed := true, recurses := true, apart := false, narrowed := true }
def FnExactSnapBytesUptoSaid : Prop := fnExactSnapBytesUptoRow.holds Try.pinned (OpenSpec.upto fnExactSnapBytesSpec)

/-- 'laws.FnJournal', WHERE WHAT IT READS IS OF BULK AT MOST 1048576: true; the input reads as it did. -/
def fnJournalUptoRow : OpenClaim := { program := "ytmlodfceepokoaa", sum := "f3d3ee0f4600ac728e1f429c469fde6212fcb405c9b8f7fd8eda5c71bef5f31d", func := "loop.example/g00661/laws.FnJournal", spec := "fnJournal", unfollowed := true, recurses := true, apart := false, narrowed := true }
def FnJournalUptoSaid : Prop := fnJournalUptoRow.holds Try.pinned (OpenSpec.upto fnJournalSpec)

/-- 'laws.FnExactFrameBytes', WHERE WHAT IT READS IS OF BULK AT MOST 1048576: true; the input reads as it did. -/
def fnExactFrameBytesUptoRow : OpenClaim := { program := "ytmlodfceepokoaa", sum := "f3d3ee0f4600ac728e1f429c469fde6212fcb405c9b8f7fd8eda5c71bef5f31d", func := "loop.example/g00661/laws.FnExactFrameBytes", spec := "fnExactFrameBytes", unfollowed := true, recurses := true, apart := false, narrowed := true }
def FnExactFrameBytesUptoSaid : Prop := fnExactFrameBytesUptoRow.holds Try.pinned (OpenSpec.upto fnExactFrameBytesSpec)

/-- 'laws.FnExactFrameRead', WHERE WHAT IT READS IS OF BULK AT MOST 1048576: true; the input reads as it did. -/
def fnExactFrameReadUptoRow : OpenClaim := { program := "ytmlodfceepokoaa", sum := "f3d3ee0f4600ac728e1f429c469fde6212fcb405c9b8f7fd8eda5c71bef5f31d", func := "loop.example/g00661/laws.FnExactFrameRead", spec := "fnExactFrameRead", unfollowed := true, recurses := true, apart := false, narrowed := true }
def FnExactFrameReadUptoSaid : Prop := fnExactFrameReadUptoRow.holds Try.pinned (OpenSpec.upto fnExactFrameReadSpec)

/-- 'laws.FnExactJournalBytes', WHERE WHAT IT READS IS OF BULK AT MOST 1048576: true; the input reads as it did. -/
def fnExactJournalBytesUptoRow : OpenClaim := { program := "ytmlodfceepokoaa", sum := "f3d3ee0f4600ac728e1f429c469fde6212fcb405c9b8f7fd8eda5c71bef5f31d", func := "loop.example/g00661/laws.FnExactJournalBytes", spec := "fnExactJournalBytes", unfollowed := true, recurses := true, apart := false, narrowed := true }
def FnExactJournalBytesUptoSaid : Prop := fnExactJournalBytesUptoRow.holds Try.pinned (OpenSpec.upto fnExactJournalBytesSpec)

/-- 'laws.FnExactJournalRead', WHERE WHAT IT READS IS OF BULK AT MOST 1048576: true; the input reads as it did. -/
def fnExactJournalReadUptoRow : OpenClaim := { program := "ytmlodfceepokoaa", sum := "f3d3ee0f4600ac728e1f429c469fde6212fcb405c9b8f7fd8eda5c71bef5f31d", func := "loop.example/g00661/laws.FnExactJournalRead", spec := "fnExactJournalRead", unfollowed := true, recurses := true, apart := false, narrowed := true }
def FnExactJournalReadUptoSaid : Prop := fnExactJournalReadUptoRow.holds Try.pinned (OpenSpec.upto fnExactJournalReadSpec)

/-- 'laws.FnDisk', WHERE WHAT IT READS IS OF BULK AT MOST 1048576: true; the input reads as it did. -/
def fnDiskUptoRow : OpenClaim := { program := "ytmlodfceepokoaa", sum := "f3d3ee0f4600ac728e1f429c469fde6212fcb405c9b8f7fd8eda5c71bef5f31d", func := "loop.example/g00661/laws.FnDisk", spec := "fnDisk", inPlace := ["internal/bytealg.abigen_runtime_cmpstring"], unfollowed := true, recurses := true, apart := false, narrowed := true }
def FnDiskUptoSaid : Prop := fnDiskUptoRow.holds Try.pinned (OpenSpec.upto fnDiskSpec)

/-- 'laws.FnExactDiskDir', WHERE WHAT IT READS IS OF BULK AT MOST 1048576: true; the input reads as it did. -/
def fnExactDiskDirUptoRow : OpenClaim := { program := "ytmlodfceepokoaa", sum := "f3d3ee0f4600ac728e1f429c469fde6212fcb405c9b8f7fd8eda5c71bef5f31d", func := "loop.example/g00661/laws.FnExactDiskDir", spec := "fnExactDiskDir", inPlace := ["internal/bytealg.abigen_runtime_cmpstring"], unfollowed := true, recurses := true, apart := false, narrowed := true }
def FnExactDiskDirUptoSaid : Prop := fnExactDiskDirUptoRow.holds Try.pinned (OpenSpec.upto fnExactDiskDirSpec)

end Rows
end Go.Proofs.Ytmlodfceepokoaa
