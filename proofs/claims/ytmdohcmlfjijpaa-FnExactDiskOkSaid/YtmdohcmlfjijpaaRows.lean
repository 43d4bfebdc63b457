/-
  No cell of these rows narrows 'for every input' (looked for: loops, veiled, ifaces, maps, wideKeys, modest, calm, conditions, laid).
  DERIVED. THE GIVEN ROWS OF THIS SEAT. 9 by the template 'for every input the law returns true; each argument reads behind the call as it read before'; 0 by the template 'total and deterministic' (their statements: YtmdohcmlfjijpaaTotals.lean).
  GIVEN WITH THE SEED: the statements are not yours to turn. If you find one false, say at which input.
  Laid BY PROGRAM, IN A SANDBOX (cutbox-rows.mjs): the forced cells as the released guide's own fill.sh prints them over the translation 3156de9a07cb96b7… (all of the seat's roots in one cut). By AI agents, Wed Nov 11 2026. No macro, syntax, notation, axiom, sorry.
-/
import Derived.Test.YtmdohcmlfjijpaaChecked
import GoSem.Claim
import GoSem.ClaimJoined
import GoSem.ClaimMapViews
import Derived.JoinedTies
import Derived.KernelRfl
namespace Go.Proofs.Ytmdohcmlfjijpaa
/- THE CELL 'sum', in the pinned program and in every row, IS THE sha256 OF THE DUMP (.gsa) THAT YtmdohcmlfjijpaaProg.lean LOADS. Nothing in Lean hashes anything: it is a label: what it is worth is what the hold of that sum in a sandbox is worth. -/
noncomputable def Try.pinned : Pinned := { name := "ytmdohcmlfjijpaa", sum := "3156de9a07cb96b7cde45132fd9a2d5468c9d2e6bc6ec449b115d5bb5337f550", checked := Try.checked }
namespace Rows
def none {H : Type} : Left H := { results := [], args := [] }

/-- 'laws.FnDisk': WHATEVER THE INPUT: true; the input reads as it did. -/
def fnDiskSpec : ChangeSpec := { name := "fnDisk", fn := fun _ => fun
  | [d] => { results := [.lit (.bool true)], args := [d] }
  | _ => none }
def fnDiskRow : OpenClaim := { program := "ytmdohcmlfjijpaa", sum := "3156de9a07cb96b7cde45132fd9a2d5468c9d2e6bc6ec449b115d5bb5337f550", func := "loop.example/g00661/laws.FnDisk", spec := "fnDisk", inPlace := ["internal/bytealg.abigen_runtime_cmpstring"], unfollowed := true, recurses := true, apart := false }
def FnDiskSaid : Prop := fnDiskRow.holds Try.pinned (OpenSpec.ofChange fnDiskSpec)

/-- ITS FALSE NEIGHBOUR: 'it returns false'. Refute it at one input. -/
def fnDiskWrong : ChangeSpec := { name := "fnDisk", fn := fun _ => fun
  | [d] => { results := [.lit (.bool false)], args := [d] }
  | _ => none }
def FnDiskWrongFalsely : Prop := fnDiskRow.holds Try.pinned (OpenSpec.ofChange fnDiskWrong)

/-- 'laws.FnExactWordOk': WHATEVER THE INPUT: true; the input reads as it did. -/
def fnExactWordOkSpec : ChangeSpec := { name := "fnExactWordOk", fn := fun _ => fun
  | [d] => { results := [.lit (.bool true)], args := [d] }
  | _ => none }
def fnExactWordOkRow : OpenClaim := { program := "ytmdohcmlfjijpaa", sum := "3156de9a07cb96b7cde45132fd9a2d5468c9d2e6bc6ec449b115d5bb5337f550", func := "loop.example/g00661/laws.FnExactWordOk", spec := "fnExactWordOk", unfollowed := true, recurses := true, apart := false }
def FnExactWordOkSaid : Prop := fnExactWordOkRow.holds Try.pinned (OpenSpec.ofChange fnExactWordOkSpec)

/-- ITS FALSE NEIGHBOUR: 'it returns false'. Refute it at one input. -/
def fnExactWordOkWrong : ChangeSpec := { name := "fnExactWordOk", fn := fun _ => fun
  | [d] => { results := [.lit (.bool false)], args := [d] }
  | _ => none }
def FnExactWordOkWrongFalsely : Prop := fnExactWordOkRow.holds Try.pinned (OpenSpec.ofChange fnExactWordOkWrong)

/-- 'laws.FnExactNameOk': WHATEVER THE INPUT: true; the input reads as it did. -/
def fnExactNameOkSpec : ChangeSpec := { name := "fnExactNameOk", fn := fun _ => fun
  | [d] => { results := [.lit (.bool true)], args := [d] }
  | _ => none }
def fnExactNameOkRow : OpenClaim := { program := "ytmdohcmlfjijpaa", sum := "3156de9a07cb96b7cde45132fd9a2d5468c9d2e6bc6ec449b115d5bb5337f550", func := "loop.example/g00661/laws.FnExactNameOk", spec := "fnExactNameOk", unfollowed := true, recurses := true, apart := false }
def FnExactNameOkSaid : Prop := fnExactNameOkRow.holds Try.pinned (OpenSpec.ofChange fnExactNameOkSpec)

/-- ITS FALSE NEIGHBOUR: 'it returns false'. Refute it at one input. -/
def fnExactNameOkWrong : ChangeSpec := { name := "fnExactNameOk", fn := fun _ => fun
  | [d] => { results := [.lit (.bool false)], args := [d] }
  | _ => none }
def FnExactNameOkWrongFalsely : Prop := fnExactNameOkRow.holds Try.pinned (OpenSpec.ofChange fnExactNameOkWrong)

/-- 'laws.FnExactDiskOk': WHATEVER THE INPUT: true; the input reads as it did. -/
def fnExactDiskOkSpec : ChangeSpec := { name := "fnExactDiskOk", fn := fun _ => fun
  | [d] => { results := [.lit (.bool true)], args := [d] }
  | _ => none }
def fnExactDiskOkRow : OpenClaim := { program := "ytmdohcmlfjijpaa", sum := "3156de9a07cb96b7cde45132fd9a2d5468c9d2e6bc6ec449b115d5bb5337f550", func := "loop.example/g00661/laws.FnExactDiskOk", spec := "fnExactDiskOk", unfollowed := true, recurses := true, apart := false }
def FnExactDiskOkSaid : Prop := fnExactDiskOkRow.holds Try.pinned (OpenSpec.ofChange fnExactDiskOkSpec)

/-- ITS FALSE NEIGHBOUR: 'it returns false'. Refute it at one input. -/
def fnExactDiskOkWrong : ChangeSpec := { name := "fnExactDiskOk", fn := fun _ => fun
  | [d] => { results := [.lit (.bool false)], args := [d] }
  | _ => none }
def FnExactDiskOkWrongFalsely : Prop := fnExactDiskOkRow.holds Try.pinned (OpenSpec.ofChange fnExactDiskOkWrong)

/-- 'laws.FnExactDiskNew': WHATEVER THE INPUT: true; the input reads as it did. -/
def fnExactDiskNewSpec : ChangeSpec := { name := "fnExactDiskNew", fn := fun _ => fun
  | [d] => { results := [.lit (.bool true)], args := [d] }
  | _ => none }
def fnExactDiskNewRow : OpenClaim := { program := "ytmdohcmlfjijpaa", sum := "3156de9a07cb96b7cde45132fd9a2d5468c9d2e6bc6ec449b115d5bb5337f550", func := "loop.example/g00661/laws.FnExactDiskNew", spec := "fnExactDiskNew", unfollowed := true, recurses := true, apart := false }
def FnExactDiskNewSaid : Prop := fnExactDiskNewRow.holds Try.pinned (OpenSpec.ofChange fnExactDiskNewSpec)

/-- ITS FALSE NEIGHBOUR: 'it returns false'. Refute it at one input. -/
def fnExactDiskNewWrong : ChangeSpec := { name := "fnExactDiskNew", fn := fun _ => fun
  | [d] => { results := [.lit (.bool false)], args := [d] }
  | _ => none }
def FnExactDiskNewWrongFalsely : Prop := fnExactDiskNewRow.holds Try.pinned (OpenSpec.ofChange fnExactDiskNewWrong)

/-- 'laws.FnExactDiskDir': WHATEVER THE INPUT: true; the input reads as it did. -/
def fnExactDiskDirSpec : ChangeSpec := { name := "fnExactDiskDir", fn := fun _ => fun
  | [d] => { results := [.lit (.bool true)], args := [d] }
  | _ => none }
def fnExactDiskDirRow : OpenClaim := { program := "ytmdohcmlfjijpaa", sum := "3156de9a07cb96b7cde45132fd9a2d5468c9d2e6bc6ec449b115d5bb5337f550", func := "loop.example/g00661/laws.FnExactDiskDir", spec := "fnExactDiskDir", inPlace := ["internal/bytealg.abigen_runtime_cmpstring"], unfollowed := true, recurses := true, apart := false }
def FnExactDiskDirSaid : Prop := fnExactDiskDirRow.holds Try.pinned (OpenSpec.ofChange fnExactDiskDirSpec)

/-- ITS FALSE NEIGHBOUR: 'it returns false'. Refute it at one input. -/
def fnExactDiskDirWrong : ChangeSpec := { name := "fnExactDiskDir", fn := fun _ => fun
  | [d] => { results := [.lit (.bool false)], args := [d] }
  | _ => none }
def FnExactDiskDirWrongFalsely : Prop := fnExactDiskDirRow.holds Try.pinned (OpenSpec.ofChange fnExactDiskDirWrong)

/-- 'laws.FnExactDiskRead': WHATEVER THE INPUT: true; the input reads as it did. -/
def fnExactDiskReadSpec : ChangeSpec := { name := "fnExactDiskRead", fn := fun _ => fun
  | [d1, d2] => { results := [.lit (.bool true)], args := [d1, d2] }
  | _ => none }
def fnExactDiskReadRow : OpenClaim := { program := "ytmdohcmlfjijpaa", sum := "3156de9a07cb96b7cde45132fd9a2d5468c9d2e6bc6ec449b115d5bb5337f550", func := "loop.example/g00661/laws.FnExactDiskRead", spec := "fnExactDiskRead", unfollowed := true, recurses := true, apart := false }
def FnExactDiskReadSaid : Prop := fnExactDiskReadRow.holds Try.pinned (OpenSpec.ofChange fnExactDiskReadSpec)

/-- ITS FALSE NEIGHBOUR: 'it returns false'. Refute it at one input. -/
def fnExactDiskReadWrong : ChangeSpec := { name := "fnExactDiskRead", fn := fun _ => fun
  | [d1, d2] => { results := [.lit (.bool false)], args := [d1, d2] }
  | _ => none }
def FnExactDiskReadWrongFalsely : Prop := fnExactDiskReadRow.holds Try.pinned (OpenSpec.ofChange fnExactDiskReadWrong)

/-- 'laws.FnExactDiskOpOk': WHATEVER THE INPUT: true; the input reads as it did. -/
def fnExactDiskOpOkSpec : ChangeSpec := { name := "fnExactDiskOpOk", fn := fun _ => fun
  | [d] => { results := [.lit (.bool true)], args := [d] }
  | _ => none }
def fnExactDiskOpOkRow : OpenClaim := { program := "ytmdohcmlfjijpaa", sum := "3156de9a07cb96b7cde45132fd9a2d5468c9d2e6bc6ec449b115d5bb5337f550", func := "loop.example/g00661/laws.FnExactDiskOpOk", spec := "fnExactDiskOpOk", unfollowed := true, recurses := true, apart := false }
def FnExactDiskOpOkSaid : Prop := fnExactDiskOpOkRow.holds Try.pinned (OpenSpec.ofChange fnExactDiskOpOkSpec)

/-- ITS FALSE NEIGHBOUR: 'it returns false'. Refute it at one input. -/
def fnExactDiskOpOkWrong : ChangeSpec := { name := "fnExactDiskOpOk", fn := fun _ => fun
  | [d] => { results := [.lit (.bool false)], args := [d] }
  | _ => none }
def FnExactDiskOpOkWrongFalsely : Prop := fnExactDiskOpOkRow.holds Try.pinned (OpenSpec.ofChange fnExactDiskOpOkWrong)

/-- 'laws.FnExactDiskSet': WHATEVER THE INPUT: true; the input reads as it did. -/
def fnExactDiskSetSpec : ChangeSpec := { name := "fnExactDiskSet", fn := fun _ => fun
  | [d1, d2, d3] => { results := [.lit (.bool true)], args := [d1, d2, d3] }
  | _ => none }
def fnExactDiskSetRow : OpenClaim := { program := "ytmdohcmlfjijpaa", sum := "3156de9a07cb96b7cde45132fd9a2d5468c9d2e6bc6ec449b115d5bb5337f550", func := "loop.example/g00661/laws.FnExactDiskSet", spec := "fnExactDiskSet", unfollowed := true, recurses := true, apart := false }
def FnExactDiskSetSaid : Prop := fnExactDiskSetRow.holds Try.pinned (OpenSpec.ofChange fnExactDiskSetSpec)

/-- ITS FALSE NEIGHBOUR: 'it returns false'. Refute it at one input. -/
def fnExactDiskSetWrong : ChangeSpec := { name := "fnExactDiskSet", fn := fun _ => fun
  | [d1, d2, d3] => { results := [.lit (.bool false)], args := [d1, d2, d3] }
  | _ => none }
def FnExactDiskSetWrongFalsely : Prop := fnExactDiskSetRow.holds Try.pinned (OpenSpec.ofChange fnExactDiskSetWrong)

/- THE SECOND FORM. 'bulk': how many values and letters a reading holds, each counted each time it is reached (what is shared counts as often as it is met; a slice's spare places count too). A statement '..UptoSaid' is the law's where the arguments, and the package variables that the reading takes, are together of bulk at most 1048576: NARROWER than '..Said'. Prove '..Said' where nothing that the law and all that it calls make is longer than what came in: it says more and counts as full. Else prove '..UptoSaid'. A law counts once. -/
mutual
def uptoBulk {H : Type} : DataW H → Nat
  | .lit (.string bytes) => bytes.length + 1
  | .lit _ => 1
  | .nil => 1
  | .ptr d => uptoBulk d + 1
  | .slice elems spare => uptoBulkAll elems + uptoBulkAll spare + 1
  | .agg parts => uptoBulkAll parts + 1
  | .iface _ d => uptoBulk d + 1
  | .map entries => uptoBulkEntries entries + 1
  | .held _ => 1
def uptoBulkAll {H : Type} : List (DataW H) → Nat
  | [] => 0
  | d :: r => uptoBulk d + uptoBulkAll r
def uptoBulkEntries {H : Type} : List (Lit × DataW H) → Nat
  | [] => 0
  | x :: r => uptoBulkEntry x + uptoBulkEntries r
def uptoBulkEntry {H : Type} : Lit × DataW H → Nat
  | (.string bytes, d) => bytes.length + uptoBulk d + 1
  | (_, d) => uptoBulk d + 1
 end
def uptoSmall : (H : Type) → List (DataW H) → Bool := fun _ ds => decide (uptoBulkAll ds ≤ 1048576)
def OpenSpec.upto (s : _root_.Go.ChangeSpec) : _root_.Go.OpenSpec := { _root_.Go.OpenSpec.ofChange s with cond := some uptoSmall }

/-- 'laws.FnDisk', WHERE WHAT IT READS IS OF BULK AT MOST 1048576: true; the input reads as it did. -/
def fnDiskUptoRow : OpenClaim := { program := "ytmdohcmlfjijpaa", sum := "3156de9a07cb96b7cde45132fd9a2d5468c9d2e6bc6ec449b115d5bb5337f550", func := "loop.example/g00661/laws.FnDisk", spec := "fnDisk", inPlace := ["internal/bytealg.abigen_runtime_cmpstring"], unfollowed := true, recurses := true, apart := false, narrowed := true }
def FnDiskUptoSaid : Prop := fnDiskUptoRow.holds Try.pinned (OpenSpec.upto fnDiskSpec)

/-- 'laws.FnExactWordOk', WHERE WHAT IT READS IS OF BULK AT MOST 1048576: true; the input reads as it did. -/
def fnExactWordOkUptoRow : OpenClaim := { program := "ytmdohcmlfjijpaa", sum := "3156de9a07cb96b7cde45132fd9a2d5468c9d2e6bc6ec449b115d5bb5337f550", func := "loop.example/g00661/laws.FnExactWordOk", spec := "fnExactWordOk", unfollowed := true, recurses := true, apart := false, narrowed := true }
def FnExactWordOkUptoSaid : Prop := fnExactWordOkUptoRow.holds Try.pinned (OpenSpec.upto fnExactWordOkSpec)

/-- 'laws.FnExactNameOk', WHERE WHAT IT READS IS OF BULK AT MOST 1048576: true; the input reads as it did. -/
def fnExactNameOkUptoRow : OpenClaim := { program := "ytmdohcmlfjijpaa", sum := "3156de9a07cb96b7cde45132fd9a2d5468c9d2e6bc6ec449b115d5bb5337f550", func := "loop.example/g00661/laws.FnExactNameOk", spec := "fnExactNameOk", unfollowed := true, recurses := true, apart := false, narrowed := true }
def FnExactNameOkUptoSaid : Prop := fnExactNameOkUptoRow.holds Try.pinned (OpenSpec.upto fnExactNameOkSpec)

/-- 'laws.FnExactDiskOk', WHERE WHAT IT READS IS OF BULK AT MOST 1048576: true; the input reads as it did. -/
def fnExactDiskOkUptoRow : OpenClaim := { program := "ytmdohcmlfjijpaa", sum := "3156de9a07cb96b7cde45132fd9a2d5468c9d2e6bc6ec449b115d5bb5337f550", func := "loop.example/g00661/laws.FnExactDiskOk", spec := "fnExactDiskOk", unfollowed := true, recurses := true, apart := false, narrowed := true }
def FnExactDiskOkUptoSaid : Prop := fnExactDiskOkUptoRow.holds Try.pinned (OpenSpec.upto fnExactDiskOkSpec)

/-- 'laws.FnExactDiskNew', WHERE WHAT IT READS IS OF BULK AT MOST 1048576: true; the input reads as it did. -/
def fnExactDiskNewUptoRow : OpenClaim := { program := "ytmdohcmlfjijpaa", sum := "3156de9a07cb96b7cde45132fd9a2d5468c9d2e6bc6ec449b115d5bb5337f550", func := "loop.example/g00661/laws.FnExactDiskNew", spec := "fnExactDiskNew", unfollowed := true, recurses := true, apart := false, narrowed := true }
def FnExactDiskNewUptoSaid : Prop := fnExactDiskNewUptoRow.holds Try.pinned (OpenSpec.upto fnExactDiskNewSpec)

/-- 'laws.FnExactDiskDir', WHERE WHAT IT READS IS OF BULK AT MOST 1048576: true; the input reads as it did. -/
def fnExactDiskDirUptoRow : OpenClaim := { program := "ytmdohcmlfjijpaa", sum := "3156de9a07cb96b7cde45132fd9a2d5468c9d2e6bc6ec449b115d5bb5337f550", func := "loop.example/g00661/laws.FnExactDiskDir", spec := "fnExactDiskDir", inPlace := ["internal/bytealg.abigen_runtime_cmpstring"], unfollowed := true, recurses := true, apart := false, narrowed := true }
def FnExactDiskDirUptoSaid : Prop := fnExactDiskDirUptoRow.holds Try.pinned (OpenSpec.upto fnExactDiskDirSpec)

/-- 'laws.FnExactDiskRead', WHERE WHAT IT READS IS OF BULK AT MOST 1048576: true; the input reads as it did. -/
def fnExactDiskReadUptoRow : OpenClaim := { program := "ytmdohcmlfjijpaa", sum := "3156de9a07cb96b7cde45132fd9a2d5468c9d2e6bc6ec449b115d5bb5337f550", func := "loop.example/g00661/laws.FnExactDiskRead", spec := "fnExactDiskRead", unfollowed := true, recurses := true, apart := false, narrowed := true }
def FnExactDiskReadUptoSaid : Prop := fnExactDiskReadUptoRow.holds Try.pinned (OpenSpec.upto fnExactDiskReadSpec)

/-- 'laws.FnExactDiskOpOk', WHERE WHAT IT READS IS OF BULK AT MOST 1048576: true; the input reads as it did. -/
def fnExactDiskOpOkUptoRow : OpenClaim := { program := "ytmdohcmlfjijpaa", sum := "3156de9a07cb96b7cde45132fd9a2d5468c9d2e6bc6ec449b115d5bb5337f550", func := "loop.example/g00661/laws.FnExactDiskOpOk", spec := "fnExactDiskOpOk", unfollowed := true, recurses := true, apart := false, narrowed := true }
def FnExactDiskOpOkUptoSaid : Prop := fnExactDiskOpOkUptoRow.holds Try.pinned (OpenSpec.upto fnExactDiskOpOkSpec)

/-- 'laws.FnExactDiskSet', WHERE WHAT IT READS IS OF BULK AT MOST 1048576: true; the input reads as it did. -/
def fnExactDiskSetUptoRow : OpenClaim := { program := "ytmdohcmlfjijpaa", sum := "3156de9a07cb96b7cde45132fd9a2d5468c9d2e6bc6ec449b115d5bb5337f550", func := "loop.example/g00661/laws.FnExactDiskSet", spec := "fnExactDiskSet", unfollowed := true, recurses := true, apart := false, narrowed := true }
def FnExactDiskSetUptoSaid : Prop := fnExactDiskSetUptoRow.holds Try.pinned (OpenSpec.upto fnExactDiskSetSpec)

end Rows
end Go.Proofs.Ytmdohcmlfjijpaa
