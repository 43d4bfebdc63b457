/-
  No cell of these rows narrows 'for every input' (looked for: loops, veiled, ifaces, maps, wideKeys, modest, calm, conditions, laid).
  DERIVED. THE GIVEN ROWS OF THIS SEAT. 6 by the template 'for every input the law returns true; each argument reads behind the call as it read before'; 0 by the template 'total and deterministic' (their statements: YtmccggjogoaakaaTotals.lean).
  GIVEN WITH THE SEED: the statements are not yours to turn. If you find one false, say at which input.
  Laid BY PROGRAM, IN A SANDBOX (cutbox-rows.mjs): the forced cells as the released guide's own fill.sh prints them over the translation d67c56a84648aa70… (all of the seat's roots in one cut). By AI agents, Wed Nov 11 2026. No macro, syntax, notation, axiom, sorry.
-/
import Derived.Test.YtmccggjogoaakaaChecked
import GoSem.Claim
import GoSem.ClaimJoined
import GoSem.ClaimMapViews
import Derived.JoinedTies
import Derived.KernelRfl
namespace Go.Proofs.Ytmccggjogoaakaa
/- THE CELL 'sum', in the pinned program and in every row, IS THE sha256 OF THE DUMP (.gsa) THAT YtmccggjogoaakaaProg.lean LOADS. Nothing in Lean hashes anything: it is a label: what it is worth is what the hold of that sum in a sandbox is worth. -/
noncomputable def Try.pinned : Pinned := { name := "ytmccggjogoaakaa", sum := "d67c56a84648aa70063a3ff8bad8bcc95b02d4dd52953df441a8de3bc7644023", checked := Try.checked }
namespace Rows
def none {H : Type} : Left H := { results := [], args := [] }

/-- 'laws.FnExactGridRoll': WHATEVER THE INPUT: true; the input reads as it did. -/
def fnExactGridRollSpec : ChangeSpec := { name := "fnExactGridRoll", fn := fun _ => fun
  | [d1, d2, d3, d4] => { results := [.lit (.bool true)], args := [d1, d2, d3, d4] }
  | _ => none }
def fnExactGridRollRow : OpenClaim := { program := "ytmccggjogoaakaa", sum := "d67c56a84648aa70063a3ff8bad8bcc95b02d4dd52953df441a8de3bc7644023", func := "loop.example/g00661/laws.FnExactGridRoll", spec := "fnExactGridRoll", apart := false }
def FnExactGridRollSaid : Prop := fnExactGridRollRow.holds Try.pinned (OpenSpec.ofChange fnExactGridRollSpec)

/-- ITS FALSE NEIGHBOUR: 'it returns false'. Refute it at one input. -/
def fnExactGridRollWrong : ChangeSpec := { name := "fnExactGridRoll", fn := fun _ => fun
  | [d1, d2, d3, d4] => { results := [.lit (.bool false)], args := [d1, d2, d3, d4] }
  | _ => none }
def FnExactGridRollWrongFalsely : Prop := fnExactGridRollRow.holds Try.pinned (OpenSpec.ofChange fnExactGridRollWrong)

/-- 'laws.FnExactScrOk': WHATEVER THE INPUT: true; the input reads as it did. -/
def fnExactScrOkSpec : ChangeSpec := { name := "fnExactScrOk", fn := fun _ => fun
  | [d] => { results := [.lit (.bool true)], args := [d] }
  | _ => none }
def fnExactScrOkRow : OpenClaim := { program := "ytmccggjogoaakaa", sum := "d67c56a84648aa70063a3ff8bad8bcc95b02d4dd52953df441a8de3bc7644023", func := "loop.example/g00661/laws.FnExactScrOk", spec := "fnExactScrOk", apart := false }
def FnExactScrOkSaid : Prop := fnExactScrOkRow.holds Try.pinned (OpenSpec.ofChange fnExactScrOkSpec)

/-- ITS FALSE NEIGHBOUR: 'it returns false'. Refute it at one input. -/
def fnExactScrOkWrong : ChangeSpec := { name := "fnExactScrOk", fn := fun _ => fun
  | [d] => { results := [.lit (.bool false)], args := [d] }
  | _ => none }
def FnExactScrOkWrongFalsely : Prop := fnExactScrOkRow.holds Try.pinned (OpenSpec.ofChange fnExactScrOkWrong)

/-- 'laws.FnExactScrNew': WHATEVER THE INPUT: true; the input reads as it did. -/
def fnExactScrNewSpec : ChangeSpec := { name := "fnExactScrNew", fn := fun _ => fun
  | [d1, d2, d3] => { results := [.lit (.bool true)], args := [d1, d2, d3] }
  | _ => none }
def fnExactScrNewRow : OpenClaim := { program := "ytmccggjogoaakaa", sum := "d67c56a84648aa70063a3ff8bad8bcc95b02d4dd52953df441a8de3bc7644023", func := "loop.example/g00661/laws.FnExactScrNew", spec := "fnExactScrNew", apart := false }
def FnExactScrNewSaid : Prop := fnExactScrNewRow.holds Try.pinned (OpenSpec.ofChange fnExactScrNewSpec)

/-- ITS FALSE NEIGHBOUR: 'it returns false'. Refute it at one input. -/
def fnExactScrNewWrong : ChangeSpec := { name := "fnExactScrNew", fn := fun _ => fun
  | [d1, d2, d3] => { results := [.lit (.bool false)], args := [d1, d2, d3] }
  | _ => none }
def FnExactScrNewWrongFalsely : Prop := fnExactScrNewRow.holds Try.pinned (OpenSpec.ofChange fnExactScrNewWrong)

/-- 'laws.FnExactShown': WHATEVER THE INPUT: true; the input reads as it did. -/
def fnExactShownSpec : ChangeSpec := { name := "fnExactShown", fn := fun _ => fun
  | [d] => { results := [.lit (.bool true)], args := [d] }
  | _ => none }
def fnExactShownRow : OpenClaim := { program := "ytmccggjogoaakaa", sum := "d67c56a84648aa70063a3ff8bad8bcc95b02d4dd52953df441a8de3bc7644023", func := "loop.example/g00661/laws.FnExactShown", spec := "fnExactShown", apart := false }
def FnExactShownSaid : Prop := fnExactShownRow.holds Try.pinned (OpenSpec.ofChange fnExactShownSpec)

/-- ITS FALSE NEIGHBOUR: 'it returns false'. Refute it at one input. -/
def fnExactShownWrong : ChangeSpec := { name := "fnExactShown", fn := fun _ => fun
  | [d] => { results := [.lit (.bool false)], args := [d] }
  | _ => none }
def FnExactShownWrongFalsely : Prop := fnExactShownRow.holds Try.pinned (OpenSpec.ofChange fnExactShownWrong)

/-- 'laws.FnExactScrUp': WHATEVER THE INPUT: true; the input reads as it did. -/
def fnExactScrUpSpec : ChangeSpec := { name := "fnExactScrUp", fn := fun _ => fun
  | [d] => { results := [.lit (.bool true)], args := [d] }
  | _ => none }
def fnExactScrUpRow : OpenClaim := { program := "ytmccggjogoaakaa", sum := "d67c56a84648aa70063a3ff8bad8bcc95b02d4dd52953df441a8de3bc7644023", func := "loop.example/g00661/laws.FnExactScrUp", spec := "fnExactScrUp", unfollowed := true, recurses := true, apart := false }
def FnExactScrUpSaid : Prop := fnExactScrUpRow.holds Try.pinned (OpenSpec.ofChange fnExactScrUpSpec)

/-- ITS FALSE NEIGHBOUR: 'it returns false'. Refute it at one input. -/
def fnExactScrUpWrong : ChangeSpec := { name := "fnExactScrUp", fn := fun _ => fun
  | [d] => { results := [.lit (.bool false)], args := [d] }
  | _ => none }
def FnExactScrUpWrongFalsely : Prop := fnExactScrUpRow.holds Try.pinned (OpenSpec.ofChange fnExactScrUpWrong)

/-- 'laws.FnExactScrGo': WHATEVER THE INPUT: true; the input reads as it did. -/
def fnExactScrGoSpec : ChangeSpec := { name := "fnExactScrGo", fn := fun _ => fun
  | [d1, d2, d3] => { results := [.lit (.bool true)], args := [d1, d2, d3] }
  | _ => none }
def fnExactScrGoRow : OpenClaim := { program := "ytmccggjogoaakaa", sum := "d67c56a84648aa70063a3ff8bad8bcc95b02d4dd52953df441a8de3bc7644023", func := "loop.example/g00661/laws.FnExactScrGo", spec := "fnExactScrGo", unfollowed := true, recurses := true, apart := false }
def FnExactScrGoSaid : Prop := fnExactScrGoRow.holds Try.pinned (OpenSpec.ofChange fnExactScrGoSpec)

/-- ITS FALSE NEIGHBOUR: 'it returns false'. Refute it at one input. -/
def fnExactScrGoWrong : ChangeSpec := { name := "fnExactScrGo", fn := fun _ => fun
  | [d1, d2, d3] => { results := [.lit (.bool false)], args := [d1, d2, d3] }
  | _ => none }
def FnExactScrGoWrongFalsely : Prop := fnExactScrGoRow.holds Try.pinned (OpenSpec.ofChange fnExactScrGoWrong)

/- THE SECOND FORM. 'bulk': how many values and letters a reading holds, each counted each time it is reached (what is shared counts as often as it is met; a slice's spare places count too). A statement '..UptoSaid' is the law's where the arguments, and the package variables that the reading takes, are together of bulk at most 1048576: NARROWER than '..Said'. Prove '..Said' where nothing that the law and all that it calls make is longer than what came in: it says more and counts as full. Else prove '..UptoSaid'. A law counts once. -/
mutual
def uptoBulk {H : Type} : DataW H → Nat
  | .lit (.string bytes) => bytes.length + 1
  | .lit _ => 1
  | .nil => 1
  | .ptr d => uptoBulk d + 1
  | .slice elems spare => uptoBulkAll elems + uptoBulkAll spare + 1
  | .agg parts => uptoBulkAll parts + 1
  | .iface _ d => uptoBulk d + 1
  | .map entries => uptoBulkEntries entries + 1
  | .held _ => 1
def uptoBulkAll {H : Type} : List (DataW H) → Nat
  | [] => 0
  | d :: r => uptoBulk d + uptoBulkAll r
def uptoBulkEntries {H : Type} : List (Lit × DataW H) → Nat
  | [] => 0
  | x :: r => uptoBulkEntry x + uptoBulkEntries r
def uptoBulkEntry {H : Type} : Lit × DataW H → Nat
  | (.string bytes, d) => bytes.length + uptoBulk d + 1
  | (_, d) => uptoBulk d + 1
 end
def uptoSmall : (H : Type) → List (DataW H) → Bool := fun _ ds => decide (uptoBulkAll ds ≤ 1048576)
def OpenSpec.upto (s : _root_.Go.ChangeSpec) : _root_.Go.OpenSpec := { _root_.Go.OpenSpec.ofChange s with cond := some uptoSmall }

/-- 'laws.FnExactGridRoll', WHERE WHAT IT READS IS OF BULK AT MOST 1048576: true; the input reads as it did. -/
def fnExactGridRollUptoRow : OpenClaim := { program := "ytmccggjogoaakaa", sum := "d67c56a84648aa70063a3ff8bad8bcc95b02d4dd52953df441a8de3bc7644023", func := "loop.example/g00661/laws.FnExactGridRoll", spec := "fnExactGridRoll", apart := false, narrowed := true }
def FnExactGridRollUptoSaid : Prop := fnExactGridRollUptoRow.holds Try.pinned (OpenSpec.upto fnExactGridRollSpec)

/-- 'laws.FnExactScrOk', WHERE WHAT IT READS IS OF BULK AT MOST 1048576: true; the input reads as it did. -/
def fnExactScrOkUptoRow : OpenClaim := { program := "ytmccggjogoaakaa", sum := "d67c56a84648aa70063a3ff8bad8bcc95b02d4dd52953df441a8de3bc7644023", func := "loop.example/g00661/laws.FnExactScrOk", spec := "fnExactScrOk", apart := false, narrowed := true }
def FnExactScrOkUptoSaid : Prop := fnExactScrOkUptoRow.holds Try.pinned (OpenSpec.upto fnExactScrOkSpec)

/-- 'laws.FnExactScrNew', WHERE WHAT IT READS IS OF BULK AT MOST 1048576: true; the input reads as it did. -/
def fnExactScrNewUptoRow : OpenClaim := { program := "ytmccggjogoaakaa", sum := "d67c56a84648aa70063a3ff8bad8bcc95b02d4dd52953df441a8de3bc7644023", func := "loop.example/g00661/laws.FnExactScrNew", spec := "fnExactScrNew", apart := false, narrowed := true }
def FnExactScrNewUptoSaid : Prop := fnExactScrNewUptoRow.holds Try.pinned (OpenSpec.upto fnExactScrNewSpec)

/-- 'laws.FnExactShown', WHERE WHAT IT READS IS OF BULK AT MOST 1048576: true; the input reads as it did. -/
def fnExactShownUptoRow : OpenClaim := { program := "ytmccggjogoaakaa", sum := "d67c56a84648aa70063a3ff8bad8bcc95b02d4dd52953df441a8de3bc7644023", func := "loop.example/g00661/laws.FnExactShown", spec := "fnExactShown", apart := false, narrowed := true }
def FnExactShownUptoSaid : Prop := fnExactShownUptoRow.holds Try.pinned (OpenSpec.upto fnExactShownSpec)

/-- 'laws.FnExactScrUp', WHERE WHAT IT READS IS OF BULK AT MOST 1048576: true; the input reads as it did. -/
def fnExactScrUpUptoRow : OpenClaim := { program := "ytmccggjogoaakaa", sum := "d67c56a84648aa70063a3ff8bad8bcc95b02d4dd52953df441a8de3bc7644023", func := "loop.example/g00661/laws.FnExactScrUp", spec := "fnExactScrUp", unfollowed := true, recurses := true, apart := false, narrowed := true }
def FnExactScrUpUptoSaid : Prop := fnExactScrUpUptoRow.holds Try.pinned (OpenSpec.upto fnExactScrUpSpec)

/-- 'laws.FnExactScrGo', WHERE WHAT IT READS IS OF BULK AT MOST 1048576: true; the input reads as it did. -/
def fnExactScrGoUptoRow : OpenClaim := { program := "ytmccggjogoaakaa", sum := "d67c56a84648aa70063a3ff8bad8bcc95b02d4dd52953df441a8de3bc7644023", func := "loop.example/g00661/laws.FnExactScrGo", spec := "fnExactScrGo", unfollowed := true, recurses := true, apart := false, narrowed := true }
def FnExactScrGoUptoSaid : Prop := fnExactScrGoUptoRow.holds Try.pinned (OpenSpec.upto fnExactScrGoSpec)

end Rows
end Go.Proofs.Ytmccggjogoaakaa
