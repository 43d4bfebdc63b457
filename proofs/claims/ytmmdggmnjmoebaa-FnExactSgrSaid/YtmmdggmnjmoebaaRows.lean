/-
  No cell of these rows narrows 'for every input' (looked for: loops, veiled, ifaces, maps, wideKeys, modest, calm, conditions, laid).
  DERIVED. THE GIVEN ROWS OF THIS SEAT. 4 by the template 'for every input the law returns true; each argument reads behind the call as it read before'; 0 by the template 'total and deterministic' (their statements: YtmmdggmnjmoebaaTotals.lean).
  GIVEN WITH THE SEED: the statements are not yours to turn. If you find one false, say at which input.
  Laid BY PROGRAM, IN A SANDBOX (cutbox-rows.mjs): the forced cells as the released guide's own fill.sh prints them over the translation 961b920342fbb959… (all of the seat's roots in one cut). By AI agents, Wed Nov 11 2026. No macro, syntax, notation, axiom, sorry.
-/
import Derived.Test.YtmmdggmnjmoebaaChecked
import GoSem.Claim
import GoSem.ClaimJoined
import GoSem.ClaimMapViews
import Derived.JoinedTies
import Derived.KernelRfl
namespace Go.Proofs.Ytmmdggmnjmoebaa
/- THE CELL 'sum', in the pinned program and in every row, IS THE sha256 OF THE DUMP (.gsa) THAT YtmmdggmnjmoebaaProg.lean LOADS. Nothing in Lean hashes anything: it is a label: what it is worth is what the hold of that sum in a sandbox is worth. -/
noncomputable def Try.pinned : Pinned := { name := "ytmmdggmnjmoebaa", sum := "961b920342fbb95988a8c7cdc937aa2ae2f5d7aeb9af5d61a106fb02a8427d26", checked := Try.checked }
namespace Rows
def none {H : Type} : Left H := { results := [], args := [] }

/-- 'laws.FnExactShows': WHATEVER THE INPUT: true; the input reads as it did. -/
def fnExactShowsSpec : ChangeSpec := { name := "fnExactShows", fn := fun _ => fun
  | [d] => { results := [.lit (.bool true)], args := [d] }
  | _ => none }
def fnExactShowsRow : OpenClaim := { program := "ytmmdggmnjmoebaa", sum := "961b920342fbb95988a8c7cdc937aa2ae2f5d7aeb9af5d61a106fb02a8427d26", func := "loop.example/g00661/laws.FnExactShows", spec := "fnExactShows", apart := false }
def FnExactShowsSaid : Prop := fnExactShowsRow.holds Try.pinned (OpenSpec.ofChange fnExactShowsSpec)

/-- ITS FALSE NEIGHBOUR: 'it returns false'. Refute it at one input. -/
def fnExactShowsWrong : ChangeSpec := { name := "fnExactShows", fn := fun _ => fun
  | [d] => { results := [.lit (.bool false)], args := [d] }
  | _ => none }
def FnExactShowsWrongFalsely : Prop := fnExactShowsRow.holds Try.pinned (OpenSpec.ofChange fnExactShowsWrong)

/-- 'laws.FnExactRuneBytes': WHATEVER THE INPUT: true; the input reads as it did. -/
def fnExactRuneBytesSpec : ChangeSpec := { name := "fnExactRuneBytes", fn := fun _ => fun
  | [d] => { results := [.lit (.bool true)], args := [d] }
  | _ => none }
def fnExactRuneBytesRow : OpenClaim := { program := "ytmmdggmnjmoebaa", sum := "961b920342fbb95988a8c7cdc937aa2ae2f5d7aeb9af5d61a106fb02a8427d26", func := "loop.example/g00661/laws.FnExactRuneBytes", spec := "fnExactRuneBytes", apart := false }
def FnExactRuneBytesSaid : Prop := fnExactRuneBytesRow.holds Try.pinned (OpenSpec.ofChange fnExactRuneBytesSpec)

/-- ITS FALSE NEIGHBOUR: 'it returns false'. Refute it at one input. -/
def fnExactRuneBytesWrong : ChangeSpec := { name := "fnExactRuneBytes", fn := fun _ => fun
  | [d] => { results := [.lit (.bool false)], args := [d] }
  | _ => none }
def FnExactRuneBytesWrongFalsely : Prop := fnExactRuneBytesRow.holds Try.pinned (OpenSpec.ofChange fnExactRuneBytesWrong)

/-- 'laws.FnExactAttrOk': WHATEVER THE INPUT: true; the input reads as it did. -/
def fnExactAttrOkSpec : ChangeSpec := { name := "fnExactAttrOk", fn := fun _ => fun
  | [d] => { results := [.lit (.bool true)], args := [d] }
  | _ => none }
def fnExactAttrOkRow : OpenClaim := { program := "ytmmdggmnjmoebaa", sum := "961b920342fbb95988a8c7cdc937aa2ae2f5d7aeb9af5d61a106fb02a8427d26", func := "loop.example/g00661/laws.FnExactAttrOk", spec := "fnExactAttrOk", apart := false }
def FnExactAttrOkSaid : Prop := fnExactAttrOkRow.holds Try.pinned (OpenSpec.ofChange fnExactAttrOkSpec)

/-- ITS FALSE NEIGHBOUR: 'it returns false'. Refute it at one input. -/
def fnExactAttrOkWrong : ChangeSpec := { name := "fnExactAttrOk", fn := fun _ => fun
  | [d] => { results := [.lit (.bool false)], args := [d] }
  | _ => none }
def FnExactAttrOkWrongFalsely : Prop := fnExactAttrOkRow.holds Try.pinned (OpenSpec.ofChange fnExactAttrOkWrong)

/-- 'laws.FnExactSgr': WHATEVER THE INPUT: true; the input reads as it did. -/
def fnExactSgrSpec : ChangeSpec := { name := "fnExactSgr", fn := fun _ => fun
  | [d1, d2] => { results := [.lit (.bool true)], args := [d1, d2] }
  | _ => none }
def fnExactSgrRow : OpenClaim := { program := "ytmmdggmnjmoebaa", sum := "961b920342fbb95988a8c7cdc937aa2ae2f5d7aeb9af5d61a106fb02a8427d26", func := "loop.example/g00661/laws.FnExactSgr", spec := "fnExactSgr", apart := false }
def FnExactSgrSaid : Prop := fnExactSgrRow.holds Try.pinned (OpenSpec.ofChange fnExactSgrSpec)

/-- ITS FALSE NEIGHBOUR: 'it returns false'. Refute it at one input. -/
def fnExactSgrWrong : ChangeSpec := { name := "fnExactSgr", fn := fun _ => fun
  | [d1, d2] => { results := [.lit (.bool false)], args := [d1, d2] }
  | _ => none }
def FnExactSgrWrongFalsely : Prop := fnExactSgrRow.holds Try.pinned (OpenSpec.ofChange fnExactSgrWrong)

/- THE SECOND FORM. 'bulk': how many values and letters a reading holds, each counted each time it is reached (what is shared counts as often as it is met; a slice's spare places count too). A statement '..UptoSaid' is the law's where the arguments, and the package variables that the reading takes, are together of bulk at most 1048576: NARROWER than '..Said'. Prove '..Said' where nothing that the law and all that it calls make is longer than what came in: it says more and counts as full. Else prove '..UptoSaid'. A law counts once. -/
mutual
def uptoBulk {H : Type} : DataW H → Nat
  | .lit (.string bytes) => bytes.length + 1
  | .lit _ => 1
  | .nil => 1
  | .ptr d => uptoBulk d + 1
  | .slice elems spare => uptoBulkAll elems + uptoBulkAll spare + 1
  | .agg parts => uptoBulkAll parts + 1
  | .iface _ d => uptoBulk d + 1
  | .map entries => uptoBulkEntries entries + 1
  | .held _ => 1
def uptoBulkAll {H : Type} : List (DataW H) → Nat
  | [] => 0
  | d :: r => uptoBulk d + uptoBulkAll r
def uptoBulkEntries {H : Type} : List (Lit × DataW H) → Nat
  | [] => 0
  | x :: r => uptoBulkEntry x + uptoBulkEntries r
def uptoBulkEntry {H : Type} : Lit × DataW H → Nat
  | (.string bytes, d) => bytes.length + uptoBulk d + 1
  | (_, d) => uptoBulk d + 1
 end
def uptoSmall : (H : Type) → List (DataW H) → Bool := fun _ ds => decide (uptoBulkAll ds ≤ 1048576)
def OpenSpec.upto (s : _root_.Go.ChangeSpec) : _root_.Go.OpenSpec := { _root_.Go.OpenSpec.ofChange s with cond := some uptoSmall }

/-- 'laws.FnExactShows', WHERE WHAT IT READS IS OF BULK AT MOST 1048576: true; the input reads as it did. -/
def fnExactShowsUptoRow : OpenClaim := { program := "ytmmdggmnjmoebaa", sum := "961b920342fbb95988a8c7cdc937aa2ae2f5d7aeb9af5d61a106fb02a8427d26", func := "loop.example/g00661/laws.FnExactShows", spec := "fnExactShows", apart := false, narrowed := true }
def FnExactShowsUptoSaid : Prop := fnExactShowsUptoRow.holds Try.pinned (OpenSpec.upto fnExactShowsSpec)

/-- 'laws.FnExactRuneBytes', WHERE WHAT IT READS IS OF BULK AT MOST 1048576: true; the input reads as it did. -/
def fnExactRuneBytesUptoRow : OpenClaim := { program := "ytmmdggmnjmoebaa", sum := "961b920342fbb95988a8c7cdc937aa2ae2f5d7aeb9af5d61a106fb02a8427d26", func := "loop.example/g00661/laws.FnExactRuneBytes", spec := "fnExactRuneBytes", apart := false, narrowed := true }
def FnExactRuneBytesUptoSaid : Prop := fnExactRuneBytesUptoRow.holds Try.pinned (OpenSpec.upto fnExactRuneBytesSpec)

/-- 'laws.FnExactAttrOk', WHERE WHAT IT READS IS OF BULK AT MOST 1048576: true; the input reads as it did. -/
def fnExactAttrOkUptoRow : OpenClaim := { program := "ytmmdggmnjmoebaa", sum := "961b920342fbb95988a8c7cdc937aa2ae2f5d7aeb9af5d61a106fb02a8427d26", func := "loop.example/g00661/laws.FnExactAttrOk", spec := "fnExactAttrOk", apart := false, narrowed := true }
def FnExactAttrOkUptoSaid : Prop := fnExactAttrOkUptoRow.holds Try.pinned (OpenSpec.upto fnExactAttrOkSpec)

/-- 'laws.FnExactSgr', WHERE WHAT IT READS IS OF BULK AT MOST 1048576: true; the input reads as it did. -/
def fnExactSgrUptoRow : OpenClaim := { program := "ytmmdggmnjmoebaa", sum := "961b920342fbb95988a8c7cdc937aa2ae2f5d7aeb9af5d61a106fb02a8427d26", func := "loop.example/g00661/laws.FnExactSgr", spec := "fnExactSgr", apart := false, narrowed := true }
def FnExactSgrUptoSaid : Prop := fnExactSgrUptoRow.holds Try.pinned (OpenSpec.upto fnExactSgrSpec)

end Rows
end Go.Proofs.Ytmmdggmnjmoebaa
