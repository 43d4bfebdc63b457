/-
  No cell of these rows narrows 'for every input' (looked for: loops, veiled, ifaces, maps, wideKeys, modest, calm, conditions, laid).
  DERIVED. THE GIVEN ROWS OF THIS SEAT. 8 by the template 'for every input the law returns true; each argument reads behind the call as it read before'; 0 by the template 'total and deterministic' (their statements: YtbifbeahakchjaaTotals.lean).
  GIVEN WITH THE SEED: the statements are not yours to turn. If you find one false, say at which input.
  Laid BY PROGRAM, IN A SANDBOX (cutbox-rows.mjs): the forced cells as the released guide's own fill.sh prints them over the translation cb106af130b49074… (all of the seat's roots in one cut). By AI agents, Wed Nov 11 2026. No macro, syntax, notation, axiom, sorry.
-/
import Derived.Test.YtbifbeahakchjaaChecked
import GoSem.Claim
import GoSem.ClaimJoined
import GoSem.ClaimMapViews
import Derived.JoinedTies
import Derived.KernelRfl
namespace Go.Proofs.Ytbifbeahakchjaa
/- THE CELL 'sum', in the pinned program and in every row, IS THE sha256 OF THE DUMP (.gsa) THAT YtbifbeahakchjaaProg.lean LOADS. Nothing in Lean hashes anything: it is a label: what it is worth is what the hold of that sum in a sandbox is worth. -/
noncomputable def Try.pinned : Pinned := { name := "ytbifbeahakchjaa", sum := "cb106af130b49074ecbf9229b3d141b3fe46ff038942d096d038a0ef0348e2e6", checked := Try.checked }
namespace Rows
def none {H : Type} : Left H := { results := [], args := [] }

/-- 'laws.FnExactCellsBytes': WHATEVER THE INPUT: true; the input reads as it did. -/
def fnExactCellsBytesSpec : ChangeSpec := { name := "fnExactCellsBytes", fn := fun _ => fun
  | [d] => { results := [.lit (.bool true)], args := [d] }
  | _ => none }
def fnExactCellsBytesRow : OpenClaim := { program := "ytbifbeahakchjaa", sum := "cb106af130b49074ecbf9229b3d141b3fe46ff038942d096d038a0ef0348e2e6", func := "loop.example/g00661/laws.FnExactCellsBytes", spec := "fnExactCellsBytes", apart := false }
def FnExactCellsBytesSaid : Prop := fnExactCellsBytesRow.holds Try.pinned (OpenSpec.ofChange fnExactCellsBytesSpec)

/-- ITS FALSE NEIGHBOUR: 'it returns false'. Refute it at one input. -/
def fnExactCellsBytesWrong : ChangeSpec := { name := "fnExactCellsBytes", fn := fun _ => fun
  | [d] => { results := [.lit (.bool false)], args := [d] }
  | _ => none }
def FnExactCellsBytesWrongFalsely : Prop := fnExactCellsBytesRow.holds Try.pinned (OpenSpec.ofChange fnExactCellsBytesWrong)

/-- 'laws.FnExactCellsRead': WHATEVER THE INPUT: true; the input reads as it did. -/
def fnExactCellsReadSpec : ChangeSpec := { name := "fnExactCellsRead", fn := fun _ => fun
  | [d1, d2, d3] => { results := [.lit (.bool true)], args := [d1, d2, d3] }
  | _ => none }
def fnExactCellsReadRow : OpenClaim := { program := "ytbifbeahakchjaa", sum := "cb106af130b49074ecbf9229b3d141b3fe46ff038942d096d038a0ef0348e2e6", func := "loop.example/g00661/laws.FnExactCellsRead", spec := "fnExactCellsRead", apart := false }
def FnExactCellsReadSaid : Prop := fnExactCellsReadRow.holds Try.pinned (OpenSpec.ofChange fnExactCellsReadSpec)

/-- ITS FALSE NEIGHBOUR: 'it returns false'. Refute it at one input. -/
def fnExactCellsReadWrong : ChangeSpec := { name := "fnExactCellsRead", fn := fun _ => fun
  | [d1, d2, d3] => { results := [.lit (.bool false)], args := [d1, d2, d3] }
  | _ => none }
def FnExactCellsReadWrongFalsely : Prop := fnExactCellsReadRow.holds Try.pinned (OpenSpec.ofChange fnExactCellsReadWrong)

/-- 'laws.FnExactScrSize': WHATEVER THE INPUT: true; the input reads as it did. -/
def fnExactScrSizeSpec : ChangeSpec := { name := "fnExactScrSize", fn := fun _ => fun
  | [d1, d2, d3] => { results := [.lit (.bool true)], args := [d1, d2, d3] }
  | _ => none }
def fnExactScrSizeRow : OpenClaim := { program := "ytbifbeahakchjaa", sum := "cb106af130b49074ecbf9229b3d141b3fe46ff038942d096d038a0ef0348e2e6", func := "loop.example/g00661/laws.FnExactScrSize", spec := "fnExactScrSize", apart := false }
def FnExactScrSizeSaid : Prop := fnExactScrSizeRow.holds Try.pinned (OpenSpec.ofChange fnExactScrSizeSpec)

/-- ITS FALSE NEIGHBOUR: 'it returns false'. Refute it at one input. -/
def fnExactScrSizeWrong : ChangeSpec := { name := "fnExactScrSize", fn := fun _ => fun
  | [d1, d2, d3] => { results := [.lit (.bool false)], args := [d1, d2, d3] }
  | _ => none }
def FnExactScrSizeWrongFalsely : Prop := fnExactScrSizeRow.holds Try.pinned (OpenSpec.ofChange fnExactScrSizeWrong)

/-- 'laws.FnExactScrRune': WHATEVER THE INPUT: true; the input reads as it did. -/
def fnExactScrRuneSpec : ChangeSpec := { name := "fnExactScrRune", fn := fun _ => fun
  | [d1, d2] => { results := [.lit (.bool true)], args := [d1, d2] }
  | _ => none }
def fnExactScrRuneRow : OpenClaim := { program := "ytbifbeahakchjaa", sum := "cb106af130b49074ecbf9229b3d141b3fe46ff038942d096d038a0ef0348e2e6", func := "loop.example/g00661/laws.FnExactScrRune", spec := "fnExactScrRune", unfollowed := true, recurses := true, apart := false }
def FnExactScrRuneSaid : Prop := fnExactScrRuneRow.holds Try.pinned (OpenSpec.ofChange fnExactScrRuneSpec)

/-- ITS FALSE NEIGHBOUR: 'it returns false'. Refute it at one input. -/
def fnExactScrRuneWrong : ChangeSpec := { name := "fnExactScrRune", fn := fun _ => fun
  | [d1, d2] => { results := [.lit (.bool false)], args := [d1, d2] }
  | _ => none }
def FnExactScrRuneWrongFalsely : Prop := fnExactScrRuneRow.holds Try.pinned (OpenSpec.ofChange fnExactScrRuneWrong)

/-- 'laws.FnExactScrDown': WHATEVER THE INPUT: true; the input reads as it did. -/
def fnExactScrDownSpec : ChangeSpec := { name := "fnExactScrDown", fn := fun _ => fun
  | [d] => { results := [.lit (.bool true)], args := [d] }
  | _ => none }
def fnExactScrDownRow : OpenClaim := { program := "ytbifbeahakchjaa", sum := "cb106af130b49074ecbf9229b3d141b3fe46ff038942d096d038a0ef0348e2e6", func := "loop.example/g00661/laws.FnExactScrDown", spec := "fnExactScrDown", unfollowed := true, recurses := true, apart := false }
def FnExactScrDownSaid : Prop := fnExactScrDownRow.holds Try.pinned (OpenSpec.ofChange fnExactScrDownSpec)

/-- ITS FALSE NEIGHBOUR: 'it returns false'. Refute it at one input. -/
def fnExactScrDownWrong : ChangeSpec := { name := "fnExactScrDown", fn := fun _ => fun
  | [d] => { results := [.lit (.bool false)], args := [d] }
  | _ => none }
def FnExactScrDownWrongFalsely : Prop := fnExactScrDownRow.holds Try.pinned (OpenSpec.ofChange fnExactScrDownWrong)

/-- 'laws.FnExactScrUp': WHATEVER THE INPUT: true; the input reads as it did. -/
def fnExactScrUpSpec : ChangeSpec := { name := "fnExactScrUp", fn := fun _ => fun
  | [d] => { results := [.lit (.bool true)], args := [d] }
  | _ => none }
def fnExactScrUpRow : OpenClaim := { program := "ytbifbeahakchjaa", sum := "cb106af130b49074ecbf9229b3d141b3fe46ff038942d096d038a0ef0348e2e6", func := "loop.example/g00661/laws.FnExactScrUp", spec := "fnExactScrUp", unfollowed := true, recurses := true, apart := false }
def FnExactScrUpSaid : Prop := fnExactScrUpRow.holds Try.pinned (OpenSpec.ofChange fnExactScrUpSpec)

/-- ITS FALSE NEIGHBOUR: 'it returns false'. Refute it at one input. -/
def fnExactScrUpWrong : ChangeSpec := { name := "fnExactScrUp", fn := fun _ => fun
  | [d] => { results := [.lit (.bool false)], args := [d] }
  | _ => none }
def FnExactScrUpWrongFalsely : Prop := fnExactScrUpRow.holds Try.pinned (OpenSpec.ofChange fnExactScrUpWrong)

/-- 'laws.FnExactScrCtl': WHATEVER THE INPUT: true; the input reads as it did. -/
def fnExactScrCtlSpec : ChangeSpec := { name := "fnExactScrCtl", fn := fun _ => fun
  | [d1, d2] => { results := [.lit (.bool true)], args := [d1, d2] }
  | _ => none }
def fnExactScrCtlRow : OpenClaim := { program := "ytbifbeahakchjaa", sum := "cb106af130b49074ecbf9229b3d141b3fe46ff038942d096d038a0ef0348e2e6", func := "loop.example/g00661/laws.FnExactScrCtl", spec := "fnExactScrCtl", unfollowed := true, recurses := true, apart := false }
def FnExactScrCtlSaid : Prop := fnExactScrCtlRow.holds Try.pinned (OpenSpec.ofChange fnExactScrCtlSpec)

/-- ITS FALSE NEIGHBOUR: 'it returns false'. Refute it at one input. -/
def fnExactScrCtlWrong : ChangeSpec := { name := "fnExactScrCtl", fn := fun _ => fun
  | [d1, d2] => { results := [.lit (.bool false)], args := [d1, d2] }
  | _ => none }
def FnExactScrCtlWrongFalsely : Prop := fnExactScrCtlRow.holds Try.pinned (OpenSpec.ofChange fnExactScrCtlWrong)

/-- 'laws.FnSize': WHATEVER THE INPUT: true; the input reads as it did. -/
def fnSizeSpec : ChangeSpec := { name := "fnSize", fn := fun _ => fun
  | [d] => { results := [.lit (.bool true)], args := [d] }
  | _ => none }
def fnSizeRow : OpenClaim := { program := "ytbifbeahakchjaa", sum := "cb106af130b49074ecbf9229b3d141b3fe46ff038942d096d038a0ef0348e2e6", func := "loop.example/g00661/laws.FnSize", spec := "fnSize", apart := false }
def FnSizeSaid : Prop := fnSizeRow.holds Try.pinned (OpenSpec.ofChange fnSizeSpec)

/-- ITS FALSE NEIGHBOUR: 'it returns false'. Refute it at one input. -/
def fnSizeWrong : ChangeSpec := { name := "fnSize", fn := fun _ => fun
  | [d] => { results := [.lit (.bool false)], args := [d] }
  | _ => none }
def FnSizeWrongFalsely : Prop := fnSizeRow.holds Try.pinned (OpenSpec.ofChange fnSizeWrong)

/- THE SECOND FORM. 'bulk': how many values and letters a reading holds, each counted each time it is reached (what is shared counts as often as it is met; a slice's spare places count too). A statement '..UptoSaid' is the law's where the arguments, and the package variables that the reading takes, are together of bulk at most 1048576: NARROWER than '..Said'. Prove '..Said' where nothing that the law and all that it calls make is longer than what came in: it says more and counts as full. Else prove '..UptoSaid'. A law counts once. -/
mutual
def uptoBulk {H : Type} : DataW H → Nat
  | .lit (.string bytes) => bytes.length + 1
  | .lit _ => 1
  | .nil => 1
  | .ptr d => uptoBulk d + 1
  | .slice elems spare => uptoBulkAll elems + uptoBulkAll spare + 1
  | .agg parts => uptoBulkAll parts + 1
  | .iface _ d => uptoBulk d + 1
  | .map entries => uptoBulkEntries entries + 1
  | .held _ => 1
def uptoBulkAll {H : Type} : List (DataW H) → Nat
  | [] => 0
  | d :: r => uptoBulk d + uptoBulkAll r
def uptoBulkEntries {H : Type} : List (Lit × DataW H) → Nat
  | [] => 0
  | x :: r => uptoBulkEntry x + uptoBulkEntries r
def uptoBulkEntry {H : Type} : Lit × DataW H → Nat
  | (.string bytes, d) => bytes.length + uptoBulk d + 1
  | (_, d) => uptoBulk d + 1
 end
def uptoSmall : (H : Type) → List (DataW H) → Bool := fun _ ds => decide (uptoBulkAll ds ≤ 1048576)
def OpenSpec.upto (s : _root_.Go.ChangeSpec) : _root_.Go.OpenSpec := { _root_.Go.OpenSpec.ofChange s with cond := some uptoSmall }

/-- 'laws.FnExactCellsBytes', WHERE WHAT IT READS IS OF BULK AT MOST 1048576: true; the input reads as it did. -/
def fnExactCellsBytesUptoRow : OpenClaim := { program := "ytbifbeahakchjaa", sum := "cb106af130b49074ecbf9229b3d141b3fe46ff038942d096d038a0ef0348e2e6", func := "loop.example/g00661/laws.FnExactCellsBytes", spec := "fnExactCellsBytes", apart := false, narrowed := true }
def FnExactCellsBytesUptoSaid : Prop := fnExactCellsBytesUptoRow.holds Try.pinned (OpenSpec.upto fnExactCellsBytesSpec)

/-- 'laws.FnExactCellsRead', WHERE WHAT IT READS IS OF BULK AT MOST 1048576: true; the input reads as it did. -/
def fnExactCellsReadUptoRow : OpenClaim := { program := "ytbifbeahakchjaa", sum := "cb106af130b49074ecbf9229b3d141b3fe46ff038942d096d038a0ef0348e2e6", func := "loop.example/g00661/laws.FnExactCellsRead", spec := "fnExactCellsRead", apart := false, narrowed := true }
def FnExactCellsReadUptoSaid : Prop := fnExactCellsReadUptoRow.holds Try.pinned (OpenSpec.upto fnExactCellsReadSpec)

/-- 'laws.FnExactScrSize', WHERE WHAT IT READS IS OF BULK AT MOST 1048576: true; the input reads as it did. -/
def fnExactScrSizeUptoRow : OpenClaim := { program := "ytbifbeahakchjaa", sum := "cb106af130b49074ecbf9229b3d141b3fe46ff038942d096d038a0ef0348e2e6", func := "loop.example/g00661/laws.FnExactScrSize", spec := "fnExactScrSize", apart := false, narrowed := true }
def FnExactScrSizeUptoSaid : Prop := fnExactScrSizeUptoRow.holds Try.pinned (OpenSpec.upto fnExactScrSizeSpec)

/-- 'laws.FnExactScrRune', WHERE WHAT IT READS IS OF BULK AT MOST 1048576: true; the input reads as it did. -/
def fnExactScrRuneUptoRow : OpenClaim := { program := "ytbifbeahakchjaa", sum := "cb106af130b49074ecbf9229b3d141b3fe46ff038942d096d038a0ef0348e2e6", func := "loop.example/g00661/laws.FnExactScrRune", spec := "fnExactScrRune", unfollowed := true, recurses := true, apart := false, narrowed := true }
def FnExactScrRuneUptoSaid : Prop := fnExactScrRuneUptoRow.holds Try.pinned (OpenSpec.upto fnExactScrRuneSpec)

/-- 'laws.FnExactScrDown', WHERE WHAT IT READS IS OF BULK AT MOST 1048576: true; the input reads as it did. -/
def fnExactScrDownUptoRow : OpenClaim := { program := "ytbifbeahakchjaa", sum := "cb106af130b49074ecbf9229b3d141b3fe46ff038942d096d038a0ef0348e2e6", func := "loop.example/g00661/laws.FnExactScrDown", spec := "fnExactScrDown", unfollowed := true, recurses := true, apart := false, narrowed := true }
def FnExactScrDownUptoSaid : Prop := fnExactScrDownUptoRow.holds Try.pinned (OpenSpec.upto fnExactScrDownSpec)

/-- 'laws.FnExactScrUp', WHERE WHAT IT READS IS OF BULK AT MOST 1048576: true; the input reads as it did. -/
def fnExactScrUpUptoRow : OpenClaim := { program := "ytbifbeahakchjaa", sum := "cb106af130b49074ecbf9229b3d141b3fe46ff038942d096d038a0ef0348e2e6", func := "loop.example/g00661/laws.FnExactScrUp", spec := "fnExactScrUp", unfollowed := true, recurses := true, apart := false, narrowed := true }
def FnExactScrUpUptoSaid : Prop := fnExactScrUpUptoRow.holds Try.pinned (OpenSpec.upto fnExactScrUpSpec)

/-- 'laws.FnExactScrCtl', WHERE WHAT IT READS IS OF BULK AT MOST 1048576: true; the input reads as it did. -/
def fnExactScrCtlUptoRow : OpenClaim := { program := "ytbifbeahakchjaa", sum := "cb106af130b49074ecbf9229b3d141b3fe46ff038942d096d038a0ef0348e2e6", func := "loop.example/g00661/laws.FnExactScrCtl", spec := "fnExactScrCtl", unfollowed := true, recurses := true, apart := false, narrowed := true }
def FnExactScrCtlUptoSaid : Prop := fnExactScrCtlUptoRow.holds Try.pinned (OpenSpec.upto fnExactScrCtlSpec)

/-- 'laws.FnSize', WHERE WHAT IT READS IS OF BULK AT MOST 1048576: true; the input reads as it did. -/
def fnSizeUptoRow : OpenClaim := { program := "ytbifbeahakchjaa", sum := "cb106af130b49074ecbf9229b3d141b3fe46ff038942d096d038a0ef0348e2e6", func := "loop.example/g00661/laws.FnSize", spec := "fnSize", apart := false, narrowed := true }
def FnSizeUptoSaid : Prop := fnSizeUptoRow.holds Try.pinned (OpenSpec.upto fnSizeSpec)

end Rows
end Go.Proofs.Ytbifbeahakchjaa
