/-
  No cell of these rows narrows 'for every input' (looked for: loops, veiled, ifaces, maps, wideKeys, modest, calm, conditions, laid).
  DERIVED. THE GIVEN ROWS OF THIS SEAT. 14 by the template 'for every input the law returns true; each argument reads behind the call as it read before'; 0 by the template 'total and deterministic' (their statements: YtkinkdgnephcbaaTotals.lean).
  GIVEN WITH THE SEED: the statements are not yours to turn. If you find one false, say at which input.
  Laid BY PROGRAM, IN A SANDBOX (cutbox-rows.mjs): the forced cells as the released guide's own fill.sh prints them over the translation 088a601cd4263a70… (all of the seat's roots in one cut). By AI agents, Wed Nov 11 2026. No macro, syntax, notation, axiom, sorry.
-/
import Derived.Test.YtkinkdgnephcbaaChecked
import GoSem.Claim
import GoSem.ClaimJoined
import GoSem.ClaimMapViews
import Derived.JoinedTies
import Derived.KernelRfl
namespace Go.Proofs.Ytkinkdgnephcbaa
/- THE CELL 'sum', in the pinned program and in every row, IS THE sha256 OF THE DUMP (.gsa) THAT YtkinkdgnephcbaaProg.lean LOADS. Nothing in Lean hashes anything: it is a label: what it is worth is what the hold of that sum in a sandbox is worth. -/
noncomputable def Try.pinned : Pinned := { name := "ytkinkdgnephcbaa", sum := "088a601cd4263a7076626e9c72e062c4e77b944c46f7556da6443eb4dff904cf", checked := Try.checked }
namespace Rows
def none {H : Type} : Left H := { results := [], args := [] }

/-- 'laws.FnTree': WHATEVER THE INPUT: true; the input reads as it did. -/
def fnTreeSpec : ChangeSpec := { name := "fnTree", fn := fun _ => fun
  | [d] => { results := [.lit (.bool true)], args := [d] }
  | _ => none }
def fnTreeRow : OpenClaim := { program := "ytkinkdgnephcbaa", sum := "088a601cd4263a7076626e9c72e062c4e77b944c46f7556da6443eb4dff904cf", func := "loop.example/g00661/laws.FnTree", spec := "fnTree", recurses := true, apart := false }
def FnTreeSaid : Prop := fnTreeRow.holds Try.pinned (OpenSpec.ofChange fnTreeSpec)

/-- ITS FALSE NEIGHBOUR: 'it returns false'. Refute it at one input. -/
def fnTreeWrong : ChangeSpec := { name := "fnTree", fn := fun _ => fun
  | [d] => { results := [.lit (.bool false)], args := [d] }
  | _ => none }
def FnTreeWrongFalsely : Prop := fnTreeRow.holds Try.pinned (OpenSpec.ofChange fnTreeWrong)

/-- 'laws.FnSplit': WHATEVER THE INPUT: true; the input reads as it did. -/
def fnSplitSpec : ChangeSpec := { name := "fnSplit", fn := fun _ => fun
  | [d] => { results := [.lit (.bool true)], args := [d] }
  | _ => none }
def fnSplitRow : OpenClaim := { program := "ytkinkdgnephcbaa", sum := "088a601cd4263a7076626e9c72e062c4e77b944c46f7556da6443eb4dff904cf", func := "loop.example/g00661/laws.FnSplit", spec := "fnSplit", unfollowed := true, recurses := true, apart := false }
def FnSplitSaid : Prop := fnSplitRow.holds Try.pinned (OpenSpec.ofChange fnSplitSpec)

/-- ITS FALSE NEIGHBOUR: 'it returns false'. Refute it at one input. -/
def fnSplitWrong : ChangeSpec := { name := "fnSplit", fn := fun _ => fun
  | [d] => { results := [.lit (.bool false)], args := [d] }
  | _ => none }
def FnSplitWrongFalsely : Prop := fnSplitRow.holds Try.pinned (OpenSpec.ofChange fnSplitWrong)

/-- 'laws.FnAround': WHATEVER THE INPUT: true; the input reads as it did. -/
def fnAroundSpec : ChangeSpec := { name := "fnAround", fn := fun _ => fun
  | [d] => { results := [.lit (.bool true)], args := [d] }
  | _ => none }
def fnAroundRow : OpenClaim := { program := "ytkinkdgnephcbaa", sum := "088a601cd4263a7076626e9c72e062c4e77b944c46f7556da6443eb4dff904cf", func := "loop.example/g00661/laws.FnAround", spec := "fnAround", recurses := true, apart := false }
def FnAroundSaid : Prop := fnAroundRow.holds Try.pinned (OpenSpec.ofChange fnAroundSpec)

/-- ITS FALSE NEIGHBOUR: 'it returns false'. Refute it at one input. -/
def fnAroundWrong : ChangeSpec := { name := "fnAround", fn := fun _ => fun
  | [d] => { results := [.lit (.bool false)], args := [d] }
  | _ => none }
def FnAroundWrongFalsely : Prop := fnAroundRow.holds Try.pinned (OpenSpec.ofChange fnAroundWrong)

/-- 'laws.FnGrow': WHATEVER THE INPUT: true; the input reads as it did. -/
def fnGrowSpec : ChangeSpec := { name := "fnGrow", fn := fun _ => fun
  | [d] => { results := [.lit (.bool true)], args := [d] }
  | _ => none }
def fnGrowRow : OpenClaim := { program := "ytkinkdgnephcbaa", sum := "088a601cd4263a7076626e9c72e062c4e77b944c46f7556da6443eb4dff904cf", func := "loop.example/g00661/laws.FnGrow", spec := "fnGrow", unfollowed := true, recurses := true, apart := false }
def FnGrowSaid : Prop := fnGrowRow.holds Try.pinned (OpenSpec.ofChange fnGrowSpec)

/-- ITS FALSE NEIGHBOUR: 'it returns false'. Refute it at one input. -/
def fnGrowWrong : ChangeSpec := { name := "fnGrow", fn := fun _ => fun
  | [d] => { results := [.lit (.bool false)], args := [d] }
  | _ => none }
def FnGrowWrongFalsely : Prop := fnGrowRow.holds Try.pinned (OpenSpec.ofChange fnGrowWrong)

/-- 'laws.FnExactTermNew': WHATEVER THE INPUT: true; the input reads as it did. -/
def fnExactTermNewSpec : ChangeSpec := { name := "fnExactTermNew", fn := fun _ => fun
  | [d1, d2, d3] => { results := [.lit (.bool true)], args := [d1, d2, d3] }
  | _ => none }
def fnExactTermNewRow : OpenClaim := { program := "ytkinkdgnephcbaa", sum := "088a601cd4263a7076626e9c72e062c4e77b944c46f7556da6443eb4dff904cf", func := "loop.example/g00661/laws.FnExactTermNew", spec := "fnExactTermNew", apart := false }
def FnExactTermNewSaid : Prop := fnExactTermNewRow.holds Try.pinned (OpenSpec.ofChange fnExactTermNewSpec)

/-- ITS FALSE NEIGHBOUR: 'it returns false'. Refute it at one input. -/
def fnExactTermNewWrong : ChangeSpec := { name := "fnExactTermNew", fn := fun _ => fun
  | [d1, d2, d3] => { results := [.lit (.bool false)], args := [d1, d2, d3] }
  | _ => none }
def FnExactTermNewWrongFalsely : Prop := fnExactTermNewRow.holds Try.pinned (OpenSpec.ofChange fnExactTermNewWrong)

/-- 'laws.FnExactCut': WHATEVER THE INPUT: true; the input reads as it did. -/
def fnExactCutSpec : ChangeSpec := { name := "fnExactCut", fn := fun _ => fun
  | [d1, d2] => { results := [.lit (.bool true)], args := [d1, d2] }
  | _ => none }
def fnExactCutRow : OpenClaim := { program := "ytkinkdgnephcbaa", sum := "088a601cd4263a7076626e9c72e062c4e77b944c46f7556da6443eb4dff904cf", func := "loop.example/g00661/laws.FnExactCut", spec := "fnExactCut", unfollowed := true, recurses := true, apart := false }
def FnExactCutSaid : Prop := fnExactCutRow.holds Try.pinned (OpenSpec.ofChange fnExactCutSpec)

/-- ITS FALSE NEIGHBOUR: 'it returns false'. Refute it at one input. -/
def fnExactCutWrong : ChangeSpec := { name := "fnExactCut", fn := fun _ => fun
  | [d1, d2] => { results := [.lit (.bool false)], args := [d1, d2] }
  | _ => none }
def FnExactCutWrongFalsely : Prop := fnExactCutRow.holds Try.pinned (OpenSpec.ofChange fnExactCutWrong)

/-- 'laws.FnExactGrow': WHATEVER THE INPUT: true; the input reads as it did. -/
def fnExactGrowSpec : ChangeSpec := { name := "fnExactGrow", fn := fun _ => fun
  | [d1, d2, d3, d4, d5, d6] => { results := [.lit (.bool true)], args := [d1, d2, d3, d4, d5, d6] }
  | _ => none }
def fnExactGrowRow : OpenClaim := { program := "ytkinkdgnephcbaa", sum := "088a601cd4263a7076626e9c72e062c4e77b944c46f7556da6443eb4dff904cf", func := "loop.example/g00661/laws.FnExactGrow", spec := "fnExactGrow", unfollowed := true, recurses := true, apart := false }
def FnExactGrowSaid : Prop := fnExactGrowRow.holds Try.pinned (OpenSpec.ofChange fnExactGrowSpec)

/-- ITS FALSE NEIGHBOUR: 'it returns false'. Refute it at one input. -/
def fnExactGrowWrong : ChangeSpec := { name := "fnExactGrow", fn := fun _ => fun
  | [d1, d2, d3, d4, d5, d6] => { results := [.lit (.bool false)], args := [d1, d2, d3, d4, d5, d6] }
  | _ => none }
def FnExactGrowWrongFalsely : Prop := fnExactGrowRow.holds Try.pinned (OpenSpec.ofChange fnExactGrowWrong)

/-- 'laws.FnExactBeside': WHATEVER THE INPUT: true; the input reads as it did. -/
def fnExactBesideSpec : ChangeSpec := { name := "fnExactBeside", fn := fun _ => fun
  | [d1, d2, d3, d4, d5] => { results := [.lit (.bool true)], args := [d1, d2, d3, d4, d5] }
  | _ => none }
def fnExactBesideRow : OpenClaim := { program := "ytkinkdgnephcbaa", sum := "088a601cd4263a7076626e9c72e062c4e77b944c46f7556da6443eb4dff904cf", func := "loop.example/g00661/laws.FnExactBeside", spec := "fnExactBeside", recurses := true, apart := false }
def FnExactBesideSaid : Prop := fnExactBesideRow.holds Try.pinned (OpenSpec.ofChange fnExactBesideSpec)

/-- ITS FALSE NEIGHBOUR: 'it returns false'. Refute it at one input. -/
def fnExactBesideWrong : ChangeSpec := { name := "fnExactBeside", fn := fun _ => fun
  | [d1, d2, d3, d4, d5] => { results := [.lit (.bool false)], args := [d1, d2, d3, d4, d5] }
  | _ => none }
def FnExactBesideWrongFalsely : Prop := fnExactBesideRow.holds Try.pinned (OpenSpec.ofChange fnExactBesideWrong)

/-- 'laws.FnExactPaneAt': WHATEVER THE INPUT: true; the input reads as it did. -/
def fnExactPaneAtSpec : ChangeSpec := { name := "fnExactPaneAt", fn := fun _ => fun
  | [d1, d2] => { results := [.lit (.bool true)], args := [d1, d2] }
  | _ => none }
def fnExactPaneAtRow : OpenClaim := { program := "ytkinkdgnephcbaa", sum := "088a601cd4263a7076626e9c72e062c4e77b944c46f7556da6443eb4dff904cf", func := "loop.example/g00661/laws.FnExactPaneAt", spec := "fnExactPaneAt", unfollowed := true, recurses := true, apart := false }
def FnExactPaneAtSaid : Prop := fnExactPaneAtRow.holds Try.pinned (OpenSpec.ofChange fnExactPaneAtSpec)

/-- ITS FALSE NEIGHBOUR: 'it returns false'. Refute it at one input. -/
def fnExactPaneAtWrong : ChangeSpec := { name := "fnExactPaneAt", fn := fun _ => fun
  | [d1, d2] => { results := [.lit (.bool false)], args := [d1, d2] }
  | _ => none }
def FnExactPaneAtWrongFalsely : Prop := fnExactPaneAtRow.holds Try.pinned (OpenSpec.ofChange fnExactPaneAtWrong)

/-- 'laws.FnExactWinAt': WHATEVER THE INPUT: true; the input reads as it did. -/
def fnExactWinAtSpec : ChangeSpec := { name := "fnExactWinAt", fn := fun _ => fun
  | [d1, d2] => { results := [.lit (.bool true)], args := [d1, d2] }
  | _ => none }
def fnExactWinAtRow : OpenClaim := { program := "ytkinkdgnephcbaa", sum := "088a601cd4263a7076626e9c72e062c4e77b944c46f7556da6443eb4dff904cf", func := "loop.example/g00661/laws.FnExactWinAt", spec := "fnExactWinAt", unfollowed := true, recurses := true, apart := false }
def FnExactWinAtSaid : Prop := fnExactWinAtRow.holds Try.pinned (OpenSpec.ofChange fnExactWinAtSpec)

/-- ITS FALSE NEIGHBOUR: 'it returns false'. Refute it at one input. -/
def fnExactWinAtWrong : ChangeSpec := { name := "fnExactWinAt", fn := fun _ => fun
  | [d1, d2] => { results := [.lit (.bool false)], args := [d1, d2] }
  | _ => none }
def FnExactWinAtWrongFalsely : Prop := fnExactWinAtRow.holds Try.pinned (OpenSpec.ofChange fnExactWinAtWrong)

/-- 'laws.FnExactSessAt': WHATEVER THE INPUT: true; the input reads as it did. -/
def fnExactSessAtSpec : ChangeSpec := { name := "fnExactSessAt", fn := fun _ => fun
  | [d1, d2] => { results := [.lit (.bool true)], args := [d1, d2] }
  | _ => none }
def fnExactSessAtRow : OpenClaim := { program := "ytkinkdgnephcbaa", sum := "088a601cd4263a7076626e9c72e062c4e77b944c46f7556da6443eb4dff904cf", func := "loop.example/g00661/laws.FnExactSessAt", spec := "fnExactSessAt", unfollowed := true, recurses := true, apart := false }
def FnExactSessAtSaid : Prop := fnExactSessAtRow.holds Try.pinned (OpenSpec.ofChange fnExactSessAtSpec)

/-- ITS FALSE NEIGHBOUR: 'it returns false'. Refute it at one input. -/
def fnExactSessAtWrong : ChangeSpec := { name := "fnExactSessAt", fn := fun _ => fun
  | [d1, d2] => { results := [.lit (.bool false)], args := [d1, d2] }
  | _ => none }
def FnExactSessAtWrongFalsely : Prop := fnExactSessAtRow.holds Try.pinned (OpenSpec.ofChange fnExactSessAtWrong)

/-- 'laws.FnExactWinOf': WHATEVER THE INPUT: true; the input reads as it did. -/
def fnExactWinOfSpec : ChangeSpec := { name := "fnExactWinOf", fn := fun _ => fun
  | [d1, d2] => { results := [.lit (.bool true)], args := [d1, d2] }
  | _ => none }
def fnExactWinOfRow : OpenClaim := { program := "ytkinkdgnephcbaa", sum := "088a601cd4263a7076626e9c72e062c4e77b944c46f7556da6443eb4dff904cf", func := "loop.example/g00661/laws.FnExactWinOf", spec := "fnExactWinOf", unfollowed := true, recurses := true, apart := false }
def FnExactWinOfSaid : Prop := fnExactWinOfRow.holds Try.pinned (OpenSpec.ofChange fnExactWinOfSpec)

/-- ITS FALSE NEIGHBOUR: 'it returns false'. Refute it at one input. -/
def fnExactWinOfWrong : ChangeSpec := { name := "fnExactWinOf", fn := fun _ => fun
  | [d1, d2] => { results := [.lit (.bool false)], args := [d1, d2] }
  | _ => none }
def FnExactWinOfWrongFalsely : Prop := fnExactWinOfRow.holds Try.pinned (OpenSpec.ofChange fnExactWinOfWrong)

/-- 'laws.FnExactSessOf': WHATEVER THE INPUT: true; the input reads as it did. -/
def fnExactSessOfSpec : ChangeSpec := { name := "fnExactSessOf", fn := fun _ => fun
  | [d1, d2] => { results := [.lit (.bool true)], args := [d1, d2] }
  | _ => none }
def fnExactSessOfRow : OpenClaim := { program := "ytkinkdgnephcbaa", sum := "088a601cd4263a7076626e9c72e062c4e77b944c46f7556da6443eb4dff904cf", func := "loop.example/g00661/laws.FnExactSessOf", spec := "fnExactSessOf", unfollowed := true, recurses := true, apart := false }
def FnExactSessOfSaid : Prop := fnExactSessOfRow.holds Try.pinned (OpenSpec.ofChange fnExactSessOfSpec)

/-- ITS FALSE NEIGHBOUR: 'it returns false'. Refute it at one input. -/
def fnExactSessOfWrong : ChangeSpec := { name := "fnExactSessOf", fn := fun _ => fun
  | [d1, d2] => { results := [.lit (.bool false)], args := [d1, d2] }
  | _ => none }
def FnExactSessOfWrongFalsely : Prop := fnExactSessOfRow.holds Try.pinned (OpenSpec.ofChange fnExactSessOfWrong)

/-- 'laws.FnExactArea': WHATEVER THE INPUT: true; the input reads as it did. -/
def fnExactAreaSpec : ChangeSpec := { name := "fnExactArea", fn := fun _ => fun
  | [d1, d2] => { results := [.lit (.bool true)], args := [d1, d2] }
  | _ => none }
def fnExactAreaRow : OpenClaim := { program := "ytkinkdgnephcbaa", sum := "088a601cd4263a7076626e9c72e062c4e77b944c46f7556da6443eb4dff904cf", func := "loop.example/g00661/laws.FnExactArea", spec := "fnExactArea", unfollowed := true, recurses := true, apart := false }
def FnExactAreaSaid : Prop := fnExactAreaRow.holds Try.pinned (OpenSpec.ofChange fnExactAreaSpec)

/-- ITS FALSE NEIGHBOUR: 'it returns false'. Refute it at one input. -/
def fnExactAreaWrong : ChangeSpec := { name := "fnExactArea", fn := fun _ => fun
  | [d1, d2] => { results := [.lit (.bool false)], args := [d1, d2] }
  | _ => none }
def FnExactAreaWrongFalsely : Prop := fnExactAreaRow.holds Try.pinned (OpenSpec.ofChange fnExactAreaWrong)

/- THE SECOND FORM. 'bulk': how many values and letters a reading holds, each counted each time it is reached (what is shared counts as often as it is met; a slice's spare places count too). A statement '..UptoSaid' is the law's where the arguments, and the package variables that the reading takes, are together of bulk at most 1048576: NARROWER than '..Said'. Prove '..Said' where nothing that the law and all that it calls make is longer than what came in: it says more and counts as full. Else prove '..UptoSaid'. A law counts once. -/
mutual
def uptoBulk {H : Type} : DataW H → Nat
  | .lit (.string bytes) => bytes.length + 1
  | .lit _ => 1
  | .nil => 1
  | .ptr d => uptoBulk d + 1
  | .slice elems spare => uptoBulkAll elems + uptoBulkAll spare + 1
  | .agg parts => uptoBulkAll parts + 1
  | .iface _ d => uptoBulk d + 1
  | .map entries => uptoBulkEntries entries + 1
  | .held _ => 1
def uptoBulkAll {H : Type} : List (DataW H) → Nat
  | [] => 0
  | d :: r => uptoBulk d + uptoBulkAll r
def uptoBulkEntries {H : Type} : List (Lit × DataW H) → Nat
  | [] => 0
  | x :: r => uptoBulkEntry x + uptoBulkEntries r
def uptoBulkEntry {H : Type} : Lit × DataW H → Nat
  | (.string bytes, d) => bytes.length + uptoBulk d + 1
  | (_, d) => uptoBulk d + 1
 end
def uptoSmall : (H : Type) → List (DataW H) → Bool := fun _ ds => decide (uptoBulkAll ds ≤ 1048576)
def OpenSpec.upto (s : _root_.Go.ChangeSpec) : _root_.Go.OpenSpec := { _root_.Go.OpenSpec.ofChange s with cond := some uptoSmall }

/-- 'laws.FnTree', WHERE WHAT IT READS IS OF BULK AT MOST 1048576: true; the input reads as it did. -/
def fnTreeUptoRow : OpenClaim := { program := "ytkinkdgnephcbaa", sum := "088a601cd4263a7076626e9c72e062c4e77b944c46f7556da6443eb4dff904cf", func := "loop.example/g00661/laws.FnTree", spec := "fnTree", recurses := true, apart := false, narrowed := true }
def FnTreeUptoSaid : Prop := fnTreeUptoRow.holds Try.pinned (OpenSpec.upto fnTreeSpec)

/-- 'laws.FnSplit', WHERE WHAT IT READS IS OF BULK AT MOST 1048576: true; the input reads as it did. -/
def fnSplitUptoRow : OpenClaim := { program := "ytkinkdgnephcbaa", sum := "088a601cd4263a7076626e9c72e062c4e77b944c46f7556da6443eb4dff904cf", func := "loop.example/g00661/laws.FnSplit", spec := "fnSplit", unfollowed := true, recurses := true, apart := false, narrowed := true }
def FnSplitUptoSaid : Prop := fnSplitUptoRow.holds Try.pinned (OpenSpec.upto fnSplitSpec)

/-- 'laws.FnAround', WHERE WHAT IT READS IS OF BULK AT MOST 1048576: true; the input reads as it did. -/
def fnAroundUptoRow : OpenClaim := { program := "ytkinkdgnephcbaa", sum := "088a601cd4263a7076626e9c72e062c4e77b944c46f7556da6443eb4dff904cf", func := "loop.example/g00661/laws.FnAround", spec := "fnAround", recurses := true, apart := false, narrowed := true }
def FnAroundUptoSaid : Prop := fnAroundUptoRow.holds Try.pinned (OpenSpec.upto fnAroundSpec)

/-- 'laws.FnGrow', WHERE WHAT IT READS IS OF BULK AT MOST 1048576: true; the input reads as it did. -/
def fnGrowUptoRow : OpenClaim := { program := "ytkinkdgnephcbaa", sum := "088a601cd4263a7076626e9c72e062c4e77b944c46f7556da6443eb4dff904cf", func := "loop.example/g00661/laws.FnGrow", spec := "fnGrow", unfollowed := true, recurses := true, apart := false, narrowed := true }
def FnGrowUptoSaid : Prop := fnGrowUptoRow.holds Try.pinned (OpenSpec.upto fnGrowSpec)

/-- 'laws.FnExactTermNew', WHERE WHAT IT READS IS OF BULK AT MOST 1048576: true; the input reads as it did. -/
def fnExactTermNewUptoRow : OpenClaim := { program := "ytkinkdgnephcbaa", sum := "088a601cd4263a7076626e9c72e062c4e77b944c46f7556da6443eb4dff904cf", func := "loop.example/g00661/laws.FnExactTermNew", spec := "fnExactTermNew", apart := false, narrowed := true }
def FnExactTermNewUptoSaid : Prop := fnExactTermNewUptoRow.holds Try.pinned (OpenSpec.upto fnExactTermNewSpec)

/-- 'laws.FnExactCut', WHERE WHAT IT READS IS OF BULK AT MOST 1048576: true; the input reads as it did. -/
def fnExactCutUptoRow : OpenClaim := { program := "ytkinkdgnephcbaa", sum := "088a601cd4263a7076626e9c72e062c4e77b944c46f7556da6443eb4dff904cf", func := "loop.example/g00661/laws.FnExactCut", spec := "fnExactCut", unfollowed := true, recurses := true, apart := false, narrowed := true }
def FnExactCutUptoSaid : Prop := fnExactCutUptoRow.holds Try.pinned (OpenSpec.upto fnExactCutSpec)

/-- 'laws.FnExactGrow', WHERE WHAT IT READS IS OF BULK AT MOST 1048576: true; the input reads as it did. -/
def fnExactGrowUptoRow : OpenClaim := { program := "ytkinkdgnephcbaa", sum := "088a601cd4263a7076626e9c72e062c4e77b944c46f7556da6443eb4dff904cf", func := "loop.example/g00661/laws.FnExactGrow", spec := "fnExactGrow", unfollowed := true, recurses := true, apart := false, narrowed := true }
def FnExactGrowUptoSaid : Prop := fnExactGrowUptoRow.holds Try.pinned (OpenSpec.upto fnExactGrowSpec)

/-- 'laws.FnExactBeside', WHERE WHAT IT READS IS OF BULK AT MOST 1048576: true; the input reads as it did. -/
def fnExactBesideUptoRow : OpenClaim := { program := "ytkinkdgnephcbaa", sum := "088a601cd4263a7076626e9c72e062c4e77b944c46f7556da6443eb4dff904cf", func := "loop.example/g00661/laws.FnExactBeside", spec := "fnExactBeside", recurses := true, apart := false, narrowed := true }
def FnExactBesideUptoSaid : Prop := fnExactBesideUptoRow.holds Try.pinned (OpenSpec.upto fnExactBesideSpec)

/-- 'laws.FnExactPaneAt', WHERE WHAT IT READS IS OF BULK AT MOST 1048576: true; the input reads as it did. -/
def fnExactPaneAtUptoRow : OpenClaim := { program := "ytkinkdgnephcbaa", sum := "088a601cd4263a7076626e9c72e062c4e77b944c46f7556da6443eb4dff904cf", func := "loop.example/g00661/laws.FnExactPaneAt", spec := "fnExactPaneAt", unfollowed := true, recurses := true, apart := false, narrowed := true }
def FnExactPaneAtUptoSaid : Prop := fnExactPaneAtUptoRow.holds Try.pinned (OpenSpec.upto fnExactPaneAtSpec)

/-- 'laws.FnExactWinAt', WHERE WHAT IT READS IS OF BULK AT MOST 1048576: true; the input reads as it did. -/
def fnExactWinAtUptoRow : OpenClaim := { program := "ytkinkdgnephcbaa", sum := "088a601cd4263a7076626e9c72e062c4e77b944c46f7556da6443eb4dff904cf", func := "loop.example/g00661/laws.FnExactWinAt", spec := "fnExactWinAt", unfollowed := true, recurses := true, apart := false, narrowed := true }
def FnExactWinAtUptoSaid : Prop := fnExactWinAtUptoRow.holds Try.pinned (OpenSpec.upto fnExactWinAtSpec)

/-- 'laws.FnExactSessAt', WHERE WHAT IT READS IS OF BULK AT MOST 1048576: true; the input reads as it did. -/
def fnExactSessAtUptoRow : OpenClaim := { program := "ytkinkdgnephcbaa", sum := "088a601cd4263a7076626e9c72e062c4e77b944c46f7556da6443eb4dff904cf", func := "loop.example/g00661/laws.FnExactSessAt", spec := "fnExactSessAt", unfollowed := true, recurses := true, apart := false, narrowed := true }
def FnExactSessAtUptoSaid : Prop := fnExactSessAtUptoRow.holds Try.pinned (OpenSpec.upto fnExactSessAtSpec)

/-- 'laws.FnExactWinOf', WHERE WHAT IT READS IS OF BULK AT MOST 1048576: true; the input reads as it did. -/
def fnExactWinOfUptoRow : OpenClaim := { program := "ytkinkdgnephcbaa", sum := "088a601cd4263a7076626e9c72e062c4e77b944c46f7556da6443eb4dff904cf", func := "loop.example/g00661/laws.FnExactWinOf", spec := "fnExactWinOf", unfollowed := true, recurses := true, apart := false, narrowed := true }
def FnExactWinOfUptoSaid : Prop := fnExactWinOfUptoRow.holds Try.pinned (OpenSpec.upto fnExactWinOfSpec)

/-- 'laws.FnExactSessOf', WHERE WHAT IT READS IS OF BULK AT MOST 1048576: true; the input reads as it did. -/
def fnExactSessOfUptoRow : OpenClaim := { program := "ytkinkdgnephcbaa", sum := "088a601cd4263a7076626e9c72e062c4e77b944c46f7556da6443eb4dff904cf", func := "loop.example/g00661/laws.FnExactSessOf", spec := "fnExactSessOf", unfollowed := true, recurses := true, apart := false, narrowed := true }
def FnExactSessOfUptoSaid : Prop := fnExactSessOfUptoRow.holds Try.pinned (OpenSpec.upto fnExactSessOfSpec)

/-- 'laws.FnExactArea', WHERE WHAT IT READS IS OF BULK AT MOST 1048576: true; the input reads as it did. -/
def fnExactAreaUptoRow : OpenClaim := { program := "ytkinkdgnephcbaa", sum := "088a601cd4263a7076626e9c72e062c4e77b944c46f7556da6443eb4dff904cf", func := "loop.example/g00661/laws.FnExactArea", spec := "fnExactArea", unfollowed := true, recurses := true, apart := false, narrowed := true }
def FnExactAreaUptoSaid : Prop := fnExactAreaUptoRow.holds Try.pinned (OpenSpec.upto fnExactAreaSpec)

end Rows
end Go.Proofs.Ytkinkdgnephcbaa
