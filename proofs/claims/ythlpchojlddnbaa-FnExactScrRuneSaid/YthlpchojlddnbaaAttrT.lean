/- Words and contracts over an attribute (a struct of two ints and three bools): the laws' copy. -/
import Derived.Test.YthlpchojlddnbaaRows
import Derived.WalkKit
import Derived.WalkSmall
import Derived.Below
import Derived.Lib.Hide
namespace Go.Proofs.Ythlpchojlddnbaa.Attr
open Go.RowKit
set_option linter.unusedVariables false
theorem rt_bool {a b : Bool} (h : a = b) : Ending.returned (.bool a) = .returned (.bool b) := by rw [h]
theorem bcell {W w1 : World} (hb : Below W.heap.size W w1) : (∀ b o, b < W.heap.size → w1.cell? ⟨b, o, none⟩ = W.cell? ⟨b, o, none⟩) ∧ (∀ b o, b < W.heap.size → w1.frozen? ⟨b, o, none⟩ = W.frozen? ⟨b, o, none⟩) :=
  ⟨fun b o h => hb.cell (p := ⟨b, o, none⟩) h, fun b o h => hb.frozen (p := ⟨b, o, none⟩) h⟩
def okA (fg bg : Int) : Bool := decide (0 ≤ fg ∧ fg ≤ 8 ∧ 0 ≤ bg ∧ bg ≤ 8)
set_option maxRecDepth 100000 in
set_option maxHeartbeats 400000 in
theorem toAttr_any (fg bg : Int) (b u t : Bool) (w : World) :
    Calls Try.prog 41 #[.agg #[.int .i64 fg, .int .i64 bg, .bool b, .bool u, .bool t]] w
      fun e w' => e = .returned (.agg #[.int .i64 fg, .int .i64 bg, .bool b, .bool u, .bool t]) ∧ Below w.heap.size w w' := by
  go_enter Try.func41, Try.ntmps41
  go_wp2_with fail
  refine bodyPost_ret (v := .agg #[.int .i64 fg, .int .i64 bg, .bool b, .bool u, .bool t]) (by simp [results, Try.results41, go_sem]) rfl ⟨rfl, ?_⟩
  repeat (first | refine Below.setCell ?_ (by simp <;> omega) _ | refine Below.alloc ?_ (by simp <;> omega) _)
  exact Below.refl _ _

end Go.Proofs.Ythlpchojlddnbaa.Attr

