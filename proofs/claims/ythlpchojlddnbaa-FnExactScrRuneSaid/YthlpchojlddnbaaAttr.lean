/- The laws' comparison of two attributes; at every attribute. -/
import Derived.Test.YthlpchojlddnbaaAttrT
namespace Go.Proofs.Ythlpchojlddnbaa.Attr
open Go.RowKit
set_option linter.unusedVariables false
set_option maxRecDepth 100000 in
set_option maxHeartbeats 400000 in
theorem eqAttr_yes (fg bg : Int) (b u t : Bool) (w : World) :
    Calls Try.prog 65 #[.agg #[.int .i64 fg, .int .i64 bg, .bool b, .bool u, .bool t], .agg #[.int .i64 fg, .int .i64 bg, .bool b, .bool u, .bool t]] w
      fun e w' => e = .returned (.bool true) ∧ Below w.heap.size w w' := by
  have e1 : (fg != fg) = false := by simp
  have e2 : (bg != bg) = false := by simp
  have e3 : (b != b) = false := by simp
  have e4 : (u != u) = false := by simp
  have e5 : (t != t) = false := by simp
  go_enter Try.func65, Try.ntmps65
  go_wp2_with fail
  go_ret
  refine ⟨rfl, ?_⟩
  repeat (first | refine Below.setCell ?_ (by simp <;> omega) _ | refine Below.alloc ?_ (by simp <;> omega) _)
  exact Below.refl _ _

end Go.Proofs.Ythlpchojlddnbaa.Attr

