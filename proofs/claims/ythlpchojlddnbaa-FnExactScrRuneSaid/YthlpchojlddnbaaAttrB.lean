/- AttrOk in the program and in the model; at every attribute. -/
import Derived.Test.YthlpchojlddnbaaAttrT
namespace Go.Proofs.Ythlpchojlddnbaa.Attr
open Go.RowKit
set_option linter.unusedVariables false
set_option maxRecDepth 100000 in
set_option maxHeartbeats 400000 in
theorem spec_AttrOk_any (fg bg : Int) (b u t : Bool) (w : World) :
    Calls Try.prog 89 #[.agg #[.int .i64 fg, .int .i64 bg, .bool b, .bool u, .bool t]] w fun e w' => e = .returned (.bool (okA fg bg)) ∧ Below w.heap.size w w' := by
  go_enter Try.func89, Try.ntmps89
  go_wp2
  all_goals
    go_ret
    refine ⟨rt_bool (by unfold okA; rw [Bool.eq_iff_iff]; simp <;> omega), ?_⟩
    exact (Below.refl _ _).alloc (Nat.le_refl _) _

def colB (n : Int) : Bool := decide (0 ≤ n ∧ n ≤ 8)
set_option maxRecDepth 100000 in
set_option maxHeartbeats 400000 in
theorem isColor_any (n : Int) (w : World) :
    Calls Try.prog 121 #[.int .i64 n] w fun e w' => e = .returned (.bool (colB n)) ∧ w = w' := by
  go_enter Try.func121, Try.ntmps121
  go_wp2
  all_goals
    go_ret
    exact ⟨rt_bool (by unfold colB; rw [Bool.eq_iff_iff]; simp <;> omega), rfl⟩
theorem okA_split (fg bg : Int) : okA fg bg = (colB fg && colB bg) := by
  unfold okA colB; rw [Bool.eq_iff_iff]; simp; omega

set_option maxRecDepth 100000 in
set_option maxHeartbeats 400000 in
theorem impl_AttrOk_any (fg bg : Int) (b u t : Bool) (w : World) :
    Calls Try.prog 92 #[.agg #[.int .i64 fg, .int .i64 bg, .bool b, .bool u, .bool t]] w fun e w' => e = .returned (.bool (okA fg bg)) ∧ Below w.heap.size w w' := by
  cases hf : colB fg <;> have HF := Lib.hid hf <;> clear hf <;> cases hg : colB bg <;> have HG := Lib.hid hg <;> clear hg <;>
  · go_enter Try.func92, Try.ntmps92
    go_wp2_with (go_at_call 121; refine (isColor_any _ _).mono ?_; rintro e w' ⟨rfl, rfl⟩; (first | rw [HF.out] | rw [HG.out]))
    go_ret
    exact ⟨rt_bool (by rw [okA_split, HF.out, HG.out]; rfl), (Below.refl _ _).alloc (Nat.le_refl _) _⟩
end Go.Proofs.Ythlpchojlddnbaa.Attr

