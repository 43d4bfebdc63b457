/- Contracts of Shows, in the program and in the model: both answer whether the rune lies in the ranges; at every int. -/
import Derived.Test.YtbheimjepikkfaaDoorShowsD
namespace Go.Proofs.YtbheimjepikkfaaDoor.Rune
open Go.RowKit
set_option linter.unusedVariables false
set_option maxRecDepth 100000 in
set_option maxHeartbeats 400000 in
theorem spec_Shows_any (r : Int) (w : World) : Calls Tryd.prog 73 #[.int .i64 r] w fun e w' => e = .returned (.bool (showB r)) ∧ w = w' := by
  go_enter Tryd.func73, Tryd.ntmps73
  go_wp2
  all_goals
    go_ret
    exact ⟨rt_bool (by unfold showB; rw [Bool.eq_iff_iff]; simp <;> omega), rfl⟩

set_option maxRecDepth 100000 in
set_option maxHeartbeats 400000 in
theorem impl_Shows_any (r : Int) (w : World) : Calls Tryd.prog 79 #[.int .i64 r] w fun e w' => e = .returned (.bool (showB r)) ∧ w = w' := by
  go_enter Tryd.func79, Tryd.ntmps79
  go_wp2
  all_goals
    go_ret
    exact ⟨rt_bool (by unfold showB; rw [Bool.eq_iff_iff]; simp <;> omega), rfl⟩
end Go.Proofs.YtbheimjepikkfaaDoor.Rune
