/- Contracts of Shows, in the program and in the model: both answer whether the rune lies in the ranges; at every int. -/
import Derived.Test.YthlpchojlddnbaaShowsD
namespace Go.Proofs.Ythlpchojlddnbaa.Rune
open Go.RowKit
set_option linter.unusedVariables false
set_option maxRecDepth 100000 in
set_option maxHeartbeats 400000 in
theorem spec_Shows_any (r : Int) (w : World) : Calls Try.prog 72 #[.int .i64 r] w fun e w' => e = .returned (.bool (showB r)) ∧ w = w' := by
  go_enter Try.func72, Try.ntmps72
  go_wp2
  all_goals
    go_ret
    exact ⟨rt_bool (by unfold showB; rw [Bool.eq_iff_iff]; simp <;> omega), rfl⟩

set_option maxRecDepth 100000 in
set_option maxHeartbeats 400000 in
theorem impl_Shows_any (r : Int) (w : World) : Calls Try.prog 91 #[.int .i64 r] w fun e w' => e = .returned (.bool (showB r)) ∧ w = w' := by
  go_enter Try.func91, Try.ntmps91
  go_wp2
  all_goals
    go_ret
    exact ⟨rt_bool (by unfold showB; rw [Bool.eq_iff_iff]; simp <;> omega), rfl⟩
end Go.Proofs.Ythlpchojlddnbaa.Rune

