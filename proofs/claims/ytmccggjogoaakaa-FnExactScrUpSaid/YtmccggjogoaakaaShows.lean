/- Contracts of Shows, in the program and in the model: both answer whether the rune lies in the ranges; at every int. -/
import Derived.Test.YtmccggjogoaakaaShowsD
namespace Go.Proofs.Ytmccggjogoaakaa.Rune
open Go.RowKit
set_option linter.unusedVariables false
set_option maxRecDepth 100000 in
set_option maxHeartbeats 400000 in
theorem spec_Shows_any (r : Int) (w : World) : Calls Try.prog 96 #[.int .i64 r] w fun e w' => e = .returned (.bool (showB r)) ∧ w = w' := by
  go_enter Try.func96, Try.ntmps96
  go_wp2
  all_goals
    go_ret
    exact ⟨rt_bool (by unfold showB; rw [Bool.eq_iff_iff]; simp <;> omega), rfl⟩

set_option maxRecDepth 100000 in
set_option maxHeartbeats 400000 in
theorem impl_Shows_any (r : Int) (w : World) : Calls Try.prog 101 #[.int .i64 r] w fun e w' => e = .returned (.bool (showB r)) ∧ w = w' := by
  go_enter Try.func101, Try.ntmps101
  go_wp2
  all_goals
    go_ret
    exact ⟨rt_bool (by unfold showB; rw [Bool.eq_iff_iff]; simp <;> omega), rfl⟩
end Go.Proofs.Ytmccggjogoaakaa.Rune

