/- Contracts of Shows, in the program and in the model: both answer whether the rune lies in the ranges; at every int. -/
import Derived.Test.YtfdbmhelcmifoaaGreatRows
import Derived.WalkKit
import Derived.WalkSmall
import Derived.Lib.Hide
namespace Go.Proofs.YtfdbmhelcmifoaaGreat.Rune
open Go.RowKit
set_option linter.unusedVariables false
theorem rt_bool {a b : Bool} (h : a = b) : Ending.returned (.bool a) = .returned (.bool b) := by rw [h]
def showB (r : Int) : Bool := decide ((32 ≤ r ∧ r ≤ 126) ∨ (160 ≤ r ∧ r ≤ 65535 ∧ (r < 55296 ∨ 57343 < r)))

set_option maxRecDepth 100000 in
set_option maxHeartbeats 400000 in
theorem spec_Shows_any (r : Int) (w : World) : Calls Tryz.prog 132 #[.int .i64 r] w fun e w' => e = .returned (.bool (showB r)) ∧ w = w' := by
  go_enter Tryz.func132, Tryz.ntmps132
  go_wp2
  all_goals
    go_ret
    exact ⟨rt_bool (by unfold showB; rw [Bool.eq_iff_iff]; simp <;> omega), rfl⟩

set_option maxRecDepth 100000 in
set_option maxHeartbeats 400000 in
theorem impl_Shows_any (r : Int) (w : World) : Calls Tryz.prog 136 #[.int .i64 r] w fun e w' => e = .returned (.bool (showB r)) ∧ w = w' := by
  go_enter Tryz.func136, Tryz.ntmps136
  go_wp2
  all_goals
    go_ret
    exact ⟨rt_bool (by unfold showB; rw [Bool.eq_iff_iff]; simp <;> omega), rfl⟩
end Go.Proofs.YtfdbmhelcmifoaaGreat.Rune
