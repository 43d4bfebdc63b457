/- The program's clamp. -/
import Derived.Test.YtckiloacbanbmaaGreatCrashMath
namespace Go.Proofs.YtckiloacbanbmaaGreat.DOk
open Go.RowKit Go.Proofs.YtckiloacbanbmaaGreat.Bytes Go.Proofs.YtckiloacbanbmaaGreat.Rows_
set_option linter.unusedVariables false

theorem clamp_any (k m : Int) (hm : 0 ≤ m) (w : World) :
    Calls Tryz.prog 58 #[.int .i64 k, .int .i64 0, .int .i64 m] w fun e w' => e = .returned (.int .i64 (clampD k m)) ∧ w = w' := by
  go_enter Tryz.func58, Tryz.ntmps58
  go_wp2
  all_goals
    go_ret
    refine ⟨ret_int ?_, rfl⟩
    rename_i hh
    first | rw [if_pos h] at hh | rw [if_neg (by omega)] at hh
    unfold clampD
    split <;> (try split) <;> omega
end Go.Proofs.YtckiloacbanbmaaGreat.DOk
