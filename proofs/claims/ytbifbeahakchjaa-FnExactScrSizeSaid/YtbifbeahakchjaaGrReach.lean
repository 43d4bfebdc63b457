/- Parts that several texts use, moved out of GrFillI. -/
import Derived.Test.YtbifbeahakchjaaKiX
import Derived.Deep.RegionHeld3
namespace Go.Proofs.Ytbifbeahakchjaa.Gr
open Go.RowKit Go.Proofs.Ytbifbeahakchjaa.Bytes Go.Proofs.Ytbifbeahakchjaa.Rows_ Go.Proofs.Ytbifbeahakchjaa.RowK
set_option linter.unusedVariables false
set_option maxRecDepth 100000 in
theorem isReach_any (x : Int) (w : World) : Calls Try.prog 155 #[.int .i64 x] w fun e w' => e = .returned (.bool (smallB x)) ∧ w = w' := by
  by_cases h1 : -100000 ≤ x
  · have HE := Lib.hid (show smallB x = decide (x ≤ 100000) by unfold smallB; simp [h1])
    go_enter Try.func155, Try.ntmps155
    go_wp2_with fail
    go_ret
    exact ⟨ret_bool HE.out.symm, rfl⟩
  · have HE := Lib.hid (show smallB x = false by unfold smallB; simp [h1])
    go_enter Try.func155, Try.ntmps155
    go_wp2_with fail
    go_ret
    exact ⟨ret_bool HE.out.symm, rfl⟩
end Go.Proofs.Ytbifbeahakchjaa.Gr
