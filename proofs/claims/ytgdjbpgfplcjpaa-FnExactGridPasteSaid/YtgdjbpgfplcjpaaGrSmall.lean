/- Parts that several texts use, moved out of GrFillS. -/
import Derived.Test.YtgdjbpgfplcjpaaGrReach
import Derived.Deep.RegionHeld3
import Derived.Deep.DrawnRows
namespace Go.Proofs.Ytgdjbpgfplcjpaa.Gr
open Go.RowKit Go.Proofs.Ytgdjbpgfplcjpaa.Bytes Go.Proofs.Ytgdjbpgfplcjpaa.Rows_ Go.Proofs.Ytgdjbpgfplcjpaa.RowK
set_option linter.unusedVariables false
set_option maxRecDepth 100000 in
theorem l07Small_any (x : Int) (w : World) : Calls Try.prog 40 #[.int .i64 x] w fun e w' => e = .returned (.bool (smallB x)) ∧ w = w' := by
  by_cases h1 : -100000 ≤ x
  · have HE := Lib.hid (show smallB x = decide (x ≤ 100000) by unfold smallB; simp [h1])
    go_enter Try.func40, Try.ntmps40
    go_wp2_with fail
    go_ret
    exact ⟨ret_bool HE.out.symm, rfl⟩
  · have HE := Lib.hid (show smallB x = false by unfold smallB; simp [h1])
    go_enter Try.func40, Try.ntmps40
    go_wp2_with fail
    go_ret
    exact ⟨ret_bool HE.out.symm, rfl⟩

end Go.Proofs.Ytgdjbpgfplcjpaa.Gr
