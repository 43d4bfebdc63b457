/- The limit of a scrollback. -/
import Derived.Test.YthlpchojlddnbaaScW
namespace Go.Proofs.Ythlpchojlddnbaa.Sc
open Go.RowKit Go.Proofs.Ythlpchojlddnbaa.Bytes Go.Proofs.Ythlpchojlddnbaa.Rows_ Go.Proofs.Ythlpchojlddnbaa.RowK Go.Proofs.Ythlpchojlddnbaa.Gr Go.Proofs.Ythlpchojlddnbaa.DOk Go.Proofs.Ythlpchojlddnbaa.Opq
set_option linter.unusedVariables false
def okL (lim : Int) : Bool := decide (0 ≤ lim ∧ lim ≤ 100)
theorem isLimit_any (n : Int) (w : World) : Calls Try.prog 113 #[.int .i64 n] w fun e w' => e = .returned (.bool (okL n)) ∧ w = w' := by
  by_cases h1 : 0 ≤ n
  · have HE := Lib.hid (show okL n = decide (n ≤ 100) by unfold okL; simp [h1])
    go_enter Try.func113, Try.ntmps113
    go_wp2_with fail
    go_ret
    exact ⟨ret_bool HE.out.symm, rfl⟩
  · have HE := Lib.hid (show okL n = false by unfold okL; simp [h1])
    go_enter Try.func113, Try.ntmps113
    go_wp2_with fail
    go_ret
    exact ⟨ret_bool HE.out.symm, rfl⟩
end Go.Proofs.Ythlpchojlddnbaa.Sc

