/- The limit of a scrollback. -/
import Derived.Test.YtbheimjepikkfaaDoorScW
namespace Go.Proofs.YtbheimjepikkfaaDoor.Sc
open Go.RowKit Go.Proofs.YtbheimjepikkfaaDoor.Bytes Go.Proofs.YtbheimjepikkfaaDoor.Rows_ Go.Proofs.YtbheimjepikkfaaDoor.RowK Go.Proofs.YtbheimjepikkfaaDoor.Gr Go.Proofs.YtbheimjepikkfaaDoor.DOk Go.Proofs.YtbheimjepikkfaaDoor.Opq
set_option linter.unusedVariables false
def okL (lim : Int) : Bool := decide (0 ≤ lim ∧ lim ≤ 100)
theorem isLimit_any (n : Int) (w : World) : Calls Tryd.prog 50 #[.int .i64 n] w fun e w' => e = .returned (.bool (okL n)) ∧ w = w' := by
  by_cases h1 : 0 ≤ n
  · have HE := Lib.hid (show okL n = decide (n ≤ 100) by unfold okL; simp [h1])
    go_enter Tryd.func50, Tryd.ntmps50
    go_wp2_with fail
    go_ret
    exact ⟨ret_bool HE.out.symm, rfl⟩
  · have HE := Lib.hid (show okL n = false by unfold okL; simp [h1])
    go_enter Tryd.func50, Tryd.ntmps50
    go_wp2_with fail
    go_ret
    exact ⟨ret_bool HE.out.symm, rfl⟩
end Go.Proofs.YtbheimjepikkfaaDoor.Sc
