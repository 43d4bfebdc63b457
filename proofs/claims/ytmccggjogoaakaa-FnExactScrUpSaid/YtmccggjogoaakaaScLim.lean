/- The limit of a scrollback. -/
import Derived.Test.YtmccggjogoaakaaScW
namespace Go.Proofs.Ytmccggjogoaakaa.Sc
open Go.RowKit Go.Proofs.Ytmccggjogoaakaa.Bytes Go.Proofs.Ytmccggjogoaakaa.Rows_ Go.Proofs.Ytmccggjogoaakaa.RowK Go.Proofs.Ytmccggjogoaakaa.Gr Go.Proofs.Ytmccggjogoaakaa.DOk Go.Proofs.Ytmccggjogoaakaa.Opq
set_option linter.unusedVariables false
def okL (lim : Int) : Bool := decide (0 ≤ lim ∧ lim ≤ 100)
theorem isLimit_any (n : Int) (w : World) : Calls Try.prog 54 #[.int .i64 n] w fun e w' => e = .returned (.bool (okL n)) ∧ w = w' := by
  by_cases h1 : 0 ≤ n
  · have HE := Lib.hid (show okL n = decide (n ≤ 100) by unfold okL; simp [h1])
    go_enter Try.func54, Try.ntmps54
    go_wp2_with fail
    go_ret
    exact ⟨ret_bool HE.out.symm, rfl⟩
  · have HE := Lib.hid (show okL n = false by unfold okL; simp [h1])
    go_enter Try.func54, Try.ntmps54
    go_wp2_with fail
    go_ret
    exact ⟨ret_bool HE.out.symm, rfl⟩
end Go.Proofs.Ytmccggjogoaakaa.Sc

