/- The size of a grid, as data and in the program. -/
import Derived.Test.YteiojpglhmikoaaGrTo
namespace Go.Proofs.Yteiojpglhmikoaa.Gr
open Go.RowKit Go.Proofs.Yteiojpglhmikoaa.Bytes Go.Proofs.Yteiojpglhmikoaa.Rows_ Go.Proofs.Yteiojpglhmikoaa.RowK
set_option linter.unusedVariables false
theorem all_no {cs : List CellD} {k : Nat} (h : k < cs.length) (ho : okC cs[k] = false) : cs.all okC = false := by
  rw [List.all_eq_false]; exact ⟨cs[k], List.getElem_mem h, by rw [ho]; simp⟩
theorem all_next {cs : List CellD} {k : Nat} (h : k < cs.length) (ha : (cs.take k).all okC = true) (ho : okC cs[k] = true) : (cs.take (k + 1)).all okC = true := by
  rw [List.take_succ_eq_append_getElem h, List.all_append, ha]; simp [ho]

end Go.Proofs.Yteiojpglhmikoaa.Gr

