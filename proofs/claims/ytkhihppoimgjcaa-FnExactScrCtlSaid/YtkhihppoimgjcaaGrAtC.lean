/- Parts that several texts use, moved out of GrAtO. -/
import Derived.Test.YtkhihppoimgjcaaGrAtB
namespace Go.Proofs.Ytkhihppoimgjcaa.Gr
open Go.RowKit Go.Proofs.Ytkhihppoimgjcaa.Bytes Go.Proofs.Ytkhihppoimgjcaa.Rows_ Go.Proofs.Ytkhihppoimgjcaa.RowK
set_option linter.unusedVariables false
theorem OwnC.cap {w : World} {base : Nat} {A : Option Addr} {n c : Nat} {cs : List CellD} (h : OwnC w base A n c cs) : n ≤ c ∧ c ≤ 9223372036854775807 := by
  rcases h.2 with ⟨hv, h0⟩ | ⟨g, cap, cur, hv, _, _, hnc, hm, _⟩
  · injection hv with e1 e2 e3; omega
  · injection hv with e1 e2 e3
    unfold maxLen at hm; omega
theorem OwnC.addr {w : World} {base : Nat} {A : Option Addr} {n c : Nat} {cs : List CellD} (h : OwnC w base A n c cs) (hn : 0 < n) : ∃ g, A = some ⟨g, 0, none⟩ := own_addr h hn
end Go.Proofs.Ytkhihppoimgjcaa.Gr
