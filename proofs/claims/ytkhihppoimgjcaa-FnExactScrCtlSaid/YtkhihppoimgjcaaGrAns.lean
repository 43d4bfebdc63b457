/- Parts that several texts use, moved out of GrShift. -/
import Derived.Test.YtkhihppoimgjcaaGrSlide
import Derived.Test.YtkhihppoimgjcaaGrCopy
import Derived.Test.YtkhihppoimgjcaaGrAtC
namespace Go.Proofs.Ytkhihppoimgjcaa.Gr
open Go.RowKit Go.Proofs.Ytkhihppoimgjcaa.Bytes Go.Proofs.Ytkhihppoimgjcaa.Rows_ Go.Proofs.Ytkhihppoimgjcaa.RowK
set_option linter.unusedVariables false
abbrev GridT := Int × Int × List CellD
def zeroT : GridT := (0, 0, [])
def AnsT (w : World) (t : GridT) (e : Ending) (w' : World) : Prop :=
  ∃ A c, e = .returned (.agg #[.int .i64 t.1, .int .i64 t.2.1, .slice A t.2.2.length c]) ∧ OwnC w' w.heap.size A t.2.2.length c t.2.2 ∧ Below w.heap.size w w'
theorem ansZero {w w' : World} (hb : Below w.heap.size w w') : AnsT w zeroT (.returned (.agg #[.int .i64 0, .int .i64 0, .slice none 0 0])) w' := ⟨none, 0, rfl, ownC_nil _ _, hb⟩
theorem ansT {w w' : World} {gw gh : Int} {A : Option Addr} {n c : Nat} {cs : List CellD} (hl : cs.length = n) (ho : OwnC w' w.heap.size A n c cs) (hb : Below w.heap.size w w') : AnsT w (gw, gh, cs) (.returned (.agg #[.int .i64 gw, .int .i64 gh, .slice A n c])) w' := by
  subst hl; exact ⟨A, c, rfl, ho, hb⟩
end Go.Proofs.Ytkhihppoimgjcaa.Gr
