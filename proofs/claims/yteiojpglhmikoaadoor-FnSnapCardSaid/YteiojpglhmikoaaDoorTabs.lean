/- Out of a row's condition on the listed variables: what the walks ask of them; no condition of its own. -/
import Derived.Test.YteiojpglhmikoaaDoorNumCore
import Derived.Stop.LaidErr
namespace Go.Proofs.YteiojpglhmikoaaDoor.Tabs
theorem gT : Tryd.prog.globalNamed "internal/strconv.uint64pow10" = some 3 := by kernel_rfl
theorem gTType : (Tryd.prog.globals[3]?).map (·.type) = some 133 := by kernel_rfl
theorem tabEq : (Rows.laid_internal_strconv_uint64pow10 : DataW Unit) = Lib.tabData .u64 Lib.pow10Tab := by kernel_rfl
theorem pow10 {W : World} {r : List (String × DataW Unit)} {x y : String × DataW Unit} (h : laidMet Tryd.prog (x :: y :: ("internal/strconv.uint64pow10", Rows.laid_internal_strconv_uint64pow10) :: r) W) :
    Lib.TabIs Tryd.prog W "internal/strconv.uint64pow10" .u64 Lib.pow10Tab := by
  have h1 := h.tail.tail
  rw [tabEq] at h1
  exact Lib.tabIs_of_head gT gTType Tryd.underlying133 Tryd.underlying113 (by kernel_rfl) (by kernel_rfl) h1
end Go.Proofs.YteiojpglhmikoaaDoor.Tabs

