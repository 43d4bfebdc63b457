/- Out of a row's condition on the library's variable errors.errorType: what the walks ask of it; no condition of its own. -/
import Derived.Test.YteiojpglhmikoaaDoorAsHit
import Derived.Test.YteiojpglhmikoaaDoorCards
import Derived.LaidHandle
namespace Go.Proofs.YteiojpglhmikoaaDoor.Tabs
open Go.RowKit
theorem et : Tryd.prog.globalNamed "errors.errorType" = some 0 := by kernel_rfl
theorem rt : (Tryd.prog.cutTypes.find? (·.1 == "internal/reflectlite.rtype")).map (·.2) = some 92 := by kernel_rfl
theorem tsize : Tryd.prog.types.size = 167 := by kernel_rfl
theorem oneRow : ((List.range 167).filter fun t => Tryd.prog.rowNamed t [101, 114, 114, 111, 114]) = [49] := by kernel_rfl
theorem errT_of {W : World} {r : List (String × DataW Unit)} (h : handlesMet Tryd.prog (("errors.errorType", Rows.laid_errors_errorType) :: r) W) : As.ErrT W := by
  obtain ⟨name, u, ty, e1, e2, e3, e4, e5⟩ := h _ List.mem_cons_self
  have en : name = [101, 114, 114, 111, 114] := (Option.some.inj e1).symm
  subst en
  obtain rfl := Option.some.inj (rt.symm.trans e2)
  have hm : ty ∈ (List.range 167).filter fun t => Tryd.prog.rowNamed t [101, 114, 114, 111, 114] := List.mem_filter.2 ⟨List.mem_range.2 (by rw [← tsize]; exact e3), e4⟩
  rw [oneRow] at hm
  obtain rfl := List.mem_singleton.1 hm
  have hh : typeHandle Tryd.prog 49 = .pointer (some ⟨6, 49, none⟩) := by kernel_rfl
  rw [hh] at e5
  simpa [As.ErrT] using World.var?_cell et e5 0
end Go.Proofs.YteiojpglhmikoaaDoor.Tabs

