/- Opening a slice of cells that came in as an argument. -/
import Derived.Test.YteiojpglhmikoaaOpenGrid
namespace Go.Proofs.Yteiojpglhmikoaa.Opens
open Go.ChangeShapes Go.WideShapes Go.ChangeAt Go.RowKit Go.Joins Go.Deep
open Go.Proofs.Yteiojpglhmikoaa.Bytes Go.Proofs.Yteiojpglhmikoaa.Rows_ Go.Proofs.Yteiojpglhmikoaa.Gr
set_option linter.unusedVariables false
variable {H : Type} {enc : TypeId × Value → H} {W : World} {base : Nat} {held : Bool}
set_option maxRecDepth 100000 in
theorem open_Cells {r : Reach} {b0 : Nat} {v : Value} {d : DataW H} {p : List MemPlace} (hv : Value.okWide Try.prog W r b0 46 v) (h : DataW.Trod enc Try.prog W base (fun _ => true) held 46 v d p) :
    ∃ (A : Option Addr) (n c : Nat) (cs : List CellD), v = .slice A n c ∧ RdC W W.heap.size A cs ∧ cs.length = n ∧ n ≤ 9223372036854775807 := by
  obtain ⟨a, l, c, rfl⟩ := okWide_slice Try.underlying46 hv
  obtain ⟨fuel, hf⟩ := h
  obtain ⟨C, m, c', cs, e2, hm, hl, hq, hr⟩ := rows_ofK (v := .slice a l c) cellR wfC 6 Try.underlying46 (by kernel_rfl) (by decide) hf (fun m cs y hy => cell_cells hy)
  exact ⟨C, m, c', cs, e2, hr, hl, by unfold maxLen at hm; omega⟩
end Go.Proofs.Yteiojpglhmikoaa.Opens

