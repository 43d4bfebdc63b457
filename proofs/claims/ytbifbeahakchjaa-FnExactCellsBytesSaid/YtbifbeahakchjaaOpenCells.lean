/- Opening a slice of cells that came in as an argument. -/
import Derived.Test.YtbifbeahakchjaaOpenGrid
namespace Go.Proofs.Ytbifbeahakchjaa.Opens
open Go.ChangeShapes Go.WideShapes Go.ChangeAt Go.RowKit Go.Joins Go.Deep
open Go.Proofs.Ytbifbeahakchjaa.Bytes Go.Proofs.Ytbifbeahakchjaa.Rows_ Go.Proofs.Ytbifbeahakchjaa.Gr
set_option linter.unusedVariables false
variable {H : Type} {enc : TypeId × Value → H} {W : World} {base : Nat} {held : Bool}
set_option maxRecDepth 100000 in
theorem open_Cells {r : Reach} {b0 : Nat} {v : Value} {d : DataW H} {p : List MemPlace} (hv : Value.okWide Try.prog W r b0 22 v) (h : DataW.Trod enc Try.prog W base (fun _ => true) held 22 v d p) :
    ∃ (A : Option Addr) (n c : Nat) (cs : List CellD), v = .slice A n c ∧ RdC W W.heap.size A cs ∧ cs.length = n ∧ n ≤ 9223372036854775807 := by
  obtain ⟨a, l, c, rfl⟩ := okWide_slice Try.underlying22 hv
  obtain ⟨fuel, hf⟩ := h
  obtain ⟨C, m, c', cs, e2, hm, hl, hq, hr⟩ := rows_ofK (v := .slice a l c) cellR wfC 6 Try.underlying22 (by kernel_rfl) (by decide) hf (fun m cs y hy => cell_cells hy)
  exact ⟨C, m, c', cs, e2, hr, hl, by unfold maxLen at hm; omega⟩
end Go.Proofs.Ytbifbeahakchjaa.Opens
