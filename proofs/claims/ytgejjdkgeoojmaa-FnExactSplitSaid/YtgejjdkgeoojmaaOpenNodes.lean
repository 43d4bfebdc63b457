/- Opening a slice of nodes that came in as an argument. -/
import Derived.Test.YtgejjdkgeoojmaaOpenG
import Derived.Test.YtgejjdkgeoojmaaTrB
namespace Go.Proofs.Ytgejjdkgeoojmaa.Opens
open Go.ChangeShapes Go.WideShapes Go.ChangeAt Go.RowKit Go.Joins Go.Deep
open Go.Proofs.Ytgejjdkgeoojmaa.Bytes Go.Proofs.Ytgejjdkgeoojmaa.Rows_ Go.Proofs.Ytgejjdkgeoojmaa.Tr
set_option linter.unusedVariables false
variable {H : Type} {enc : TypeId × Value → H} {W : World} {base : Nat} {held : Bool}
set_option maxRecDepth 100000 in
theorem node_cells {fuel : Nat} {cs : List Value} {x : DataW H × List MemPlace} (h : DataW.trod enc Try.prog W base (fun _ => true) held fuel 93 cs = some x) :
    ∃ z : NodeD, True ∧ cs = nodeR z := by
  obtain ⟨hcl, n, hg⟩ := fld Try.underlying93 h
  have hC : Try.prog.cellsOf 93 = 3 := by kernel_rfl
  have eI : Try.prog.cellsOf 3 = 1 := by kernel_rfl
  have eB : Try.prog.cellsOf 4 = 1 := by kernel_rfl
  rw [hC] at hcl
  obtain ⟨c0, c1, c2, rfl⟩ : ∃ a b c, cs = [a, b, c] := by
    match cs, hcl with
    | [a, b, c], _ => exact ⟨a, b, c, rfl⟩
  obtain ⟨y0, t0⟩ := hg 0 _ rfl
  obtain ⟨y1, t1⟩ := hg 1 _ rfl
  obtain ⟨y2, t2⟩ := hg 2 _ rfl
  replace t0 := part (t := 3) (off := 0) (ys := [c0]) eI t0 rfl
  replace t1 := part (t := 4) (off := 1) (ys := [c1]) eB t1 rfl
  replace t2 := part (t := 3) (off := 2) (ys := [c2]) eI t2 rfl
  obtain ⟨i0, e0, _, g0⟩ := DataW.trod_int Try.underlying3 t0
  obtain ⟨b1, e1⟩ := bool_ofG (c := c1) Try.underlying4 t1
  obtain ⟨i2, e2, _, g2⟩ := DataW.trod_int Try.underlying3 t2
  simp at e0 e2
  subst e0 e1 e2
  exact ⟨⟨i0, b1, i2⟩, trivial, rfl⟩
set_option maxRecDepth 100000 in
theorem open_Nodes {r : Reach} {b0 : Nat} {v : Value} {d : DataW H} {p : List MemPlace} (hv : Value.okWide Try.prog W r b0 46 v) (h : DataW.Trod enc Try.prog W base (fun _ => true) held 46 v d p) :
    ∃ (A : Option Addr) (n c : Nat) (cs : List NodeD), v = .slice A n c ∧ RdN W W.heap.size A cs ∧ cs.length = n ∧ n ≤ 9223372036854775807 := by
  obtain ⟨a, l, c, rfl⟩ := okWide_slice Try.underlying46 hv
  obtain ⟨fuel, hf⟩ := h
  obtain ⟨C, m, c', cs, e2, hm, hl, hq, hr⟩ := rows_ofK (v := .slice a l c) nodeR (fun _ => True) 3 Try.underlying46 (by kernel_rfl) (by decide) hf (fun m cs y hy => node_cells hy)
  exact ⟨C, m, c', cs, e2, hr, hl, by unfold maxLen at hm; omega⟩
end Go.Proofs.Ytgejjdkgeoojmaa.Opens

