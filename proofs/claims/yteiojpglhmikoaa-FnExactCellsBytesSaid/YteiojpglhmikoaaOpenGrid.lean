/- Opening cells and grids that came in as arguments. -/
import Derived.Test.YteiojpglhmikoaaOpenG
import Derived.Test.YteiojpglhmikoaaGrC
namespace Go.Proofs.Yteiojpglhmikoaa.Opens
open Go.ChangeShapes Go.WideShapes Go.ChangeAt Go.RowKit Go.Joins Go.Deep
open Go.Proofs.Yteiojpglhmikoaa.Bytes Go.Proofs.Yteiojpglhmikoaa.Rows_ Go.Proofs.Yteiojpglhmikoaa.Gr
set_option linter.unusedVariables false
variable {H : Type} {enc : TypeId × Value → H} {W : World} {base : Nat} {held : Bool}
def wfC (x : CellD) : Prop := (Lit.int .i64 x.r).wf = true ∧ (Lit.int .i64 x.fg).wf = true ∧ (Lit.int .i64 x.bg).wf = true
set_option maxRecDepth 100000 in
theorem attr_cells {fuel : Nat} {cs : List Value} {x : DataW H × List MemPlace} (h : DataW.trod enc Try.prog W base (fun _ => true) held fuel 90 cs = some x) :
    ∃ (fg bg : Int) (b u t : Bool), cs = [.int .i64 fg, .int .i64 bg, .bool b, .bool u, .bool t] ∧ (Lit.int .i64 fg).wf = true ∧ (Lit.int .i64 bg).wf = true := by
  obtain ⟨hcl, n, hg⟩ := fld Try.underlying90 h
  have hC : Try.prog.cellsOf 90 = 5 := by kernel_rfl
  have eI : Try.prog.cellsOf 3 = 1 := by kernel_rfl
  have eB : Try.prog.cellsOf 4 = 1 := by kernel_rfl
  rw [hC] at hcl
  obtain ⟨c0, c1, c2, c3, c4, rfl⟩ : ∃ a b c d e, cs = [a, b, c, d, e] := by
    match cs, hcl with
    | [a, b, c, d, e], _ => exact ⟨a, b, c, d, e, rfl⟩
  obtain ⟨y0, t0⟩ := hg 0 _ rfl
  obtain ⟨y1, t1⟩ := hg 1 _ rfl
  obtain ⟨y2, t2⟩ := hg 2 _ rfl
  obtain ⟨y3, t3⟩ := hg 3 _ rfl
  obtain ⟨y4, t4⟩ := hg 4 _ rfl
  replace t0 := part (t := 3) (off := 0) (ys := [c0]) eI t0 rfl
  replace t1 := part (t := 3) (off := 1) (ys := [c1]) eI t1 rfl
  replace t2 := part (t := 4) (off := 2) (ys := [c2]) eB t2 rfl
  replace t3 := part (t := 4) (off := 3) (ys := [c3]) eB t3 rfl
  replace t4 := part (t := 4) (off := 4) (ys := [c4]) eB t4 rfl
  obtain ⟨i0, e0, _, g0⟩ := DataW.trod_int Try.underlying3 t0
  obtain ⟨i1, e1, _, g1⟩ := DataW.trod_int Try.underlying3 t1
  obtain ⟨b2, e2⟩ := bool_ofG (c := c2) Try.underlying4 t2
  obtain ⟨b3, e3⟩ := bool_ofG (c := c3) Try.underlying4 t3
  obtain ⟨b4, e4⟩ := bool_ofG (c := c4) Try.underlying4 t4
  simp at e0 e1
  subst e0 e1 e2 e3 e4
  exact ⟨i0, i1, b2, b3, b4, rfl, g0, g1⟩
set_option maxRecDepth 100000 in
theorem cell_cells {fuel : Nat} {cs : List Value} {x : DataW H × List MemPlace} (h : DataW.trod enc Try.prog W base (fun _ => true) held fuel 92 cs = some x) :
    ∃ z : CellD, wfC z ∧ cs = cellR z := by
  obtain ⟨hcl, n, hg⟩ := fld Try.underlying92 h
  have hC : Try.prog.cellsOf 92 = 6 := by kernel_rfl
  have eI : Try.prog.cellsOf 3 = 1 := by kernel_rfl
  have eA : Try.prog.cellsOf 90 = 5 := by kernel_rfl
  rw [hC] at hcl
  obtain ⟨c0, c1, c2, c3, c4, c5, rfl⟩ : ∃ a b c d e f, cs = [a, b, c, d, e, f] := by
    match cs, hcl with
    | [a, b, c, d, e, f], _ => exact ⟨a, b, c, d, e, f, rfl⟩
  obtain ⟨y0, t0⟩ := hg 0 _ rfl
  obtain ⟨y1, t1⟩ := hg 1 _ rfl
  replace t0 := part (t := 3) (off := 0) (ys := [c0]) eI t0 rfl
  replace t1 := part (t := 90) (off := 1) (ys := [c1, c2, c3, c4, c5]) eA t1 rfl
  obtain ⟨i0, e0, _, g0⟩ := DataW.trod_int Try.underlying3 t0
  obtain ⟨fg, bg, b, u, t, e1, g1, g2⟩ := attr_cells t1
  simp at e0 e1
  obtain ⟨rfl, rfl, rfl, rfl, rfl⟩ := e1
  subst e0
  exact ⟨⟨i0, fg, bg, b, u, t⟩, ⟨g0, g1, g2⟩, rfl⟩
end Go.Proofs.Yteiojpglhmikoaa.Opens

