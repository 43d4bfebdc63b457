/- Opening cells and grids that came in as arguments. -/
import Derived.Test.YtmccggjogoaakaaOpenG
import Derived.Test.YtmccggjogoaakaaGrC
namespace Go.Proofs.Ytmccggjogoaakaa.Opens
open Go.ChangeShapes Go.WideShapes Go.ChangeAt Go.RowKit Go.Joins Go.Deep
open Go.Proofs.Ytmccggjogoaakaa.Bytes Go.Proofs.Ytmccggjogoaakaa.Rows_ Go.Proofs.Ytmccggjogoaakaa.Gr
set_option linter.unusedVariables false
variable {H : Type} {enc : TypeId × Value → H} {W : World} {base : Nat} {held : Bool}
def wfC (x : CellD) : Prop := (Lit.int .i64 x.r).wf = true ∧ (Lit.int .i64 x.fg).wf = true ∧ (Lit.int .i64 x.bg).wf = true
set_option maxRecDepth 100000 in
theorem attr_cells {fuel : Nat} {cs : List Value} {x : DataW H × List MemPlace} (h : DataW.trod enc Try.prog W base (fun _ => true) held fuel 35 cs = some x) :
    ∃ (fg bg : Int) (b u t : Bool), cs = [.int .i64 fg, .int .i64 bg, .bool b, .bool u, .bool t] ∧ (Lit.int .i64 fg).wf = true ∧ (Lit.int .i64 bg).wf = true := by
  obtain ⟨hcl, n, hg⟩ := fld Try.underlying35 h
  have hC : Try.prog.cellsOf 35 = 5 := by kernel_rfl
  have eI : Try.prog.cellsOf 3 = 1 := by kernel_rfl
  have eB : Try.prog.cellsOf 4 = 1 := by kernel_rfl
  rw [hC] at hcl
  obtain ⟨c0, c1, c2, c3, c4, rfl⟩ : ∃ a b c d e, cs = [a, b, c, d, e] := by
    match cs, hcl with
    | [a, b, c, d, e], _ => exact ⟨a, b, c, d, e, rfl⟩
  obtain ⟨y0, t0⟩ := hg 0 _ rfl
  obtain ⟨y1, t1⟩ := hg 1 _ rfl
  obtain ⟨y2, t2⟩ := hg 2 _ rfl
  obtain ⟨y3, t3⟩ := hg 3 _ rfl
  obtain ⟨y4, t4⟩ := hg 4 _ rfl
  replace t0 := part (t := 3) (off := 0) (ys := [c0]) eI t0 rfl
  replace t1 := part (t := 3) (off := 1) (ys := [c1]) eI t1 rfl
  replace t2 := part (t := 4) (off := 2) (ys := [c2]) eB t2 rfl
  replace t3 := part (t := 4) (off := 3) (ys := [c3]) eB t3 rfl
  replace t4 := part (t := 4) (off := 4) (ys := [c4]) eB t4 rfl
  obtain ⟨i0, e0, _, g0⟩ := DataW.trod_int Try.underlying3 t0
  obtain ⟨i1, e1, _, g1⟩ := DataW.trod_int Try.underlying3 t1
  obtain ⟨b2, e2⟩ := bool_ofG (c := c2) Try.underlying4 t2
  obtain ⟨b3, e3⟩ := bool_ofG (c := c3) Try.underlying4 t3
  obtain ⟨b4, e4⟩ := bool_ofG (c := c4) Try.underlying4 t4
  simp at e0 e1
  subst e0 e1 e2 e3 e4
  exact ⟨i0, i1, b2, b3, b4, rfl, g0, g1⟩
set_option maxRecDepth 100000 in
theorem cell_cells {fuel : Nat} {cs : List Value} {x : DataW H × List MemPlace} (h : DataW.trod enc Try.prog W base (fun _ => true) held fuel 101 cs = some x) :
    ∃ z : CellD, wfC z ∧ cs = cellR z := by
  obtain ⟨hcl, n, hg⟩ := fld Try.underlying101 h
  have hC : Try.prog.cellsOf 101 = 6 := by kernel_rfl
  have eI : Try.prog.cellsOf 3 = 1 := by kernel_rfl
  have eA : Try.prog.cellsOf 35 = 5 := by kernel_rfl
  rw [hC] at hcl
  obtain ⟨c0, c1, c2, c3, c4, c5, rfl⟩ : ∃ a b c d e f, cs = [a, b, c, d, e, f] := by
    match cs, hcl with
    | [a, b, c, d, e, f], _ => exact ⟨a, b, c, d, e, f, rfl⟩
  obtain ⟨y0, t0⟩ := hg 0 _ rfl
  obtain ⟨y1, t1⟩ := hg 1 _ rfl
  replace t0 := part (t := 3) (off := 0) (ys := [c0]) eI t0 rfl
  replace t1 := part (t := 35) (off := 1) (ys := [c1, c2, c3, c4, c5]) eA t1 rfl
  obtain ⟨i0, e0, _, g0⟩ := DataW.trod_int Try.underlying3 t0
  obtain ⟨fg, bg, b, u, t, e1, g1, g2⟩ := attr_cells t1
  simp at e0 e1
  obtain ⟨rfl, rfl, rfl, rfl, rfl⟩ := e1
  subst e0
  exact ⟨⟨i0, fg, bg, b, u, t⟩, ⟨g0, g1, g2⟩, rfl⟩
set_option maxRecDepth 100000 in
theorem open_Cell {r : Reach} {b0 : Nat} {v : Value} {d : DataW H} {p : List MemPlace} (hv : Value.okWide Try.prog W r b0 101 v) (h : DataW.Trod enc Try.prog W base (fun _ => true) held 101 v d p) :
    ∃ (r fg bg : Int) (b u t : Bool), v = .agg #[.int .i64 r, .int .i64 fg, .int .i64 bg, .bool b, .bool u, .bool t] ∧ (Lit.int .i64 r).wf = true ∧ (Lit.int .i64 fg).wf = true ∧ (Lit.int .i64 bg).wf = true := by
  obtain ⟨l, fuel, x, rfl, ht⟩ := top Try.underlying101 hv h
  obtain ⟨z, hz, rfl⟩ := cell_cells ht
  exact ⟨z.r, z.fg, z.bg, z.b, z.u, z.t, rfl, hz⟩
/-- a grid that came in -/
def GridIn (W : World) (C : Option Addr) (n : Nat) (cs : List CellD) : Prop := RdC W W.heap.size C cs ∧ cs.length = n ∧ n ≤ 9223372036854775807 ∧ ∀ x ∈ cs, wfC x
set_option maxRecDepth 100000 in
theorem grid_cells {fuel : Nat} {ls : List Value} {x : DataW H × List MemPlace} (h : DataW.trod enc Try.prog W base (fun _ => true) held fuel 24 ls = some x) :
    ∃ (gw gh : Int) (C : Option Addr) (n c : Nat) (cs : List CellD), ls = [.int .i64 gw, .int .i64 gh, .slice C n c] ∧ (Lit.int .i64 gw).wf = true ∧ (Lit.int .i64 gh).wf = true ∧ GridIn W C n cs := by
  obtain ⟨hcl, n, hg⟩ := fld Try.underlying24 h
  have hC : Try.prog.cellsOf 24 = 3 := by kernel_rfl
  have eI : Try.prog.cellsOf 3 = 1 := by kernel_rfl
  have eS : Try.prog.cellsOf 22 = 1 := by kernel_rfl
  rw [hC] at hcl
  obtain ⟨c0, c1, c2, rfl⟩ : ∃ a b c, ls = [a, b, c] := by
    match ls, hcl with
    | [a, b, c], _ => exact ⟨a, b, c, rfl⟩
  obtain ⟨y0, t0⟩ := hg 0 _ rfl
  obtain ⟨y1, t1⟩ := hg 1 _ rfl
  obtain ⟨y2, t2⟩ := hg 2 _ rfl
  replace t0 := part (t := 3) (off := 0) (ys := [c0]) eI t0 rfl
  replace t1 := part (t := 3) (off := 1) (ys := [c1]) eI t1 rfl
  replace t2 := part (t := 22) (off := 2) (ys := [c2]) eS t2 rfl
  obtain ⟨i0, e0, _, g0⟩ := DataW.trod_int Try.underlying3 t0
  obtain ⟨i1, e1, _, g1⟩ := DataW.trod_int Try.underlying3 t1
  obtain ⟨C, m, c, l, e2, hm, hl, hq, hr⟩ := rows_ofK (v := c2) cellR wfC 6 Try.underlying22 (by kernel_rfl) (by decide) t2 (fun m cs y hy => cell_cells hy)
  simp at e0 e1
  subst e0 e1 e2
  exact ⟨i0, i1, C, m, c, l, rfl, g0, g1, hr, hl, by unfold maxLen at hm; omega, hq⟩
set_option maxRecDepth 100000 in
theorem open_Grid {r : Reach} {b0 : Nat} {v : Value} {d : DataW H} {p : List MemPlace} (hv : Value.okWide Try.prog W r b0 24 v) (h : DataW.Trod enc Try.prog W base (fun _ => true) held 24 v d p) :
    ∃ (gw gh : Int) (C : Option Addr) (n c : Nat) (cs : List CellD), v = .agg #[.int .i64 gw, .int .i64 gh, .slice C n c] ∧ (Lit.int .i64 gw).wf = true ∧ (Lit.int .i64 gh).wf = true ∧ GridIn W C n cs := by
  obtain ⟨l, fuel, x, rfl, ht⟩ := top Try.underlying24 hv h
  obtain ⟨gw, gh, C, n, c, cs, rfl, hh⟩ := grid_cells ht
  exact ⟨gw, gh, C, n, c, cs, rfl, hh⟩
end Go.Proofs.Ytmccggjogoaakaa.Opens

