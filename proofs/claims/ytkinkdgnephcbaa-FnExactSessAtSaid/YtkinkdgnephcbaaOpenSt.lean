/- Opening states that came in as arguments. -/
import Derived.Test.YtkinkdgnephcbaaOpenScr
import Derived.Test.YtkinkdgnephcbaaOpenNodes
import Derived.Test.YtkinkdgnephcbaaOpenBytes
import Derived.Test.YtkinkdgnephcbaaOpenVpB
import Derived.Test.YtkinkdgnephcbaaStW
namespace Go.Proofs.Ytkinkdgnephcbaa.Opens
open Go.ChangeShapes Go.WideShapes Go.ChangeAt Go.RowKit Go.Joins Go.Deep
open Go.Proofs.Ytkinkdgnephcbaa.Bytes Go.Proofs.Ytkinkdgnephcbaa.Rows_ Go.Proofs.Ytkinkdgnephcbaa.RowK Go.Proofs.Ytkinkdgnephcbaa.Gr Go.Proofs.Ytkinkdgnephcbaa.DOk Go.Proofs.Ytkinkdgnephcbaa.Sc Go.Proofs.Ytkinkdgnephcbaa.St
set_option linter.unusedVariables false
variable {H : Type} {enc : TypeId × Value → H} {W : World} {base : Nat} {held : Bool}
theorem max64 : maxLen ≤ 9223372036854775807 := by unfold maxLen; omega
set_option maxRecDepth 100000 in
set_option maxHeartbeats 800000 in
theorem vp2_cells {fuel : Nat} {l : List Value} {x : DataW H × List MemPlace} (ht : DataW.trod enc Try.prog W base (fun _ => true) held fuel 185 l = some x) :
    ∃ s : VpS, l = vpL s ∧ RdV W W.heap.size s ∧ LenV s := by
  obtain ⟨hcl, n, hg⟩ := fld Try.underlying185 ht
  have hC : Try.prog.cellsOf 185 = 4 := by kernel_rfl
  rw [hC] at hcl
  obtain ⟨c0, c1, c2, c3, rfl⟩ : ∃ a0 a1 a2 a3, l = [a0, a1, a2, a3] := by
    match l, hcl with
    | [a0, a1, a2, a3], _ => exact ⟨a0, a1, a2, a3, rfl⟩
  obtain ⟨y0, t0⟩ := hg 0 _ rfl
  replace t0 := part (k := 1) (t := 3) (off := 0) (ys := [c0]) (by kernel_rfl) t0 rfl
  obtain ⟨y1, t1⟩ := hg 1 _ rfl
  replace t1 := part (k := 1) (t := 4) (off := 1) (ys := [c1]) (by kernel_rfl) t1 rfl
  obtain ⟨y2, t2⟩ := hg 2 _ rfl
  replace t2 := part (k := 1) (t := 29) (off := 2) (ys := [c2]) (by kernel_rfl) t2 rfl
  obtain ⟨y3, t3⟩ := hg 3 _ rfl
  replace t3 := part (k := 1) (t := 22) (off := 3) (ys := [c3]) (by kernel_rfl) t3 rfl
  clear hg
  obtain ⟨i0, e0, _, _⟩ := DataW.trod_int Try.underlying3 t0
  simp only [List.cons.injEq, and_true] at e0
  subst e0
  obtain ⟨i1, e1⟩ := bool_ofG (c := c1) Try.underlying4 t1
  subst e1
  obtain ⟨A2, m2, k2, l2, e2, f2, h2, q2⟩ := ints_cell t2
  subst e2 h2
  obtain ⟨A3, m3, k3, l3, e3, f3, h3, q3, _⟩ := bytes_cell t3
  subst e3 h3
  exact ⟨⟨i0, i1, A2, k2, l2, A3, k3, l3⟩, rfl, ⟨f2, f3⟩, ⟨q2, q3⟩⟩
set_option maxRecDepth 100000 in
theorem term_cells {fuel : Nat} {l : List Value} {x : DataW H × List MemPlace} (ht : DataW.trod enc Try.prog W base (fun _ => true) held fuel 194 l = some x) :
    ∃ s : TermS, l = termL s ∧ RdT W W.heap.size s ∧ LenT s := by
  obtain ⟨hcl, n, hg⟩ := fld Try.underlying194 ht
  have hC : Try.prog.cellsOf 194 = 35 := by kernel_rfl
  rw [hC] at hcl
  obtain ⟨y0, t0⟩ := hg 0 _ rfl
  obtain ⟨y1, t1⟩ := hg 1 _ rfl
  replace t0 := part (k := 4) (t := 185) (off := 0) (ys := (l.drop 0).take 4) (by kernel_rfl) t0 rfl
  replace t1 := part (k := 31) (t := 192) (off := 4) (ys := (l.drop 4).take 31) (by kernel_rfl) t1 rfl
  obtain ⟨v, e0, f0, g0⟩ := vp2_cells t0
  obtain ⟨s, e1, f1, g1⟩ := scr_cells t1
  refine ⟨⟨v, s⟩, ?_, ⟨f0, f1⟩, ⟨g0, g1⟩⟩
  unfold termL
  show l = vpL v ++ scrL s
  rw [← e0, ← e1, List.drop_zero, List.take_of_length_le (l := l.drop 4) (by rw [List.length_drop]; omega), List.take_append_drop]
set_option maxRecDepth 100000 in
theorem pane_cells {fuel : Nat} {l : List Value} {x : DataW H × List MemPlace} (ht : DataW.trod enc Try.prog W base (fun _ => true) held fuel 196 l = some x) :
    ∃ s : PaneS, (RdT W W.heap.size s.t ∧ LenP s) ∧ l = paneL s := by
  obtain ⟨hcl, n, hg⟩ := fld Try.underlying196 ht
  have hC : Try.prog.cellsOf 196 = 41 := by kernel_rfl
  rw [hC] at hcl
  obtain ⟨c0, c1, c2, c3, c4, c5, r, rfl⟩ : ∃ a b c d e f r, l = a :: b :: c :: d :: e :: f :: r := by
    match l, hcl with
    | a :: b :: c :: d :: e :: f :: r, _ => exact ⟨a, b, c, d, e, f, r, rfl⟩
  have hrl : r.length = 35 := by simpa using hcl
  obtain ⟨y0, t0⟩ := hg 0 _ rfl
  obtain ⟨y1, t1⟩ := hg 1 _ rfl
  obtain ⟨y2, t2⟩ := hg 2 _ rfl
  obtain ⟨y3, t3⟩ := hg 3 _ rfl
  obtain ⟨y4, t4⟩ := hg 4 _ rfl
  obtain ⟨y5, t5⟩ := hg 5 _ rfl
  obtain ⟨y6, t6⟩ := hg 6 _ rfl
  replace t0 := part (k := 1) (t := 3) (off := 0) (ys := [c0]) (by kernel_rfl) t0 rfl
  replace t1 := part (k := 1) (t := 9) (off := 1) (ys := [c1]) (by kernel_rfl) t1 rfl
  replace t2 := part (k := 1) (t := 9) (off := 2) (ys := [c2]) (by kernel_rfl) t2 rfl
  replace t3 := part (k := 1) (t := 3) (off := 3) (ys := [c3]) (by kernel_rfl) t3 rfl
  replace t4 := part (k := 1) (t := 3) (off := 4) (ys := [c4]) (by kernel_rfl) t4 rfl
  replace t5 := part (k := 1) (t := 3) (off := 5) (ys := [c5]) (by kernel_rfl) t5 rfl
  replace t6 := part (k := 35) (t := 194) (off := 6) (ys := r) (by kernel_rfl) t6 (by show r.take 35 = r; exact List.take_of_length_le (by omega))
  clear hg
  obtain ⟨i0, e0, _, _⟩ := DataW.trod_int Try.underlying3 t0
  obtain ⟨i1, e1, _, g1⟩ := DataW.trod_string Try.underlying9 t1
  obtain ⟨i2, e2, _, g2⟩ := DataW.trod_string Try.underlying9 t2
  obtain ⟨i3, e3, _, _⟩ := DataW.trod_int Try.underlying3 t3
  obtain ⟨i4, e4, _, _⟩ := DataW.trod_int Try.underlying3 t4
  obtain ⟨i5, e5, _, _⟩ := DataW.trod_int Try.underlying3 t5
  obtain ⟨q, e6, f6, g6⟩ := term_cells t6
  simp only [List.cons.injEq, and_true] at e0 e1 e2 e3 e4 e5
  subst e0 e1 e2 e3 e4 e5 e6
  exact ⟨⟨i0, i1, i2, i3, i4, i5, q⟩, ⟨f6, ⟨Nat.le_trans g1 max64, Nat.le_trans g2 max64, g6⟩⟩, rfl⟩
set_option maxRecDepth 100000 in
theorem win_cells {fuel : Nat} {l : List Value} {x : DataW H × List MemPlace} (ht : DataW.trod enc Try.prog W base (fun _ => true) held fuel 199 l = some x) :
    ∃ s : WinS, (Tr.RdN W W.heap.size s.tA s.tree ∧ LenW s) ∧ l = winL s := by
  obtain ⟨hcl, n, hg⟩ := fld Try.underlying199 ht
  have hC : Try.prog.cellsOf 199 = 5 := by kernel_rfl
  rw [hC] at hcl
  obtain ⟨c0, c1, c2, c3, c4, rfl⟩ : ∃ a b c d e, l = [a, b, c, d, e] := by
    match l, hcl with
    | [a, b, c, d, e], _ => exact ⟨a, b, c, d, e, rfl⟩
  obtain ⟨y0, t0⟩ := hg 0 _ rfl
  obtain ⟨y1, t1⟩ := hg 1 _ rfl
  obtain ⟨y2, t2⟩ := hg 2 _ rfl
  obtain ⟨y3, t3⟩ := hg 3 _ rfl
  obtain ⟨y4, t4⟩ := hg 4 _ rfl
  replace t0 := part (k := 1) (t := 3) (off := 0) (ys := [c0]) (by kernel_rfl) t0 rfl
  replace t1 := part (k := 1) (t := 9) (off := 1) (ys := [c1]) (by kernel_rfl) t1 rfl
  replace t2 := part (k := 1) (t := 64) (off := 2) (ys := [c2]) (by kernel_rfl) t2 rfl
  replace t3 := part (k := 1) (t := 3) (off := 3) (ys := [c3]) (by kernel_rfl) t3 rfl
  replace t4 := part (k := 1) (t := 4) (off := 4) (ys := [c4]) (by kernel_rfl) t4 rfl
  clear hg
  obtain ⟨i0, e0, _, _⟩ := DataW.trod_int Try.underlying3 t0
  obtain ⟨i1, e1, _, g1⟩ := DataW.trod_string Try.underlying9 t1
  obtain ⟨A, m, c, tr, e2, hm, hl, _, hr⟩ := rows_ofK (v := c2) Tr.nodeR (fun _ => True) 3 Try.underlying64 (by kernel_rfl) (by decide) t2 (fun m cs y hy => node_cells hy)
  obtain ⟨i3, e3, _, _⟩ := DataW.trod_int Try.underlying3 t3
  obtain ⟨i4, e4⟩ := bool_ofG (c := c4) Try.underlying4 t4
  simp only [List.cons.injEq, and_true] at e0 e1 e3
  subst e0 e1 e2 e3 e4 hl
  exact ⟨⟨i0, i1, A, c, tr, i3, i4⟩, ⟨hr, ⟨Nat.le_trans g1 max64, Nat.le_trans hm max64⟩⟩, rfl⟩
set_option maxRecDepth 100000 in
theorem sess_cells {fuel : Nat} {l : List Value} {x : DataW H × List MemPlace} (ht : DataW.trod enc Try.prog W base (fun _ => true) held fuel 201 l = some x) :
    ∃ s : SessS, (RdI W W.heap.size s.wA s.wins ∧ LenE s) ∧ l = sessL s := by
  obtain ⟨hcl, n, hg⟩ := fld Try.underlying201 ht
  have hC : Try.prog.cellsOf 201 = 3 := by kernel_rfl
  rw [hC] at hcl
  obtain ⟨c0, c1, c2, rfl⟩ : ∃ a b c, l = [a, b, c] := by
    match l, hcl with
    | [a, b, c], _ => exact ⟨a, b, c, rfl⟩
  obtain ⟨y0, t0⟩ := hg 0 _ rfl
  obtain ⟨y1, t1⟩ := hg 1 _ rfl
  obtain ⟨y2, t2⟩ := hg 2 _ rfl
  replace t0 := part (k := 1) (t := 9) (off := 0) (ys := [c0]) (by kernel_rfl) t0 rfl
  replace t1 := part (k := 1) (t := 29) (off := 1) (ys := [c1]) (by kernel_rfl) t1 rfl
  replace t2 := part (k := 1) (t := 3) (off := 2) (ys := [c2]) (by kernel_rfl) t2 rfl
  clear hg
  obtain ⟨i0, e0, _, g0⟩ := DataW.trod_string Try.underlying9 t0
  obtain ⟨A, m, c, zs, e1, f1, hl, hm⟩ := ints_cell t1
  obtain ⟨i2, e2, _, _⟩ := DataW.trod_int Try.underlying3 t2
  simp only [List.cons.injEq, and_true] at e0 e2
  subst e0 e1 e2 hl
  exact ⟨⟨i0, A, c, zs, i2⟩, ⟨f1, ⟨Nat.le_trans g0 max64, hm⟩⟩, rfl⟩
set_option maxRecDepth 100000 in
theorem open_State {r : Reach} {b0 : Nat} {v : Value} {d : DataW H} {p : List MemPlace} (hv : Value.okWide Try.prog W r b0 74 v) (h : DataW.Trod enc Try.prog W base (fun _ => true) held 74 v d p) :
    ∃ s : StS, v = .agg (stA s) ∧ RdSt W W.heap.size s ∧ LenSt s := by
  obtain ⟨l, fuel, x, rfl, ht⟩ := top Try.underlying74 hv h
  obtain ⟨hcl, n, hg⟩ := fld Try.underlying74 ht
  have hC : Try.prog.cellsOf 74 = 7 := by kernel_rfl
  rw [hC] at hcl
  obtain ⟨c0, c1, c2, c3, c4, c5, c6, rfl⟩ : ∃ a b c d e f g, l = [a, b, c, d, e, f, g] := by
    match l, hcl with
    | [a, b, c, d, e, f, g], _ => exact ⟨a, b, c, d, e, f, g, rfl⟩
  obtain ⟨y0, t0⟩ := hg 0 _ rfl
  obtain ⟨y1, t1⟩ := hg 1 _ rfl
  obtain ⟨y2, t2⟩ := hg 2 _ rfl
  obtain ⟨y3, t3⟩ := hg 3 _ rfl
  obtain ⟨y4, t4⟩ := hg 4 _ rfl
  obtain ⟨y5, t5⟩ := hg 5 _ rfl
  obtain ⟨y6, t6⟩ := hg 6 _ rfl
  replace t0 := part (k := 1) (t := 3) (off := 0) (ys := [c0]) (by kernel_rfl) t0 rfl
  replace t1 := part (k := 1) (t := 3) (off := 1) (ys := [c1]) (by kernel_rfl) t1 rfl
  replace t2 := part (k := 1) (t := 3) (off := 2) (ys := [c2]) (by kernel_rfl) t2 rfl
  replace t3 := part (k := 1) (t := 3) (off := 3) (ys := [c3]) (by kernel_rfl) t3 rfl
  replace t4 := part (k := 1) (t := 70) (off := 4) (ys := [c4]) (by kernel_rfl) t4 rfl
  replace t5 := part (k := 1) (t := 71) (off := 5) (ys := [c5]) (by kernel_rfl) t5 rfl
  replace t6 := part (k := 1) (t := 72) (off := 6) (ys := [c6]) (by kernel_rfl) t6 rfl
  clear hg
  obtain ⟨i0, e0, _, _⟩ := DataW.trod_int Try.underlying3 t0
  obtain ⟨i1, e1, _, _⟩ := DataW.trod_int Try.underlying3 t1
  obtain ⟨i2, e2, _, _⟩ := DataW.trod_int Try.underlying3 t2
  obtain ⟨i3, e3, _, _⟩ := DataW.trod_int Try.underlying3 t3
  obtain ⟨A4, m4, k4, l4, e4, q4, h4, p4, f4⟩ := rows_ofK (v := c4) paneL (fun s => RdT W W.heap.size s.t ∧ LenP s) 41 Try.underlying70 (by kernel_rfl) (by decide) t4 (fun m cs y hy => pane_cells hy)
  obtain ⟨A5, m5, k5, l5, e5, q5, h5, p5, f5⟩ := rows_ofK (v := c5) winL (fun s => Tr.RdN W W.heap.size s.tA s.tree ∧ LenW s) 5 Try.underlying71 (by kernel_rfl) (by decide) t5 (fun m cs y hy => win_cells hy)
  obtain ⟨A6, m6, k6, l6, e6, q6, h6, p6, f6⟩ := rows_ofK (v := c6) sessL (fun s => RdI W W.heap.size s.wA s.wins ∧ LenE s) 3 Try.underlying72 (by kernel_rfl) (by decide) t6 (fun m cs y hy => sess_cells hy)
  simp only [List.cons.injEq, and_true] at e0 e1 e2 e3
  subst e0 e1 e2 e3 e4 e5 e6 h4 h5 h6
  exact ⟨⟨i0, i1, i2, i3, A4, k4, l4, A5, k5, l5, A6, k6, l6⟩, rfl, ⟨f4, fun s hs => (p4 s hs).1, f5, fun s hs => (p5 s hs).1, f6, fun s hs => (p6 s hs).1⟩, ⟨Nat.le_trans q4 max64, fun s hs => (p4 s hs).2, Nat.le_trans q5 max64, fun s hs => (p5 s hs).2, Nat.le_trans q6 max64, fun s hs => (p6 s hs).2⟩⟩
end Go.Proofs.Ytkinkdgnephcbaa.Opens
