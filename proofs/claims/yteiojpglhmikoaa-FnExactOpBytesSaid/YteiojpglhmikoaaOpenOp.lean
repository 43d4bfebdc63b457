/- Opening operations that came in as arguments. -/
import Derived.Test.YteiojpglhmikoaaOpenG
import Derived.Test.YteiojpglhmikoaaOpenVpB
import Derived.Test.YteiojpglhmikoaaOqIn
namespace Go.Proofs.Yteiojpglhmikoaa.Opens
open Go.ChangeShapes Go.WideShapes Go.ChangeAt Go.RowKit Go.Joins Go.Deep
open Go.Proofs.Yteiojpglhmikoaa.Bytes Go.Proofs.Yteiojpglhmikoaa.Rows_ Go.Proofs.Yteiojpglhmikoaa.Oq
set_option linter.unusedVariables false
variable {H : Type} {enc : TypeId × Value → H} {W : World} {base : Nat} {held : Bool}
set_option maxRecDepth 100000 in
theorem op_cells {fuel : Nat} {ls : List Value} {x : DataW H × List MemPlace} (ht : DataW.trod enc Try.prog W base (fun _ => true) held fuel 55 ls = some x) :
    ∃ (k a b d : Int) (nm tx dr : ByteArray) (A : Option Addr) (n c : Nat) (bs : List Int), ls = [.int .i64 k, .int .i64 a, .int .i64 b, .int .i64 d, .string nm, .string tx, .string dr, .slice A n c] ∧ OpIn W nm tx dr A n bs := by
  obtain ⟨hcl, n, hg⟩ := fld Try.underlying55 ht
  have hC : Try.prog.cellsOf 55 = 8 := by kernel_rfl
  have eI : Try.prog.cellsOf 3 = 1 := by kernel_rfl
  have eT : Try.prog.cellsOf 9 = 1 := by kernel_rfl
  have eU : Try.prog.cellsOf 22 = 1 := by kernel_rfl
  rw [hC] at hcl
  obtain ⟨c0, c1, c2, c3, c4, c5, c6, c7, rfl⟩ : ∃ a b c d e f g h, ls = [a, b, c, d, e, f, g, h] := by
    match ls, hcl with
    | [a, b, c, d, e, f, g, h], _ => exact ⟨a, b, c, d, e, f, g, h, rfl⟩
  obtain ⟨y0, t0⟩ := hg 0 _ rfl
  obtain ⟨y1, t1⟩ := hg 1 _ rfl
  obtain ⟨y2, t2⟩ := hg 2 _ rfl
  obtain ⟨y3, t3⟩ := hg 3 _ rfl
  obtain ⟨y4, t4⟩ := hg 4 _ rfl
  obtain ⟨y5, t5⟩ := hg 5 _ rfl
  obtain ⟨y6, t6⟩ := hg 6 _ rfl
  obtain ⟨y7, t7⟩ := hg 7 _ rfl
  replace t0 := part (t := 3) (off := 0) (ys := [c0]) eI t0 rfl
  replace t1 := part (t := 3) (off := 1) (ys := [c1]) eI t1 rfl
  replace t2 := part (t := 3) (off := 2) (ys := [c2]) eI t2 rfl
  replace t3 := part (t := 3) (off := 3) (ys := [c3]) eI t3 rfl
  replace t4 := part (t := 9) (off := 4) (ys := [c4]) eT t4 rfl
  replace t5 := part (t := 9) (off := 5) (ys := [c5]) eT t5 rfl
  replace t6 := part (t := 9) (off := 6) (ys := [c6]) eT t6 rfl
  replace t7 := part (t := 22) (off := 7) (ys := [c7]) eU t7 rfl
  obtain ⟨i0, e0, _, g0⟩ := DataW.trod_int Try.underlying3 t0
  obtain ⟨i1, e1, _, g1⟩ := DataW.trod_int Try.underlying3 t1
  obtain ⟨i2, e2, _, g2⟩ := DataW.trod_int Try.underlying3 t2
  obtain ⟨i3, e3, _, g3⟩ := DataW.trod_int Try.underlying3 t3
  obtain ⟨s4, e4, _, h4⟩ := DataW.trod_string Try.underlying9 t4
  obtain ⟨s5, e5, _, h5⟩ := DataW.trod_string Try.underlying9 t5
  obtain ⟨s6, e6, _, h6⟩ := DataW.trod_string Try.underlying9 t6
  obtain ⟨P, np, cp, bs, e7, f4, f5, f6, f7⟩ := bytes_cell t7
  simp at e0 e1 e2 e3 e4 e5 e6
  subst e0 e1 e2 e3 e4 e5 e6 e7
  exact ⟨i0, i1, i2, i3, s4, s5, s6, P, np, cp, bs, rfl, h4, h5, h6, f4, f5, f6, f7⟩
set_option maxRecDepth 100000 in
theorem open_Op {r : Reach} {b0 : Nat} {v : Value} {d : DataW H} {p : List MemPlace} (hv : Value.okWide Try.prog W r b0 55 v) (h : DataW.Trod enc Try.prog W base (fun _ => true) held 55 v d p) :
    ∃ (k a b d : Int) (nm tx dr : ByteArray) (A : Option Addr) (n c : Nat) (bs : List Int), v = .agg #[.int .i64 k, .int .i64 a, .int .i64 b, .int .i64 d, .string nm, .string tx, .string dr, .slice A n c] ∧ OpIn W nm tx dr A n bs := by
  obtain ⟨ls, fuel, x, rfl, ht⟩ := top Try.underlying55 hv h
  obtain ⟨k, a, b, d, nm, tx, dr, A, n, c, bs, rfl, h1⟩ := op_cells ht
  exact ⟨k, a, b, d, nm, tx, dr, A, n, c, bs, rfl, h1⟩
end Go.Proofs.Yteiojpglhmikoaa.Opens

