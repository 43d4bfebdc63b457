/- Opening parsers' states and acts that came in as arguments. -/
import Derived.Test.YtfdbmhelcmifoaaDoorOpenG
import Derived.Test.YtfdbmhelcmifoaaDoorOpenIntsB
namespace Go.Proofs.YtfdbmhelcmifoaaDoor.Opens
open Go.ChangeShapes Go.WideShapes Go.ChangeAt Go.RowKit Go.Joins Go.Deep
open Go.Proofs.YtfdbmhelcmifoaaDoor.Bytes Go.Proofs.YtfdbmhelcmifoaaDoor.Rows_ Go.Proofs.YtfdbmhelcmifoaaDoor.DOk
set_option linter.unusedVariables false
variable {H : Type} {enc : TypeId × Value → H} {W : World} {base : Nat} {held : Bool}
theorem ints_cell {fuel : Nat} {v : Value} {x : DataW H × List MemPlace} (hw : DataW.trod enc Tryd.prog W base (fun _ => true) held fuel 22 [v] = some x) :
    ∃ (A : Option Addr) (n c : Nat) (zs : List Int), v = .slice A n c ∧ RdI W W.heap.size A zs ∧ zs.length = n ∧ n ≤ 9223372036854775807 := by
  obtain ⟨a0, len0, cap0, z0, rfl, w0⟩ : ∃ A n c zs, v = .slice A n c ∧ IsRow .i64 W A n c zs := by
    rcases open_ints Tryd.underlying22 Tryd.underlying3 (by kernel_rfl) hw with ⟨hcs, _⟩ | ⟨a, l, c, zs, hcs, _, hl, hm, hz, _, hcell, hwz⟩
    · simp at hcs
      exact ⟨none, 0, 0, [], hcs, .inl ⟨rfl, rfl, rfl, rfl⟩⟩
    · simp at hcs
      exact ⟨some a, l, c, zs, hcs, .inr ⟨_, rfl, hl, hm, by simpa using hz, hcell, hwz⟩⟩
  obtain ⟨h1, h2, h3⟩ := rowI_open w0
  exact ⟨a0, len0, cap0, z0.take len0, rfl, h1, h2, by unfold maxLen at h3; omega⟩
theorem bytes_cell {fuel : Nat} {v : Value} {x : DataW H × List MemPlace} (hw : DataW.trod enc Tryd.prog W base (fun _ => true) held fuel 23 [v] = some x) :
    ∃ (A : Option Addr) (n c : Nat) (zs : List Int), v = .slice A n c ∧ Rd W W.heap.size A zs ∧ zs.length = n ∧ n ≤ 9223372036854775807 ∧ Rng zs := by
  obtain ⟨A, n, c, z0, rfl, w0⟩ := open_bytes hw
  have hm : n ≤ 9223372036854775807 := by
    rcases w0 with ⟨_, rfl, _, _⟩ | ⟨a, _, h1, h2, h3, _⟩
    · omega
    · unfold maxLen at h2; omega
  obtain ⟨HR, hl, hA, hrng⟩ := w0.open_
  exact ⟨A, n, c, z0.take n, rfl, HR, hl, hm, hrng⟩
/-- what a parser's state that came in holds -/
def VpIn (W : World) (A : Option Addr) (na : Nat) (zs : List Int) (P : Option Addr) (np : Nat) (bs : List Int) : Prop :=
  RdI W W.heap.size A zs ∧ zs.length = na ∧ na ≤ 9223372036854775807 ∧ Rd W W.heap.size P bs ∧ bs.length = np ∧ np ≤ 9223372036854775807 ∧ Rng bs
set_option maxRecDepth 100000 in
theorem open_Vp {r : Reach} {b0 : Nat} {v : Value} {d : DataW H} {p : List MemPlace} (hv : Value.okWide Tryd.prog W r b0 25 v) (h : DataW.Trod enc Tryd.prog W base (fun _ => true) held 25 v d p) :
    ∃ (st : Int) (mk : Bool) (A : Option Addr) (na ca : Nat) (zs : List Int) (P : Option Addr) (np cp : Nat) (bs : List Int), v = .agg #[.int .i64 st, .bool mk, .slice A na ca, .slice P np cp] ∧ (Lit.int .i64 st).wf = true ∧ VpIn W A na zs P np bs := by
  obtain ⟨ls, fuel, x, rfl, ht⟩ := top Tryd.underlying25 hv h
  obtain ⟨hcl, n, hg⟩ := fld Tryd.underlying25 ht
  have hC : Tryd.prog.cellsOf 25 = 4 := by kernel_rfl
  have eI : Tryd.prog.cellsOf 3 = 1 := by kernel_rfl
  have eB : Tryd.prog.cellsOf 4 = 1 := by kernel_rfl
  have eS : Tryd.prog.cellsOf 22 = 1 := by kernel_rfl
  have eU : Tryd.prog.cellsOf 23 = 1 := by kernel_rfl
  rw [hC] at hcl
  obtain ⟨c0, c1, c2, c3, rfl⟩ : ∃ a b c d, ls = [a, b, c, d] := by
    match ls, hcl with
    | [a, b, c, d], _ => exact ⟨a, b, c, d, rfl⟩
  obtain ⟨y0, t0⟩ := hg 0 _ rfl
  obtain ⟨y1, t1⟩ := hg 1 _ rfl
  obtain ⟨y2, t2⟩ := hg 2 _ rfl
  obtain ⟨y3, t3⟩ := hg 3 _ rfl
  replace t0 := part (t := 3) (off := 0) (ys := [c0]) eI t0 rfl
  replace t1 := part (t := 4) (off := 1) (ys := [c1]) eB t1 rfl
  replace t2 := part (t := 22) (off := 2) (ys := [c2]) eS t2 rfl
  replace t3 := part (t := 23) (off := 3) (ys := [c3]) eU t3 rfl
  obtain ⟨i0, e0, _, g0⟩ := DataW.trod_int Tryd.underlying3 t0
  obtain ⟨b1, e1⟩ := bool_ofG (c := c1) Tryd.underlying4 t1
  obtain ⟨A, na, ca, zs, e2, f1, f2, f3⟩ := ints_cell t2
  obtain ⟨P, np, cp, bs, e3, f4, f5, f6, f7⟩ := bytes_cell t3
  simp at e0
  subst e0 e1 e2 e3
  exact ⟨i0, b1, A, na, ca, zs, P, np, cp, bs, rfl, g0, f1, f2, f3, f4, f5, f6, f7⟩
end Go.Proofs.YtfdbmhelcmifoaaDoor.Opens
