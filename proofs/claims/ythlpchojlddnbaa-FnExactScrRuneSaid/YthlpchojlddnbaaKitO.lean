/- Texts that lay in modules of their own: OpenG, OpenGrid, OpenScr. -/
import Derived.Test.YthlpchojlddnbaaKiA
import Derived.WalkKit
import Derived.ProofKit
import Derived.OpenShut
import Derived.ShutString
import Derived.ChangeOld
import Derived.Below
import Derived.Lib.SmallJoins
import Derived.Test.YthlpchojlddnbaaRows
import Derived.Deep.Slices
import Derived.Deep.Fields
import Derived.ChangeSame
import Derived.Test.YthlpchojlddnbaaGrC
import Derived.Test.YthlpchojlddnbaaScSz
namespace Go.Proofs.Ythlpchojlddnbaa.Opens
open Go.ChangeShapes Go.WideShapes Go.ChangeAt Go.RowKit Go.Joins Go.Deep
open Go.Proofs.Ythlpchojlddnbaa.Bytes Go.Proofs.Ythlpchojlddnbaa.Rows_
set_option linter.unusedVariables false
section
variable {H : Type} {enc : TypeId × Value → H} {P : Program} {w : World} {base : Nat} {held : Bool}
/-- the fields of a struct, each by its cells -/
theorem fld {t : TypeId} {fs : Array Field} {cs : List Value} {fuel : Nat} {x : DataW H × List MemPlace} (hs : P.underlying t = some (.struct fs)) (h : DataW.trod enc P w base (fun _ => true) held fuel t cs = some x) :
    cs.length = P.cellsOf t ∧ ∃ n, ∀ (j : Nat) (f : Field), fs[j]? = some f → ∃ y, DataW.trod enc P w base (fun _ => true) held n f.type ((cs.drop f.offset).take (P.cellsOf f.type)) = some y := by
  obtain ⟨xs, n, _, _, hcl, hlen, hg⟩ := DataW.trod_struct hs h
  refine ⟨hcl, n, fun j f hj => ?_⟩
  have hjl : j < fs.size := (Array.getElem?_eq_some_iff.1 hj).1
  have h1 := hg j f hj
  rw [List.getElem?_eq_getElem (show j < xs.length by omega)] at h1
  exact ⟨_, h1⟩
/-- a struct that came in by value, by its cells -/
theorem top {r : Reach} {b0 : Nat} {t : TypeId} {fs : Array Field} {v : Value} {d : DataW H} {p : List MemPlace} (hs : P.underlying t = some (.struct fs)) (hv : Value.okWide P w r b0 t v) (h : DataW.Trod enc P w base (fun _ => true) held t v d p) :
    ∃ (l : List Value) (fuel : Nat) (x : DataW H × List MemPlace), v = .agg l.toArray ∧ DataW.trod enc P w base (fun _ => true) held fuel t l = some x := by
  obtain ⟨cs, rfl, hsz⟩ := okWide_struct hs hv
  obtain ⟨fuel, hf⟩ := h
  exact ⟨cs.toList, fuel, _, by simp, hf⟩
theorem part {n k off : Nat} {t : TypeId} {cs ys : List Value} {y : DataW H × List MemPlace} (hk : P.cellsOf t = k) (h : DataW.trod enc P w base (fun _ => true) held n t ((cs.drop off).take (P.cellsOf t)) = some y) (e : (cs.drop off).take k = ys) : DataW.trod enc P w base (fun _ => true) held n t ys = some y := by
  rw [hk, e] at h; exact h
theorem bool_ofG {n : Nat} {t : TypeId} {c : Value} {y : DataW H × List MemPlace} (ht : P.underlying t = some .bool) (h : DataW.trod enc P w base (fun _ => true) held n t [c] = some y) : ∃ b, c = .bool b := by
  cases n with
  | zero => simp [DataW.trod] at h
  | succ n =>
    unfold DataW.trod at h
    rw [ht] at h
    cases c <;> simp at h
    exact ⟨_, rfl⟩
theorem list_ofG {α : Type} (Q : Nat → α → Prop) : ∀ (n : Nat), (∀ i, i < n → ∃ x, Q i x) → ∃ l : List α, l.length = n ∧ ∀ i x, l[i]? = some x → Q i x
  | 0, _ => ⟨[], rfl, fun i x h => by simp at h⟩
  | n + 1, h => by
    obtain ⟨l, hl, hq⟩ := list_ofG Q n (fun i hi => h i (by omega))
    obtain ⟨x, hx⟩ := h n (by omega)
    refine ⟨l ++ [x], by simp [hl], fun i y hy => ?_⟩
    by_cases hi : i < l.length
    · rw [List.getElem?_append_left hi] at hy; exact hq i y hy
    · rw [List.getElem?_append_right (by omega)] at hy
      obtain rfl : i = n := by
        have := (List.getElem?_eq_some_iff.1 hy).1
        simp at this; omega
      rw [show i - l.length = 0 by omega] at hy
      simp at hy; rw [← hy]; exact hx
/-- a slice that came in, as a list of data: 'R' lays a datum out in K cells, 'Q' is what holds of each -/
theorem rows_ofK {α : Type} (R : α → List Value) (Q : α → Prop) (K : Nat) {t e : TypeId} {fuel : Nat} {v : Value} {x : DataW H × List MemPlace} (ht : P.underlying t = some (.slice e)) (hC : P.cellsOf e = K) (hK : 0 < K)
    (h : DataW.trod enc P w base (fun _ => true) held fuel t [v] = some x)
    (step : ∀ (m : Nat) (cs : List Value) (y : DataW H × List MemPlace), DataW.trod enc P w base (fun _ => true) held m e cs = some y → ∃ z, Q z ∧ cs = R z) :
    ∃ (A : Option Addr) (n c : Nat) (l : List α), v = .slice A n c ∧ n ≤ maxLen ∧ l.length = n ∧ (∀ z ∈ l, Q z) ∧ RdK K w w.heap.size A (l.map R) := by
  rcases open_slice ht h with ⟨h0, _⟩ | ⟨a, n, c, m, k, D, Pl, h0, _, hnc, hc, hm, _, hx⟩
  · obtain rfl : v = .slice none 0 0 := by simpa using h0
    exact ⟨none, 0, 0, [], rfl, Nat.zero_le _, rfl, fun z hz => by simp at hz, fun hn => by simp at hn⟩
  · obtain rfl : v = .slice (some a) n c := by simpa using h0
    have hmn : n ≤ m := by rw [hm]; simp; exact hnc
    have hcell : ∀ i, i < n → ∃ z, Q z ∧ ∀ j u, (R z)[j]? = some u → w.cell? (a.add (i * K + j)) = some u := by
      intro i hi
      obtain ⟨cs, hcs, ht'⟩ := hx i (by omega)
      rw [hC] at hcs
      obtain ⟨_, hcl, hat⟩ := World.cells?_some hcs
      obtain ⟨z, hz, rfl⟩ := step _ _ _ ht'
      refine ⟨z, hz, fun j u hu => ?_⟩
      have hjl : j < K := by have := (List.getElem?_eq_some_iff.1 hu).1; omega
      rw [← Go.Deep.add_add, hat j hjl, hu]
    obtain ⟨l, hl, hq⟩ := list_ofG (fun i z => Q z ∧ ∀ j u, (R z)[j]? = some u → w.cell? (a.add (i * K + j)) = some u) n hcell
    refine ⟨some a, n, c, l, rfl, Nat.le_trans hnc hc, hl, fun z hz => ?_, fun hn => ?_⟩
    · obtain ⟨i, hi, rfl⟩ := List.mem_iff_getElem.1 hz
      exact (hq i _ (List.getElem?_eq_getElem hi)).1
    · have hn' : 0 < n := by simp at hn; omega
      obtain ⟨cs, hcs, ht'⟩ := hx 0 (by omega)
      rw [hC] at hcs
      obtain ⟨_, hcl, hat⟩ := World.cells?_some hcs
      have hu := hat 0 hK
      rw [List.getElem?_eq_getElem (show 0 < cs.length by omega)] at hu
      obtain ⟨b, o, spot⟩ := a
      have hspot : spot = none := by simpa [Addr.add] using World.cell?_spot hu
      subst hspot
      refine ⟨b, o, rfl, by simpa [Addr.add] using World.block_lt_of_cell? w _ hu, fun i r hr j u hu => ?_⟩
      rw [List.getElem?_map] at hr
      obtain ⟨z, hz, rfl⟩ := Option.map_eq_some_iff.1 hr
      have := (hq i z hz).2 j u hu
      rw [Addr.add_lit] at this
      rw [Nat.add_assoc]; exact this
end
end Go.Proofs.Ythlpchojlddnbaa.Opens
namespace Go.Proofs.Ythlpchojlddnbaa.Opens
open Go.ChangeShapes Go.WideShapes Go.ChangeAt Go.RowKit Go.Joins Go.Deep
open Go.Proofs.Ythlpchojlddnbaa.Bytes Go.Proofs.Ythlpchojlddnbaa.Rows_ Go.Proofs.Ythlpchojlddnbaa.Gr
set_option linter.unusedVariables false
variable {H : Type} {enc : TypeId × Value → H} {W : World} {base : Nat} {held : Bool}
def wfC (x : CellD) : Prop := (Lit.int .i64 x.r).wf = true ∧ (Lit.int .i64 x.fg).wf = true ∧ (Lit.int .i64 x.bg).wf = true
set_option maxRecDepth 100000 in
theorem attr_cells {fuel : Nat} {cs : List Value} {x : DataW H × List MemPlace} (h : DataW.trod enc Try.prog W base (fun _ => true) held fuel 26 cs = some x) :
    ∃ (fg bg : Int) (b u t : Bool), cs = [.int .i64 fg, .int .i64 bg, .bool b, .bool u, .bool t] ∧ (Lit.int .i64 fg).wf = true ∧ (Lit.int .i64 bg).wf = true := by
  obtain ⟨hcl, n, hg⟩ := fld Try.underlying26 h
  have hC : Try.prog.cellsOf 26 = 5 := by kernel_rfl
  have eI : Try.prog.cellsOf 3 = 1 := by kernel_rfl
  have eB : Try.prog.cellsOf 4 = 1 := by kernel_rfl
  rw [hC] at hcl
  obtain ⟨c0, c1, c2, c3, c4, rfl⟩ : ∃ a b c d e, cs = [a, b, c, d, e] := by
    match cs, hcl with
    | [a, b, c, d, e], _ => exact ⟨a, b, c, d, e, rfl⟩
  obtain ⟨y0, t0⟩ := hg 0 _ rfl
  obtain ⟨y1, t1⟩ := hg 1 _ rfl
  obtain ⟨y2, t2⟩ := hg 2 _ rfl
  obtain ⟨y3, t3⟩ := hg 3 _ rfl
  obtain ⟨y4, t4⟩ := hg 4 _ rfl
  replace t0 := part (t := 3) (off := 0) (ys := [c0]) eI t0 rfl
  replace t1 := part (t := 3) (off := 1) (ys := [c1]) eI t1 rfl
  replace t2 := part (t := 4) (off := 2) (ys := [c2]) eB t2 rfl
  replace t3 := part (t := 4) (off := 3) (ys := [c3]) eB t3 rfl
  replace t4 := part (t := 4) (off := 4) (ys := [c4]) eB t4 rfl
  obtain ⟨i0, e0, _, g0⟩ := DataW.trod_int Try.underlying3 t0
  obtain ⟨i1, e1, _, g1⟩ := DataW.trod_int Try.underlying3 t1
  obtain ⟨b2, e2⟩ := bool_ofG (c := c2) Try.underlying4 t2
  obtain ⟨b3, e3⟩ := bool_ofG (c := c3) Try.underlying4 t3
  obtain ⟨b4, e4⟩ := bool_ofG (c := c4) Try.underlying4 t4
  simp at e0 e1
  subst e0 e1 e2 e3 e4
  exact ⟨i0, i1, b2, b3, b4, rfl, g0, g1⟩
set_option maxRecDepth 100000 in
theorem cell_cells {fuel : Nat} {cs : List Value} {x : DataW H × List MemPlace} (h : DataW.trod enc Try.prog W base (fun _ => true) held fuel 28 cs = some x) :
    ∃ z : CellD, wfC z ∧ cs = cellR z := by
  obtain ⟨hcl, n, hg⟩ := fld Try.underlying28 h
  have hC : Try.prog.cellsOf 28 = 6 := by kernel_rfl
  have eI : Try.prog.cellsOf 3 = 1 := by kernel_rfl
  have eA : Try.prog.cellsOf 26 = 5 := by kernel_rfl
  rw [hC] at hcl
  obtain ⟨c0, c1, c2, c3, c4, c5, rfl⟩ : ∃ a b c d e f, cs = [a, b, c, d, e, f] := by
    match cs, hcl with
    | [a, b, c, d, e, f], _ => exact ⟨a, b, c, d, e, f, rfl⟩
  obtain ⟨y0, t0⟩ := hg 0 _ rfl
  obtain ⟨y1, t1⟩ := hg 1 _ rfl
  replace t0 := part (t := 3) (off := 0) (ys := [c0]) eI t0 rfl
  replace t1 := part (t := 26) (off := 1) (ys := [c1, c2, c3, c4, c5]) eA t1 rfl
  obtain ⟨i0, e0, _, g0⟩ := DataW.trod_int Try.underlying3 t0
  obtain ⟨fg, bg, b, u, t, e1, g1, g2⟩ := attr_cells t1
  simp at e0 e1
  obtain ⟨rfl, rfl, rfl, rfl, rfl⟩ := e1
  subst e0
  exact ⟨⟨i0, fg, bg, b, u, t⟩, ⟨g0, g1, g2⟩, rfl⟩
set_option maxRecDepth 100000 in
theorem open_Cell {r : Reach} {b0 : Nat} {v : Value} {d : DataW H} {p : List MemPlace} (hv : Value.okWide Try.prog W r b0 28 v) (h : DataW.Trod enc Try.prog W base (fun _ => true) held 28 v d p) :
    ∃ (r fg bg : Int) (b u t : Bool), v = .agg #[.int .i64 r, .int .i64 fg, .int .i64 bg, .bool b, .bool u, .bool t] ∧ (Lit.int .i64 r).wf = true ∧ (Lit.int .i64 fg).wf = true ∧ (Lit.int .i64 bg).wf = true := by
  obtain ⟨l, fuel, x, rfl, ht⟩ := top Try.underlying28 hv h
  obtain ⟨z, hz, rfl⟩ := cell_cells ht
  exact ⟨z.r, z.fg, z.bg, z.b, z.u, z.t, rfl, hz⟩
/-- a grid that came in -/
def GridIn (W : World) (C : Option Addr) (n : Nat) (cs : List CellD) : Prop := RdC W W.heap.size C cs ∧ cs.length = n ∧ n ≤ 9223372036854775807 ∧ ∀ x ∈ cs, wfC x
set_option maxRecDepth 100000 in
theorem grid_cells {fuel : Nat} {ls : List Value} {x : DataW H × List MemPlace} (h : DataW.trod enc Try.prog W base (fun _ => true) held fuel 24 ls = some x) :
    ∃ (gw gh : Int) (C : Option Addr) (n c : Nat) (cs : List CellD), ls = [.int .i64 gw, .int .i64 gh, .slice C n c] ∧ (Lit.int .i64 gw).wf = true ∧ (Lit.int .i64 gh).wf = true ∧ GridIn W C n cs := by
  obtain ⟨hcl, n, hg⟩ := fld Try.underlying24 h
  have hC : Try.prog.cellsOf 24 = 3 := by kernel_rfl
  have eI : Try.prog.cellsOf 3 = 1 := by kernel_rfl
  have eS : Try.prog.cellsOf 22 = 1 := by kernel_rfl
  rw [hC] at hcl
  obtain ⟨c0, c1, c2, rfl⟩ : ∃ a b c, ls = [a, b, c] := by
    match ls, hcl with
    | [a, b, c], _ => exact ⟨a, b, c, rfl⟩
  obtain ⟨y0, t0⟩ := hg 0 _ rfl
  obtain ⟨y1, t1⟩ := hg 1 _ rfl
  obtain ⟨y2, t2⟩ := hg 2 _ rfl
  replace t0 := part (t := 3) (off := 0) (ys := [c0]) eI t0 rfl
  replace t1 := part (t := 3) (off := 1) (ys := [c1]) eI t1 rfl
  replace t2 := part (t := 22) (off := 2) (ys := [c2]) eS t2 rfl
  obtain ⟨i0, e0, _, g0⟩ := DataW.trod_int Try.underlying3 t0
  obtain ⟨i1, e1, _, g1⟩ := DataW.trod_int Try.underlying3 t1
  obtain ⟨C, m, c, l, e2, hm, hl, hq, hr⟩ := rows_ofK (v := c2) cellR wfC 6 Try.underlying22 (by kernel_rfl) (by decide) t2 (fun m cs y hy => cell_cells hy)
  simp at e0 e1
  subst e0 e1 e2
  exact ⟨i0, i1, C, m, c, l, rfl, g0, g1, hr, hl, by unfold maxLen at hm; omega, hq⟩
set_option maxRecDepth 100000 in
theorem open_Grid {r : Reach} {b0 : Nat} {v : Value} {d : DataW H} {p : List MemPlace} (hv : Value.okWide Try.prog W r b0 24 v) (h : DataW.Trod enc Try.prog W base (fun _ => true) held 24 v d p) :
    ∃ (gw gh : Int) (C : Option Addr) (n c : Nat) (cs : List CellD), v = .agg #[.int .i64 gw, .int .i64 gh, .slice C n c] ∧ (Lit.int .i64 gw).wf = true ∧ (Lit.int .i64 gh).wf = true ∧ GridIn W C n cs := by
  obtain ⟨l, fuel, x, rfl, ht⟩ := top Try.underlying24 hv h
  obtain ⟨gw, gh, C, n, c, cs, rfl, hh⟩ := grid_cells ht
  exact ⟨gw, gh, C, n, c, cs, rfl, hh⟩
end Go.Proofs.Ythlpchojlddnbaa.Opens
namespace Go.Proofs.Ythlpchojlddnbaa.Opens
open Go.ChangeShapes Go.WideShapes Go.ChangeAt Go.RowKit Go.Joins Go.Deep
open Go.Proofs.Ythlpchojlddnbaa.Bytes Go.Proofs.Ythlpchojlddnbaa.Rows_ Go.Proofs.Ythlpchojlddnbaa.RowK Go.Proofs.Ythlpchojlddnbaa.Gr Go.Proofs.Ythlpchojlddnbaa.DOk Go.Proofs.Ythlpchojlddnbaa.Sc
set_option linter.unusedVariables false
variable {H : Type} {enc : TypeId × Value → H} {W : World} {base : Nat} {held : Bool}
theorem rdI_of {w : World} {B : Nat} {A : Option Addr} {zs : List Int} (h : RdK 1 w B A (zs.map fun z => [Value.int .i64 z])) : RdI w B A zs := fun hn => by
  obtain ⟨b, o, e, lt, hc⟩ := h (by simpa using hn)
  refine ⟨b, o, e, lt, fun k hk => ?_⟩
  have := hc k [Value.int .i64 zs[k]] (by simp [hk]) 0 _ rfl
  simpa using this
def RowIn (W : World) (x : SlC) : Prop := RdC W W.heap.size x.A x.cs ∧ x.cs.length ≤ 9223372036854775807
set_option maxRecDepth 100000 in
theorem row_cells {fuel : Nat} {ls : List Value} {x : DataW H × List MemPlace} (h : DataW.trod enc Try.prog W base (fun _ => true) held fuel 113 ls = some x) :
    ∃ z : SlC, RowIn W z ∧ ls = rowR z := by
  obtain ⟨hcl, n, hg⟩ := fld Try.underlying113 h
  have hC : Try.prog.cellsOf 113 = 1 := by kernel_rfl
  have eS : Try.prog.cellsOf 22 = 1 := by kernel_rfl
  rw [hC] at hcl
  obtain ⟨c0, rfl⟩ : ∃ a, ls = [a] := by
    match ls, hcl with
    | [a], _ => exact ⟨a, rfl⟩
  obtain ⟨y0, t0⟩ := hg 0 _ rfl
  replace t0 := part (t := 22) (off := 0) (ys := [c0]) eS t0 rfl
  obtain ⟨C, m, c, l, e2, hm, hl, hq, hr⟩ := rows_ofK (v := c0) cellR wfC 6 Try.underlying22 (by kernel_rfl) (by decide) t0 (fun m cs y hy => cell_cells hy)
  subst e2 hl
  exact ⟨⟨C, c, l⟩, ⟨hr, by unfold maxLen at hm; omega⟩, rfl⟩
set_option maxRecDepth 100000 in
set_option maxHeartbeats 1600000 in
theorem scr_cells {fuel : Nat} {l : List Value} {x : DataW H × List MemPlace} (ht : DataW.trod enc Try.prog W base (fun _ => true) held fuel 49 l = some x) :
    ∃ s : ScrS, l = scrL s ∧ RdS W W.heap.size s ∧ LenS s := by
  obtain ⟨hcl, n, hg⟩ := fld Try.underlying49 ht
  have hC : Try.prog.cellsOf 49 = 31 := by kernel_rfl
  have eI : Try.prog.cellsOf 3 = 1 := by kernel_rfl
  have eB : Try.prog.cellsOf 4 = 1 := by kernel_rfl
  have eG : Try.prog.cellsOf 24 = 3 := by kernel_rfl
  have eA : Try.prog.cellsOf 26 = 5 := by kernel_rfl
  have eT : Try.prog.cellsOf 46 = 1 := by kernel_rfl
  have eR : Try.prog.cellsOf 47 = 1 := by kernel_rfl
  rw [hC] at hcl
  obtain ⟨c0, c1, c2, c3, c4, c5, c6, c7, c8, c9, c10, c11, c12, c13, c14, c15, c16, c17, c18, c19, c20, c21, c22, c23, c24, c25, c26, c27, c28, c29, c30, rfl⟩ : ∃ a0 a1 a2 a3 a4 a5 a6 a7 a8 a9 a10 a11 a12 a13 a14 a15 a16 a17 a18 a19 a20 a21 a22 a23 a24 a25 a26 a27 a28 a29 a30, l = [a0, a1, a2, a3, a4, a5, a6, a7, a8, a9, a10, a11, a12, a13, a14, a15, a16, a17, a18, a19, a20, a21, a22, a23, a24, a25, a26, a27, a28, a29, a30] := by
    match l, hcl with
    | [a0, a1, a2, a3, a4, a5, a6, a7, a8, a9, a10, a11, a12, a13, a14, a15, a16, a17, a18, a19, a20, a21, a22, a23, a24, a25, a26, a27, a28, a29, a30], _ => exact ⟨a0, a1, a2, a3, a4, a5, a6, a7, a8, a9, a10, a11, a12, a13, a14, a15, a16, a17, a18, a19, a20, a21, a22, a23, a24, a25, a26, a27, a28, a29, a30, rfl⟩
  obtain ⟨y0, t0⟩ := hg 0 _ rfl
  replace t0 := part (t := 3) (off := 0) (ys := [c0]) eI t0 rfl
  obtain ⟨y1, t1⟩ := hg 1 _ rfl
  replace t1 := part (t := 3) (off := 1) (ys := [c1]) eI t1 rfl
  obtain ⟨y2, t2⟩ := hg 2 _ rfl
  replace t2 := part (t := 24) (off := 2) (ys := [c2, c3, c4]) eG t2 rfl
  obtain ⟨y3, t3⟩ := hg 3 _ rfl
  replace t3 := part (t := 24) (off := 5) (ys := [c5, c6, c7]) eG t3 rfl
  obtain ⟨y4, t4⟩ := hg 4 _ rfl
  replace t4 := part (t := 4) (off := 8) (ys := [c8]) eB t4 rfl
  obtain ⟨y5, t5⟩ := hg 5 _ rfl
  replace t5 := part (t := 3) (off := 9) (ys := [c9]) eI t5 rfl
  obtain ⟨y6, t6⟩ := hg 6 _ rfl
  replace t6 := part (t := 3) (off := 10) (ys := [c10]) eI t6 rfl
  obtain ⟨y7, t7⟩ := hg 7 _ rfl
  replace t7 := part (t := 4) (off := 11) (ys := [c11]) eB t7 rfl
  obtain ⟨y8, t8⟩ := hg 8 _ rfl
  replace t8 := part (t := 26) (off := 12) (ys := [c12, c13, c14, c15, c16]) eA t8 rfl
  obtain ⟨y9, t9⟩ := hg 9 _ rfl
  replace t9 := part (t := 3) (off := 17) (ys := [c17]) eI t9 rfl
  obtain ⟨y10, t10⟩ := hg 10 _ rfl
  replace t10 := part (t := 3) (off := 18) (ys := [c18]) eI t10 rfl
  obtain ⟨y11, t11⟩ := hg 11 _ rfl
  replace t11 := part (t := 4) (off := 19) (ys := [c19]) eB t11 rfl
  obtain ⟨y12, t12⟩ := hg 12 _ rfl
  replace t12 := part (t := 4) (off := 20) (ys := [c20]) eB t12 rfl
  obtain ⟨y13, t13⟩ := hg 13 _ rfl
  replace t13 := part (t := 3) (off := 21) (ys := [c21]) eI t13 rfl
  obtain ⟨y14, t14⟩ := hg 14 _ rfl
  replace t14 := part (t := 3) (off := 22) (ys := [c22]) eI t14 rfl
  obtain ⟨y15, t15⟩ := hg 15 _ rfl
  replace t15 := part (t := 26) (off := 23) (ys := [c23, c24, c25, c26, c27]) eA t15 rfl
  obtain ⟨y16, t16⟩ := hg 16 _ rfl
  replace t16 := part (t := 46) (off := 28) (ys := [c28]) eT t16 rfl
  obtain ⟨y17, t17⟩ := hg 17 _ rfl
  replace t17 := part (t := 3) (off := 29) (ys := [c29]) eI t17 rfl
  obtain ⟨y18, t18⟩ := hg 18 _ rfl
  replace t18 := part (t := 47) (off := 30) (ys := [c30]) eR t18 rfl
  clear hg
  obtain ⟨i0, e0, _, _⟩ := DataW.trod_int Try.underlying3 t0
  simp only [List.cons.injEq, and_true] at e0
  subst e0
  obtain ⟨i1, e1, _, _⟩ := DataW.trod_int Try.underlying3 t1
  simp only [List.cons.injEq, and_true] at e1
  subst e1
  obtain ⟨gw2, gh2, C2, n2, c2_, cs2, e2, _, _, hr2, hl2, hm2, _⟩ := grid_cells t2
  simp only [List.cons.injEq, and_true] at e2
  obtain ⟨rfl, rfl, rfl⟩ := e2
  subst hl2
  obtain ⟨gw3, gh3, C3, n3, c3_, cs3, e3, _, _, hr3, hl3, hm3, _⟩ := grid_cells t3
  simp only [List.cons.injEq, and_true] at e3
  obtain ⟨rfl, rfl, rfl⟩ := e3
  subst hl3
  obtain ⟨i4, e4⟩ := bool_ofG (c := c8) Try.underlying4 t4
  subst e4
  obtain ⟨i5, e5, _, _⟩ := DataW.trod_int Try.underlying3 t5
  simp only [List.cons.injEq, and_true] at e5
  subst e5
  obtain ⟨i6, e6, _, _⟩ := DataW.trod_int Try.underlying3 t6
  simp only [List.cons.injEq, and_true] at e6
  subst e6
  obtain ⟨i7, e7⟩ := bool_ofG (c := c11) Try.underlying4 t7
  subst e7
  obtain ⟨fg8, bg8, b8, u8, t8_, e8, _, _⟩ := attr_cells t8
  simp only [List.cons.injEq, and_true] at e8
  obtain ⟨rfl, rfl, rfl, rfl, rfl⟩ := e8
  obtain ⟨i9, e9, _, _⟩ := DataW.trod_int Try.underlying3 t9
  simp only [List.cons.injEq, and_true] at e9
  subst e9
  obtain ⟨i10, e10, _, _⟩ := DataW.trod_int Try.underlying3 t10
  simp only [List.cons.injEq, and_true] at e10
  subst e10
  obtain ⟨i11, e11⟩ := bool_ofG (c := c19) Try.underlying4 t11
  subst e11
  obtain ⟨i12, e12⟩ := bool_ofG (c := c20) Try.underlying4 t12
  subst e12
  obtain ⟨i13, e13, _, _⟩ := DataW.trod_int Try.underlying3 t13
  simp only [List.cons.injEq, and_true] at e13
  subst e13
  obtain ⟨i14, e14, _, _⟩ := DataW.trod_int Try.underlying3 t14
  simp only [List.cons.injEq, and_true] at e14
  subst e14
  obtain ⟨fg15, bg15, b15, u15, t15_, e15, _, _⟩ := attr_cells t15
  simp only [List.cons.injEq, and_true] at e15
  obtain ⟨rfl, rfl, rfl, rfl, rfl⟩ := e15
  obtain ⟨TA, tn, tc, ts, et, htm, htl, _, htr⟩ := rows_ofK (v := c28) (fun z : Int => [Value.int .i64 z]) (fun _ => True) 1 Try.underlying46 (by kernel_rfl) (by decide) t16 (fun m cs y hy => by
    obtain ⟨z, e, _, _⟩ := DataW.trod_int Try.underlying3 hy
    exact ⟨z, trivial, e⟩)
  subst et htl
  obtain ⟨i17, e17, _, _⟩ := DataW.trod_int Try.underlying3 t17
  simp only [List.cons.injEq, and_true] at e17
  subst e17
  obtain ⟨RA, rn, rc, rs, er, hrm, hrl, hrq, hrr⟩ := rows_ofK (v := c30) rowR (RowIn W) 1 Try.underlying47 (by kernel_rfl) (by decide) t18 (fun m cs y hy => row_cells hy)
  subst er hrl
  unfold maxLen at htm hrm
  exact ⟨⟨i0, i1, gw2, gh2, ⟨C2, c2_, cs2⟩, gw3, gh3, ⟨C3, c3_, cs3⟩, i4, i5, i6, i7, fg8, bg8, b8, u8, t8_, i9, i10, i11, i12, i13, i14, fg15, bg15, b15, u15, t15_, TA, tc, ts, i17, RA, rc, rs⟩, rfl, ⟨hr2, hr3, rdI_of htr, hrr, fun r hr => (hrq r hr).1⟩, ⟨by omega, by omega, by omega, by omega, fun r hr => (hrq r hr).2⟩⟩
set_option maxRecDepth 100000 in
theorem open_Scr {r : Reach} {b0 : Nat} {v : Value} {d : DataW H} {p : List MemPlace} (hv : Value.okWide Try.prog W r b0 49 v) (h : DataW.Trod enc Try.prog W base (fun _ => true) held 49 v d p) :
    ∃ s : ScrS, v = .agg (scrA s) ∧ RdS W W.heap.size s ∧ LenS s := by
  obtain ⟨l, fuel, x, rfl, ht⟩ := top Try.underlying49 hv h
  obtain ⟨s, rfl, h1, h2⟩ := scr_cells ht
  exact ⟨s, rfl, h1, h2⟩
end Go.Proofs.Ythlpchojlddnbaa.Opens
