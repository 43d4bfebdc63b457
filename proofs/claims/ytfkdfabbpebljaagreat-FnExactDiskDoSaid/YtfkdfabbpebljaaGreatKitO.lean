/- Texts that lay in modules of their own: OpenBytes, OpenFld, OpenRows, OpenDisk, Open. -/
import Derived.Test.YtfkdfabbpebljaaGreatKitA
import Derived.WalkKit
import Derived.ProofKit
import Derived.OpenShut
import Derived.ShutString
import Derived.ChangeOld
import Derived.Below
import Derived.Lib.SmallJoins
import Derived.Test.YtfkdfabbpebljaaGreatRows
import Derived.Deep.Slices
import Derived.Deep.Fields
import Derived.ChangeSame
import Derived.Test.YtfkdfabbpebljaaGreatEqDisk
namespace Go.Proofs.YtfkdfabbpebljaaGreat.Opens
open Go.ChangeShapes Go.WideShapes Go.ChangeAt Go.RowKit Go.Joins Go.Deep
open Go.Proofs.YtfkdfabbpebljaaGreat.Bytes
set_option linter.unusedVariables false
variable {H : Type} {enc : TypeId × Value → H} {W : World} {base : Nat} {spare : Nat → Bool} {held : Bool}

theorem open_bytes {fuel : Nat} {v : Value} {x : DataW H × List MemPlace} (hw : DataW.trod enc Tryz.prog W base (fun _ => true) held fuel 27 [v] = some x) :
    ∃ A n c zs, v = .slice A n c ∧ IsRow .u8 W A n c zs := by
  rcases open_ints Tryz.underlying27 Tryz.underlying5 (by kernel_rfl) hw with ⟨hcs, _⟩ | ⟨a, l, c, zs, hcs, _, hl, hm, hz, _, hcell, hwz⟩
  · simp at hcs
    exact ⟨none, 0, 0, [], hcs, .inl ⟨rfl, rfl, rfl, rfl⟩⟩
  · simp at hcs
    exact ⟨some a, l, c, zs, hcs, .inr ⟨_, rfl, hl, hm, by simpa using hz, hcell, hwz⟩⟩

end Go.Proofs.YtfkdfabbpebljaaGreat.Opens
namespace Go.Proofs.YtfkdfabbpebljaaGreat.Opens
open Go.ChangeShapes Go.WideShapes Go.ChangeAt Go.RowKit Go.Joins Go.Deep
set_option linter.unusedVariables false
section
variable {H : Type} {enc : TypeId × Value → H} {P : Program} {w : World} {base : Nat} {held : Bool} {spare : Nat → Bool}
/-- a field of one cell among the cells of its struct -/
theorem one_at (l : List Value) (j : Nat) (h : j < l.length) : (l.drop j).take 1 = [l[j]] := by
  rw [List.drop_eq_getElem_cons h]; rfl
/-- every field of a struct that came in by value reads as its type says -/
theorem fields_of {r : Reach} {b0 : Nat} {t : TypeId} {fs : Array Field} {v : Value} {d : DataW H} {p : List MemPlace} (hs : P.underlying t = some (.struct fs)) (hone : oneCellFields P fs = true) (hC : P.cellsOf t = fs.size)
    (hv : Value.okWide P w r b0 t v) (h : DataW.Trod enc P w base spare held t v d p) :
    ∃ (cs : Array Value) (n : Nat), v = .agg cs ∧ cs.size = fs.size ∧ ∀ (j : Nat) (f : Field), fs[j]? = some f → ∃ c y, cs[j]? = some c ∧ DataW.trod enc P w base spare held n f.type [c] = some y := by
  obtain ⟨cs, rfl, hsz⟩ := okWide_struct hs hv
  obtain ⟨fuel, hf⟩ := h
  obtain ⟨xs, n, _, _, _, hlen, hg⟩ := DataW.trod_struct hs hf
  have hsz' := hsz.trans hC
  refine ⟨cs, n, rfl, hsz', fun j f hj => ?_⟩
  have hjl : j < fs.size := (Array.getElem?_eq_some_iff.1 hj).1
  obtain ⟨ho, hk⟩ := hone_of hone j f hj
  have h1 := hg j f hj
  rw [ho, hk] at h1
  have e : ((Value.agg cs).cells.toList.drop j).take 1 = [cs[j]'(by omega)] := one_at cs.toList j (by rw [Array.length_toList]; omega)
  rw [e, List.getElem?_eq_getElem (show j < xs.length by omega)] at h1
  exact ⟨_, _, Array.getElem?_eq_getElem (show j < cs.size by omega), h1⟩
end
end Go.Proofs.YtfkdfabbpebljaaGreat.Opens
namespace Go.Proofs.YtfkdfabbpebljaaGreat.Opens
open Go.ChangeShapes Go.WideShapes Go.ChangeAt Go.RowKit Go.Joins Go.Deep
open Go.Proofs.YtfkdfabbpebljaaGreat.Bytes Go.Proofs.YtfkdfabbpebljaaGreat.Rows_
set_option linter.unusedVariables false
section
variable {H : Type} {enc : TypeId × Value → H} {P : Program} {w : World} {base : Nat} {held : Bool} {spare : Nat → Bool}
/-- a choice at each place of a row -/
theorem list_of {α : Type} (Q : Nat → α → Prop) : ∀ (n : Nat), (∀ i, i < n → ∃ x, Q i x) → ∃ l : List α, l.length = n ∧ ∀ i x, l[i]? = some x → Q i x
  | 0, _ => ⟨[], rfl, fun i x h => by simp at h⟩
  | n + 1, h => by
    obtain ⟨l, hl, hq⟩ := list_of Q n (fun i hi => h i (by omega))
    obtain ⟨x, hx⟩ := h n (by omega)
    refine ⟨l ++ [x], by simp [hl], fun i y hy => ?_⟩
    by_cases hi : i < l.length
    · rw [List.getElem?_append_left hi] at hy; exact hq i y hy
    · rw [List.getElem?_append_right (by omega)] at hy
      obtain rfl : i = n := by
        have := (List.getElem?_eq_some_iff.1 hy).1
        simp at this; omega
      rw [show i - l.length = 0 by omega] at hy
      simp at hy; rw [← hy]; exact hx
/-- a slice of structs that came in, as a list of data: 'R' lays a datum out, 'Q' is what holds of each -/
theorem rows_of {α : Type} (R : α → List Value) (Q : α → Prop) {t e : TypeId} {fs : Array Field} {fuel : Nat} {v : Value} {x : DataW H × List MemPlace} (ht : P.underlying t = some (.slice e)) (he : P.underlying e = some (.struct fs))
    (hone : oneCellFields P fs = true) (hC : P.cellsOf e = fs.size) (hK : 0 < fs.size) (h : DataW.trod enc P w base (fun _ => true) held fuel t [v] = some x)
    (step : ∀ (at_ : Nat → Option Value), (∀ (j : Nat) (f : Field), fs[j]? = some f → ∃ u m y, at_ j = some u ∧ DataW.trod enc P w base (fun _ => true) held m f.type [u] = some y) → ∃ z, Q z ∧ ∀ j u, (R z)[j]? = some u → at_ j = some u) :
    ∃ (A : Option Addr) (n c : Nat) (l : List α), v = .slice A n c ∧ n ≤ maxLen ∧ l.length = n ∧ (∀ z ∈ l, Q z) ∧ RdK fs.size w w.heap.size A (l.map R) := by
  rcases open_slice ht h with ⟨h0, _⟩ | ⟨a, n, c, m, k, D, Pl, h0, _, hnc, hc, hm, _, hx⟩
  · obtain rfl : v = .slice none 0 0 := by simpa using h0
    exact ⟨none, 0, 0, [], rfl, Nat.zero_le _, rfl, fun z hz => by simp at hz, fun hn => by simp at hn⟩
  · obtain rfl : v = .slice (some a) n c := by simpa using h0
    have hmn : n ≤ m := by rw [hm]; simp; exact hnc
    have hcell : ∀ i, i < n → ∀ (j : Nat) (f : Field), fs[j]? = some f → ∃ u m y, w.cell? (a.add (i * fs.size + j)) = some u ∧ DataW.trod enc P w base (fun _ => true) held m f.type [u] = some y := by
      intro i hi j f hj
      obtain ⟨cs, hcs, ht'⟩ := hx i (by omega)
      rw [hC] at hcs
      obtain ⟨_, hcl, hat⟩ := World.cells?_some hcs
      obtain ⟨xs, q, _, _, _, hlen, hg⟩ := DataW.trod_struct he ht'
      have hjl : j < fs.size := (Array.getElem?_eq_some_iff.1 hj).1
      obtain ⟨ho, hk⟩ := hone_of hone j f hj
      have h1 := hg j f hj
      rw [ho, hk, one_at cs j (by omega), List.getElem?_eq_getElem (show j < xs.length by omega)] at h1
      refine ⟨cs[j]'(by omega), q, _, ?_, h1⟩
      rw [← Go.Deep.add_add, hat j hjl, List.getElem?_eq_getElem (show j < cs.length by omega)]
    obtain ⟨l, hl, hq⟩ := list_of (fun i z => Q z ∧ ∀ j u, (R z)[j]? = some u → w.cell? (a.add (i * fs.size + j)) = some u) n (fun i hi => step (fun j => w.cell? (a.add (i * fs.size + j))) (hcell i hi))
    refine ⟨some a, n, c, l, rfl, Nat.le_trans hnc hc, hl, fun z hz => ?_, fun hn => ?_⟩
    · obtain ⟨i, hi, rfl⟩ := List.mem_iff_getElem.1 hz
      exact (hq i _ (List.getElem?_eq_getElem hi)).1
    · have hn' : 0 < n := by simp at hn; omega
      obtain ⟨u, _, _, hu, _⟩ := hcell 0 hn' 0 _ (Array.getElem?_eq_getElem hK)
      obtain ⟨b, o, spot⟩ := a
      have hspot : spot = none := by simpa [Addr.add] using World.cell?_spot hu
      subst hspot
      refine ⟨b, o, rfl, by simpa [Addr.add] using World.block_lt_of_cell? w _ hu, fun i r hr j u hu => ?_⟩
      rw [List.getElem?_map] at hr
      obtain ⟨z, hz, rfl⟩ := Option.map_eq_some_iff.1 hr
      have := (hq i z hz).2 j u hu
      rw [Addr.add_lit] at this
      rw [Nat.add_assoc]; exact this
end

end Go.Proofs.YtfkdfabbpebljaaGreat.Opens
namespace Go.Proofs.YtfkdfabbpebljaaGreat.Opens
open Go.ChangeShapes Go.WideShapes Go.ChangeAt Go.RowKit Go.Joins Go.Deep
open Go.Proofs.YtfkdfabbpebljaaGreat.Bytes Go.Proofs.YtfkdfabbpebljaaGreat.Rows_ Go.Proofs.YtfkdfabbpebljaaGreat.DOk
set_option linter.unusedVariables false
variable {H : Type} {enc : TypeId × Value → H} {W : World} {base : Nat} {held : Bool}
/-- a disk that came in -/
def DiskIn (W : World) (F : Option Addr) (nf : Nat) (K : Option Addr) (nk : Nat) (T : Option Addr) (nt : Nat) (fs : List FileD) (ks : List LinkD) (ts : List TurnD) : Prop :=
  (RdF W W.heap.size F fs ∧ fs.length = nf ∧ nf ≤ 9223372036854775807 ∧ RdB W W.heap.size fs ∧ ∀ x ∈ fs, x.n ≤ 9223372036854775807 ∧ (Lit.int .i64 x.id).wf = true) ∧
  (RdL W W.heap.size K ks ∧ ks.length = nk ∧ nk ≤ 9223372036854775807 ∧ ∀ x ∈ ks, x.1.size ≤ maxLen ∧ (Lit.int .i64 x.2).wf = true) ∧
  (RdT W W.heap.size T ts ∧ ts.length = nt ∧ nt ≤ 9223372036854775807 ∧ ∀ x ∈ ts, x.name.size ≤ maxLen ∧ x.to_.size ≤ maxLen ∧ (Lit.int .i64 x.id).wf = true)
theorem max63 : maxLen ≤ 9223372036854775807 := by unfold maxLen; omega

set_option maxRecDepth 100000 in
theorem open_files {fuel : Nat} {v : Value} {x : DataW H × List MemPlace} (h : DataW.trod enc Tryz.prog W base (fun _ => true) held fuel 22 [v] = some x) :
    ∃ (A : Option Addr) (n c : Nat) (l : List FileD), v = .slice A n c ∧ n ≤ maxLen ∧ l.length = n ∧ (∀ z ∈ l, z.n ≤ maxLen ∧ (Lit.int .i64 z.id).wf = true ∧ Rd W W.heap.size z.A z.bytes ∧ z.bytes.length = z.n) ∧ RdF W W.heap.size A l := by
  refine rows_of fileR _ Tryz.underlying22 Tryz.underlying79 (by kernel_rfl) (by kernel_rfl) (by decide) h (fun at_ ha => ?_)
  obtain ⟨u0, m0, y0, c0, t0⟩ := ha 0 _ rfl
  obtain ⟨u1, m1, y1, c1, t1⟩ := ha 1 _ rfl
  obtain ⟨u2, m2, y2, c2, t2⟩ := ha 2 _ rfl
  obtain ⟨i0, e0, _, g0⟩ := DataW.trod_int Tryz.underlying3 t0
  obtain ⟨i2, e2, _, g2⟩ := DataW.trod_int Tryz.underlying3 t2
  obtain ⟨A, n, c, zs, rfl, hr⟩ := open_bytes t1
  simp at e0 e2
  subst e0 e2
  have hn : n ≤ maxLen := by
    rcases hr with ⟨_, h, _⟩ | ⟨_, _, h, h', _⟩ <;> omega
  obtain ⟨hrd, hrl, _, _⟩ := hr.open_
  refine ⟨⟨i0, A, n, c, i2, zs.take n⟩, ⟨hn, g0, hrd, hrl⟩, fun j u hu => ?_⟩
  rcases j with _ | _ | _ | j <;> simp [fileR] at hu <;> subst hu <;> assumption

set_option maxRecDepth 100000 in
theorem open_links {fuel : Nat} {v : Value} {x : DataW H × List MemPlace} (h : DataW.trod enc Tryz.prog W base (fun _ => true) held fuel 23 [v] = some x) :
    ∃ (A : Option Addr) (n c : Nat) (l : List LinkD), v = .slice A n c ∧ n ≤ maxLen ∧ l.length = n ∧ (∀ z ∈ l, z.1.size ≤ maxLen ∧ (Lit.int .i64 z.2).wf = true) ∧ RdL W W.heap.size A l := by
  refine rows_of linkR _ Tryz.underlying23 Tryz.underlying82 (by kernel_rfl) (by kernel_rfl) (by decide) h (fun at_ ha => ?_)
  obtain ⟨u0, m0, y0, c0, t0⟩ := ha 0 _ rfl
  obtain ⟨u1, m1, y1, c1, t1⟩ := ha 1 _ rfl
  obtain ⟨s0, e0, _, g0⟩ := DataW.trod_string Tryz.underlying9 t0
  obtain ⟨i1, e1, _, g1⟩ := DataW.trod_int Tryz.underlying3 t1
  simp at e0 e1
  subst e0 e1
  refine ⟨(s0, i1), ⟨g0, g1⟩, fun j u hu => ?_⟩
  rcases j with _ | _ | j <;> simp [linkR] at hu <;> subst hu <;> assumption

set_option maxRecDepth 100000 in
theorem open_turns {fuel : Nat} {v : Value} {x : DataW H × List MemPlace} (h : DataW.trod enc Tryz.prog W base (fun _ => true) held fuel 24 [v] = some x) :
    ∃ (A : Option Addr) (n c : Nat) (l : List TurnD), v = .slice A n c ∧ n ≤ maxLen ∧ l.length = n ∧ (∀ z ∈ l, z.name.size ≤ maxLen ∧ z.to_.size ≤ maxLen ∧ (Lit.int .i64 z.id).wf = true) ∧ RdT W W.heap.size A l := by
  refine rows_of turnR _ Tryz.underlying24 Tryz.underlying84 (by kernel_rfl) (by kernel_rfl) (by decide) h (fun at_ ha => ?_)
  obtain ⟨u0, m0, y0, c0, t0⟩ := ha 0 _ rfl
  obtain ⟨u1, m1, y1, c1, t1⟩ := ha 1 _ rfl
  obtain ⟨u2, m2, y2, c2, t2⟩ := ha 2 _ rfl
  obtain ⟨u3, m3, y3, c3, t3⟩ := ha 3 _ rfl
  obtain ⟨i0, e0, _, g0⟩ := DataW.trod_int Tryz.underlying3 t0
  obtain ⟨s1, e1, _, g1⟩ := DataW.trod_string Tryz.underlying9 t1
  obtain ⟨s2, e2, _, g2⟩ := DataW.trod_string Tryz.underlying9 t2
  obtain ⟨i3, e3, _, g3⟩ := DataW.trod_int Tryz.underlying3 t3
  simp at e0 e1 e2 e3
  subst e0 e1 e2 e3
  refine ⟨⟨i0, s1, s2, i3⟩, ⟨g1, g2, g3⟩, fun j u hu => ?_⟩
  rcases j with _ | _ | _ | _ | j <;> simp [turnR] at hu <;> subst hu <;> assumption

set_option maxRecDepth 100000 in
theorem open_Disk {r : Reach} {b0 : Nat} {v : Value} {d : DataW H} {p : List MemPlace} (hv : Value.okWide Tryz.prog W r b0 26 v) (h : DataW.Trod enc Tryz.prog W base (fun _ => true) held 26 v d p) :
    ∃ (room fuse next : Int) (F : Option Addr) (nf cf : Nat) (K : Option Addr) (nk ck : Nat) (T : Option Addr) (nt ct : Nat) (fs : List FileD) (ks : List LinkD) (ts : List TurnD), v = .agg #[.int .i64 room, .int .i64 fuse, .int .i64 next, .slice F nf cf, .slice K nk ck, .slice T nt ct] ∧ DiskIn W F nf K nk T nt fs ks ts := by
  obtain ⟨cs, n, rfl, hsz, ha⟩ := fields_of Tryz.underlying26 (by kernel_rfl) (by kernel_rfl) hv h
  obtain ⟨u0, y0, c0, t0⟩ := ha 0 _ rfl
  obtain ⟨u1, y1, c1, t1⟩ := ha 1 _ rfl
  obtain ⟨u2, y2, c2, t2⟩ := ha 2 _ rfl
  obtain ⟨u3, y3, c3, t3⟩ := ha 3 _ rfl
  obtain ⟨u4, y4, c4, t4⟩ := ha 4 _ rfl
  obtain ⟨u5, y5, c5, t5⟩ := ha 5 _ rfl
  obtain ⟨i0, e0, _, _⟩ := DataW.trod_int Tryz.underlying3 t0
  obtain ⟨i1, e1, _, _⟩ := DataW.trod_int Tryz.underlying3 t1
  obtain ⟨i2, e2, _, _⟩ := DataW.trod_int Tryz.underlying3 t2
  obtain ⟨F, nf, cf, fs, rfl, f1, f2, f3, f4⟩ := open_files t3
  obtain ⟨K, nk, ck, ks, rfl, k1, k2, k3, k4⟩ := open_links t4
  obtain ⟨T, nt, ct, ts, rfl, r1, r2, r3, r4⟩ := open_turns t5
  simp at e0 e1 e2
  subst e0 e1 e2
  have e : cs = #[.int .i64 i0, .int .i64 i1, .int .i64 i2, .slice F nf cf, .slice K nk ck, .slice T nt ct] := by
    apply Array.ext_getElem?
    intro j
    rcases j with _ | _ | _ | _ | _ | _ | j
    · exact c0
    · exact c1
    · exact c2
    · exact c3
    · exact c4
    · exact c5
    · rw [Array.getElem?_eq_none (by have : cs.size = 6 := hsz; omega)]; simp
  subst e
  exact ⟨i0, i1, i2, F, nf, cf, K, nk, ck, T, nt, ct, fs, ks, ts, rfl, ⟨f4, f2, Nat.le_trans f1 max63, fun x hx => (f3 x hx).2.2, fun x hx => ⟨Nat.le_trans (f3 x hx).1 max63, (f3 x hx).2.1⟩⟩, ⟨k4, k2, Nat.le_trans k1 max63, k3⟩, ⟨r4, r2, Nat.le_trans r1 max63, r3⟩⟩
end Go.Proofs.YtfkdfabbpebljaaGreat.Opens
namespace Go.Proofs.YtfkdfabbpebljaaGreat.Opens
open Go.ChangeShapes Go.WideShapes Go.ChangeAt Go.RowKit Go.Joins Go.Deep
open Go.Proofs.YtfkdfabbpebljaaGreat.Bytes
set_option linter.unusedVariables false
variable {H : Type} {enc : TypeId × Value → H} {W : World} {base : Nat} {spare : Nat → Bool} {held : Bool}

set_option maxRecDepth 100000 in
theorem open_DiskOp {r : Reach} {b0 : Nat} {v : Value} {d : DataW H} {p : List MemPlace} (hv : Value.okWide Tryz.prog W r b0 29 v) (h : DataW.Trod enc Tryz.prog W base (fun _ => true) held 29 v d p) :
    ∃ k name to_ A n c zs, v = .agg #[.int .i64 k, .string name, .string to_, .slice A n c] ∧ name.size ≤ maxLen ∧ to_.size ≤ maxLen ∧ IsRow .u8 W A n c zs := by
  obtain ⟨v0, v1, v2, v3, y0, y1, y2, y3, m, rfl, _, _, t0, t1, t2, t3⟩ := open_agg4 Tryz.underlying29 (by kernel_rfl) (by kernel_rfl) hv h
  obtain ⟨k, e0, _, _⟩ := DataW.trod_int Tryz.underlying3 t0
  obtain ⟨s1, e1, _, h1⟩ := DataW.trod_string Tryz.underlying9 t1
  obtain ⟨s2, e2, _, h2⟩ := DataW.trod_string Tryz.underlying9 t2
  obtain ⟨A, n, c, zs, rfl, hr⟩ := open_bytes t3
  simp at e0 e1 e2
  subst e0 e1 e2
  exact ⟨_, _, _, _, _, _, _, rfl, h1, h2, hr⟩
end Go.Proofs.YtfkdfabbpebljaaGreat.Opens
