/- Texts that lay in modules of their own: OpenBytes, OpenFld, OpenG, OpenRows, OpenIntsB, OpenVp, OpenBytesA. -/
import Derived.Test.YtfdbmhelcmifoaaDoorKiA
import Derived.WalkKit
import Derived.ProofKit
import Derived.OpenShut
import Derived.ShutString
import Derived.ChangeOld
import Derived.Below
import Derived.Lib.SmallJoins
import Derived.Test.YtfdbmhelcmifoaaDoorRows
import Derived.Deep.Slices
import Derived.Deep.Fields
import Derived.ChangeSame
import Derived.Test.YtfdbmhelcmifoaaDoorIntsB
namespace Go.Proofs.YtfdbmhelcmifoaaDoor.Opens
open Go.ChangeShapes Go.WideShapes Go.ChangeAt Go.RowKit Go.Joins Go.Deep
open Go.Proofs.YtfdbmhelcmifoaaDoor.Bytes
set_option linter.unusedVariables false
variable {H : Type} {enc : TypeId × Value → H} {W : World} {base : Nat} {spare : Nat → Bool} {held : Bool}

theorem open_bytes {fuel : Nat} {v : Value} {x : DataW H × List MemPlace} (hw : DataW.trod enc Tryd.prog W base (fun _ => true) held fuel 23 [v] = some x) :
    ∃ A n c zs, v = .slice A n c ∧ IsRow .u8 W A n c zs := by
  rcases open_ints Tryd.underlying23 Tryd.underlying5 (by kernel_rfl) hw with ⟨hcs, _⟩ | ⟨a, l, c, zs, hcs, _, hl, hm, hz, _, hcell, hwz⟩
  · simp at hcs
    exact ⟨none, 0, 0, [], hcs, .inl ⟨rfl, rfl, rfl, rfl⟩⟩
  · simp at hcs
    exact ⟨some a, l, c, zs, hcs, .inr ⟨_, rfl, hl, hm, by simpa using hz, hcell, hwz⟩⟩

end Go.Proofs.YtfdbmhelcmifoaaDoor.Opens
namespace Go.Proofs.YtfdbmhelcmifoaaDoor.Opens
open Go.ChangeShapes Go.WideShapes Go.ChangeAt Go.RowKit Go.Joins Go.Deep
set_option linter.unusedVariables false
section
variable {H : Type} {enc : TypeId × Value → H} {P : Program} {w : World} {base : Nat} {held : Bool} {spare : Nat → Bool}
/-- a field of one cell among the cells of its struct -/
theorem one_at (l : List Value) (j : Nat) (h : j < l.length) : (l.drop j).take 1 = [l[j]] := by
  rw [List.drop_eq_getElem_cons h]; rfl
/-- every field of a struct that came in by value reads as its type says -/
theorem fields_of {r : Reach} {b0 : Nat} {t : TypeId} {fs : Array Field} {v : Value} {d : DataW H} {p : List MemPlace} (hs : P.underlying t = some (.struct fs)) (hone : oneCellFields P fs = true) (hC : P.cellsOf t = fs.size)
    (hv : Value.okWide P w r b0 t v) (h : DataW.Trod enc P w base spare held t v d p) :
    ∃ (cs : Array Value) (n : Nat), v = .agg cs ∧ cs.size = fs.size ∧ ∀ (j : Nat) (f : Field), fs[j]? = some f → ∃ c y, cs[j]? = some c ∧ DataW.trod enc P w base spare held n f.type [c] = some y := by
  obtain ⟨cs, rfl, hsz⟩ := okWide_struct hs hv
  obtain ⟨fuel, hf⟩ := h
  obtain ⟨xs, n, _, _, _, hlen, hg⟩ := DataW.trod_struct hs hf
  have hsz' := hsz.trans hC
  refine ⟨cs, n, rfl, hsz', fun j f hj => ?_⟩
  have hjl : j < fs.size := (Array.getElem?_eq_some_iff.1 hj).1
  obtain ⟨ho, hk⟩ := hone_of hone j f hj
  have h1 := hg j f hj
  rw [ho, hk] at h1
  have e : ((Value.agg cs).cells.toList.drop j).take 1 = [cs[j]'(by omega)] := one_at cs.toList j (by rw [Array.length_toList]; omega)
  rw [e, List.getElem?_eq_getElem (show j < xs.length by omega)] at h1
  exact ⟨_, _, Array.getElem?_eq_getElem (show j < cs.size by omega), h1⟩
end
end Go.Proofs.YtfdbmhelcmifoaaDoor.Opens
namespace Go.Proofs.YtfdbmhelcmifoaaDoor.Opens
open Go.ChangeShapes Go.WideShapes Go.ChangeAt Go.RowKit Go.Joins Go.Deep
open Go.Proofs.YtfdbmhelcmifoaaDoor.Bytes Go.Proofs.YtfdbmhelcmifoaaDoor.Rows_
set_option linter.unusedVariables false
section
variable {H : Type} {enc : TypeId × Value → H} {P : Program} {w : World} {base : Nat} {held : Bool}
/-- the fields of a struct, each by its cells -/
theorem fld {t : TypeId} {fs : Array Field} {cs : List Value} {fuel : Nat} {x : DataW H × List MemPlace} (hs : P.underlying t = some (.struct fs)) (h : DataW.trod enc P w base (fun _ => true) held fuel t cs = some x) :
    cs.length = P.cellsOf t ∧ ∃ n, ∀ (j : Nat) (f : Field), fs[j]? = some f → ∃ y, DataW.trod enc P w base (fun _ => true) held n f.type ((cs.drop f.offset).take (P.cellsOf f.type)) = some y := by
  obtain ⟨xs, n, _, _, hcl, hlen, hg⟩ := DataW.trod_struct hs h
  refine ⟨hcl, n, fun j f hj => ?_⟩
  have hjl : j < fs.size := (Array.getElem?_eq_some_iff.1 hj).1
  have h1 := hg j f hj
  rw [List.getElem?_eq_getElem (show j < xs.length by omega)] at h1
  exact ⟨_, h1⟩
/-- a struct that came in by value, by its cells -/
theorem top {r : Reach} {b0 : Nat} {t : TypeId} {fs : Array Field} {v : Value} {d : DataW H} {p : List MemPlace} (hs : P.underlying t = some (.struct fs)) (hv : Value.okWide P w r b0 t v) (h : DataW.Trod enc P w base (fun _ => true) held t v d p) :
    ∃ (l : List Value) (fuel : Nat) (x : DataW H × List MemPlace), v = .agg l.toArray ∧ DataW.trod enc P w base (fun _ => true) held fuel t l = some x := by
  obtain ⟨cs, rfl, hsz⟩ := okWide_struct hs hv
  obtain ⟨fuel, hf⟩ := h
  exact ⟨cs.toList, fuel, _, by simp, hf⟩
theorem part {n k off : Nat} {t : TypeId} {cs ys : List Value} {y : DataW H × List MemPlace} (hk : P.cellsOf t = k) (h : DataW.trod enc P w base (fun _ => true) held n t ((cs.drop off).take (P.cellsOf t)) = some y) (e : (cs.drop off).take k = ys) : DataW.trod enc P w base (fun _ => true) held n t ys = some y := by
  rw [hk, e] at h; exact h
theorem bool_ofG {n : Nat} {t : TypeId} {c : Value} {y : DataW H × List MemPlace} (ht : P.underlying t = some .bool) (h : DataW.trod enc P w base (fun _ => true) held n t [c] = some y) : ∃ b, c = .bool b := by
  cases n with
  | zero => simp [DataW.trod] at h
  | succ n =>
    unfold DataW.trod at h
    rw [ht] at h
    cases c <;> simp at h
    exact ⟨_, rfl⟩
theorem list_ofG {α : Type} (Q : Nat → α → Prop) : ∀ (n : Nat), (∀ i, i < n → ∃ x, Q i x) → ∃ l : List α, l.length = n ∧ ∀ i x, l[i]? = some x → Q i x
  | 0, _ => ⟨[], rfl, fun i x h => by simp at h⟩
  | n + 1, h => by
    obtain ⟨l, hl, hq⟩ := list_ofG Q n (fun i hi => h i (by omega))
    obtain ⟨x, hx⟩ := h n (by omega)
    refine ⟨l ++ [x], by simp [hl], fun i y hy => ?_⟩
    by_cases hi : i < l.length
    · rw [List.getElem?_append_left hi] at hy; exact hq i y hy
    · rw [List.getElem?_append_right (by omega)] at hy
      obtain rfl : i = n := by
        have := (List.getElem?_eq_some_iff.1 hy).1
        simp at this; omega
      rw [show i - l.length = 0 by omega] at hy
      simp at hy; rw [← hy]; exact hx
/-- a slice that came in, as a list of data: 'R' lays a datum out in K cells, 'Q' is what holds of each -/
theorem rows_ofK {α : Type} (R : α → List Value) (Q : α → Prop) (K : Nat) {t e : TypeId} {fuel : Nat} {v : Value} {x : DataW H × List MemPlace} (ht : P.underlying t = some (.slice e)) (hC : P.cellsOf e = K) (hK : 0 < K)
    (h : DataW.trod enc P w base (fun _ => true) held fuel t [v] = some x)
    (step : ∀ (m : Nat) (cs : List Value) (y : DataW H × List MemPlace), DataW.trod enc P w base (fun _ => true) held m e cs = some y → ∃ z, Q z ∧ cs = R z) :
    ∃ (A : Option Addr) (n c : Nat) (l : List α), v = .slice A n c ∧ n ≤ maxLen ∧ l.length = n ∧ (∀ z ∈ l, Q z) ∧ RdK K w w.heap.size A (l.map R) := by
  rcases open_slice ht h with ⟨h0, _⟩ | ⟨a, n, c, m, k, D, Pl, h0, _, hnc, hc, hm, _, hx⟩
  · obtain rfl : v = .slice none 0 0 := by simpa using h0
    exact ⟨none, 0, 0, [], rfl, Nat.zero_le _, rfl, fun z hz => by simp at hz, fun hn => by simp at hn⟩
  · obtain rfl : v = .slice (some a) n c := by simpa using h0
    have hmn : n ≤ m := by rw [hm]; simp; exact hnc
    have hcell : ∀ i, i < n → ∃ z, Q z ∧ ∀ j u, (R z)[j]? = some u → w.cell? (a.add (i * K + j)) = some u := by
      intro i hi
      obtain ⟨cs, hcs, ht'⟩ := hx i (by omega)
      rw [hC] at hcs
      obtain ⟨_, hcl, hat⟩ := World.cells?_some hcs
      obtain ⟨z, hz, rfl⟩ := step _ _ _ ht'
      refine ⟨z, hz, fun j u hu => ?_⟩
      have hjl : j < K := by have := (List.getElem?_eq_some_iff.1 hu).1; omega
      rw [← Go.Deep.add_add, hat j hjl, hu]
    obtain ⟨l, hl, hq⟩ := list_ofG (fun i z => Q z ∧ ∀ j u, (R z)[j]? = some u → w.cell? (a.add (i * K + j)) = some u) n hcell
    refine ⟨some a, n, c, l, rfl, Nat.le_trans hnc hc, hl, fun z hz => ?_, fun hn => ?_⟩
    · obtain ⟨i, hi, rfl⟩ := List.mem_iff_getElem.1 hz
      exact (hq i _ (List.getElem?_eq_getElem hi)).1
    · have hn' : 0 < n := by simp at hn; omega
      obtain ⟨cs, hcs, ht'⟩ := hx 0 (by omega)
      rw [hC] at hcs
      obtain ⟨_, hcl, hat⟩ := World.cells?_some hcs
      have hu := hat 0 hK
      rw [List.getElem?_eq_getElem (show 0 < cs.length by omega)] at hu
      obtain ⟨b, o, spot⟩ := a
      have hspot : spot = none := by simpa [Addr.add] using World.cell?_spot hu
      subst hspot
      refine ⟨b, o, rfl, by simpa [Addr.add] using World.block_lt_of_cell? w _ hu, fun i r hr j u hu => ?_⟩
      rw [List.getElem?_map] at hr
      obtain ⟨z, hz, rfl⟩ := Option.map_eq_some_iff.1 hr
      have := (hq i z hz).2 j u hu
      rw [Addr.add_lit] at this
      rw [Nat.add_assoc]; exact this
end
end Go.Proofs.YtfdbmhelcmifoaaDoor.Opens
namespace Go.Proofs.YtfdbmhelcmifoaaDoor.Opens
open Go.ChangeShapes Go.WideShapes Go.ChangeAt Go.RowKit Go.Joins Go.Deep
open Go.Proofs.YtfdbmhelcmifoaaDoor.Bytes Go.Proofs.YtfdbmhelcmifoaaDoor.Rows_
set_option linter.unusedVariables false
section
variable {H : Type} {enc : TypeId × Value → H} {P : Program} {w : World} {base : Nat} {held : Bool} {spare : Nat → Bool}
/-- a choice at each place of a row -/
theorem list_of {α : Type} (Q : Nat → α → Prop) : ∀ (n : Nat), (∀ i, i < n → ∃ x, Q i x) → ∃ l : List α, l.length = n ∧ ∀ i x, l[i]? = some x → Q i x
  | 0, _ => ⟨[], rfl, fun i x h => by simp at h⟩
  | n + 1, h => by
    obtain ⟨l, hl, hq⟩ := list_of Q n (fun i hi => h i (by omega))
    obtain ⟨x, hx⟩ := h n (by omega)
    refine ⟨l ++ [x], by simp [hl], fun i y hy => ?_⟩
    by_cases hi : i < l.length
    · rw [List.getElem?_append_left hi] at hy; exact hq i y hy
    · rw [List.getElem?_append_right (by omega)] at hy
      obtain rfl : i = n := by
        have := (List.getElem?_eq_some_iff.1 hy).1
        simp at this; omega
      rw [show i - l.length = 0 by omega] at hy
      simp at hy; rw [← hy]; exact hx
/-- a slice of structs that came in, as a list of data: 'R' lays a datum out, 'Q' is what holds of each -/
theorem rows_of {α : Type} (R : α → List Value) (Q : α → Prop) {t e : TypeId} {fs : Array Field} {fuel : Nat} {v : Value} {x : DataW H × List MemPlace} (ht : P.underlying t = some (.slice e)) (he : P.underlying e = some (.struct fs))
    (hone : oneCellFields P fs = true) (hC : P.cellsOf e = fs.size) (hK : 0 < fs.size) (h : DataW.trod enc P w base (fun _ => true) held fuel t [v] = some x)
    (step : ∀ (at_ : Nat → Option Value), (∀ (j : Nat) (f : Field), fs[j]? = some f → ∃ u m y, at_ j = some u ∧ DataW.trod enc P w base (fun _ => true) held m f.type [u] = some y) → ∃ z, Q z ∧ ∀ j u, (R z)[j]? = some u → at_ j = some u) :
    ∃ (A : Option Addr) (n c : Nat) (l : List α), v = .slice A n c ∧ n ≤ maxLen ∧ l.length = n ∧ (∀ z ∈ l, Q z) ∧ RdK fs.size w w.heap.size A (l.map R) := by
  rcases open_slice ht h with ⟨h0, _⟩ | ⟨a, n, c, m, k, D, Pl, h0, _, hnc, hc, hm, _, hx⟩
  · obtain rfl : v = .slice none 0 0 := by simpa using h0
    exact ⟨none, 0, 0, [], rfl, Nat.zero_le _, rfl, fun z hz => by simp at hz, fun hn => by simp at hn⟩
  · obtain rfl : v = .slice (some a) n c := by simpa using h0
    have hmn : n ≤ m := by rw [hm]; simp; exact hnc
    have hcell : ∀ i, i < n → ∀ (j : Nat) (f : Field), fs[j]? = some f → ∃ u m y, w.cell? (a.add (i * fs.size + j)) = some u ∧ DataW.trod enc P w base (fun _ => true) held m f.type [u] = some y := by
      intro i hi j f hj
      obtain ⟨cs, hcs, ht'⟩ := hx i (by omega)
      rw [hC] at hcs
      obtain ⟨_, hcl, hat⟩ := World.cells?_some hcs
      obtain ⟨xs, q, _, _, _, hlen, hg⟩ := DataW.trod_struct he ht'
      have hjl : j < fs.size := (Array.getElem?_eq_some_iff.1 hj).1
      obtain ⟨ho, hk⟩ := hone_of hone j f hj
      have h1 := hg j f hj
      rw [ho, hk, one_at cs j (by omega), List.getElem?_eq_getElem (show j < xs.length by omega)] at h1
      refine ⟨cs[j]'(by omega), q, _, ?_, h1⟩
      rw [← Go.Deep.add_add, hat j hjl, List.getElem?_eq_getElem (show j < cs.length by omega)]
    obtain ⟨l, hl, hq⟩ := list_of (fun i z => Q z ∧ ∀ j u, (R z)[j]? = some u → w.cell? (a.add (i * fs.size + j)) = some u) n (fun i hi => step (fun j => w.cell? (a.add (i * fs.size + j))) (hcell i hi))
    refine ⟨some a, n, c, l, rfl, Nat.le_trans hnc hc, hl, fun z hz => ?_, fun hn => ?_⟩
    · obtain ⟨i, hi, rfl⟩ := List.mem_iff_getElem.1 hz
      exact (hq i _ (List.getElem?_eq_getElem hi)).1
    · have hn' : 0 < n := by simp at hn; omega
      obtain ⟨u, _, _, hu, _⟩ := hcell 0 hn' 0 _ (Array.getElem?_eq_getElem hK)
      obtain ⟨b, o, spot⟩ := a
      have hspot : spot = none := by simpa [Addr.add] using World.cell?_spot hu
      subst hspot
      refine ⟨b, o, rfl, by simpa [Addr.add] using World.block_lt_of_cell? w _ hu, fun i r hr j u hu => ?_⟩
      rw [List.getElem?_map] at hr
      obtain ⟨z, hz, rfl⟩ := Option.map_eq_some_iff.1 hr
      have := (hq i z hz).2 j u hu
      rw [Addr.add_lit] at this
      rw [Nat.add_assoc]; exact this
end

end Go.Proofs.YtfdbmhelcmifoaaDoor.Opens
namespace Go.Proofs.YtfdbmhelcmifoaaDoor.Opens
open Go.ChangeShapes Go.WideShapes Go.ChangeAt Go.RowKit Go.Joins Go.Deep
open Go.Proofs.YtfdbmhelcmifoaaDoor.Bytes Go.Proofs.YtfdbmhelcmifoaaDoor.DOk
set_option linter.unusedVariables false
variable {H : Type} {enc : TypeId × Value → H} {W : World} {base : Nat} {held : Bool}
theorem rowI_open {w : World} {a : Option Addr} {len cap : Nat} {zs : List Int} (h : IsRow .i64 w a len cap zs) :
    RdI w w.heap.size a (zs.take len) ∧ (zs.take len).length = len ∧ len ≤ maxLen := by
  rcases h with ⟨rfl, rfl, rfl, rfl⟩ | ⟨x, rfl, h1, h2, h3, h4, h5⟩
  · exact ⟨fun h => absurd h (by simp), rfl, Nat.zero_le _⟩
  · refine ⟨fun hn => ?_, by simp; omega, by omega⟩
    have hlen : 0 < zs.length := by simp at hn; omega
    obtain ⟨b, o, spot⟩ := x
    have hc := h4 0 hlen
    have hspot : spot = none := by simpa [Addr.add] using World.cell?_spot hc
    subst hspot
    refine ⟨b, o, rfl, by simpa [Addr.add] using World.block_lt_of_cell? w _ hc, fun k hk => ?_⟩
    have hk' : k < len ∧ k < zs.length := by simp at hk; omega
    have := h4 k hk'.2
    rw [Addr.add_lit] at this
    rw [this, List.getElem_take]
    simp [List.getD, hk'.2]
set_option maxRecDepth 100000 in
theorem open_Ints {r : Reach} {b0 : Nat} {v : Value} {d : DataW H} {p : List MemPlace} (hv : Value.okWide Tryd.prog W r b0 22 v) (h : DataW.Trod enc Tryd.prog W base (fun _ => true) held 22 v d p) :
    ∃ (A : Option Addr) (n c : Nat) (cs : List Int), v = .slice A n c ∧ RdI W W.heap.size A cs ∧ cs.length = n ∧ n ≤ maxLen := by
  obtain ⟨a0, len0, cap0, rfl⟩ := okWide_slice Tryd.underlying22 hv
  obtain ⟨z0, w0⟩ : ∃ zs, IsRow .i64 W a0 len0 cap0 zs := by
    obtain ⟨fuel, hf⟩ := h
    rcases open_ints Tryd.underlying22 Tryd.underlying3 (by kernel_rfl) hf with ⟨hcs, _⟩ | ⟨x, l, c, zs, hcs, _, hl, hm, hz, _, hcell, hwz⟩
    · simp [Value.cells] at hcs
      obtain ⟨rfl, rfl, rfl⟩ := hcs
      exact ⟨[], .inl ⟨rfl, rfl, rfl, rfl⟩⟩
    · simp [Value.cells] at hcs
      obtain ⟨rfl, rfl, rfl⟩ := hcs
      exact ⟨zs, .inr ⟨_, rfl, hl, hm, by simpa using hz, hcell, hwz⟩⟩
  obtain ⟨h1, h2, h3⟩ := rowI_open w0
  exact ⟨a0, len0, cap0, z0.take len0, rfl, h1, h2, h3⟩
end Go.Proofs.YtfdbmhelcmifoaaDoor.Opens
namespace Go.Proofs.YtfdbmhelcmifoaaDoor.Opens
open Go.ChangeShapes Go.WideShapes Go.ChangeAt Go.RowKit Go.Joins Go.Deep
open Go.Proofs.YtfdbmhelcmifoaaDoor.Bytes Go.Proofs.YtfdbmhelcmifoaaDoor.Rows_ Go.Proofs.YtfdbmhelcmifoaaDoor.DOk
set_option linter.unusedVariables false
variable {H : Type} {enc : TypeId × Value → H} {W : World} {base : Nat} {held : Bool}
theorem ints_cell {fuel : Nat} {v : Value} {x : DataW H × List MemPlace} (hw : DataW.trod enc Tryd.prog W base (fun _ => true) held fuel 22 [v] = some x) :
    ∃ (A : Option Addr) (n c : Nat) (zs : List Int), v = .slice A n c ∧ RdI W W.heap.size A zs ∧ zs.length = n ∧ n ≤ 9223372036854775807 := by
  obtain ⟨a0, len0, cap0, z0, rfl, w0⟩ : ∃ A n c zs, v = .slice A n c ∧ IsRow .i64 W A n c zs := by
    rcases open_ints Tryd.underlying22 Tryd.underlying3 (by kernel_rfl) hw with ⟨hcs, _⟩ | ⟨a, l, c, zs, hcs, _, hl, hm, hz, _, hcell, hwz⟩
    · simp at hcs
      exact ⟨none, 0, 0, [], hcs, .inl ⟨rfl, rfl, rfl, rfl⟩⟩
    · simp at hcs
      exact ⟨some a, l, c, zs, hcs, .inr ⟨_, rfl, hl, hm, by simpa using hz, hcell, hwz⟩⟩
  obtain ⟨h1, h2, h3⟩ := rowI_open w0
  exact ⟨a0, len0, cap0, z0.take len0, rfl, h1, h2, by unfold maxLen at h3; omega⟩
theorem bytes_cell {fuel : Nat} {v : Value} {x : DataW H × List MemPlace} (hw : DataW.trod enc Tryd.prog W base (fun _ => true) held fuel 23 [v] = some x) :
    ∃ (A : Option Addr) (n c : Nat) (zs : List Int), v = .slice A n c ∧ Rd W W.heap.size A zs ∧ zs.length = n ∧ n ≤ 9223372036854775807 ∧ Rng zs := by
  obtain ⟨A, n, c, z0, rfl, w0⟩ := open_bytes hw
  have hm : n ≤ 9223372036854775807 := by
    rcases w0 with ⟨_, rfl, _, _⟩ | ⟨a, _, h1, h2, h3, _⟩
    · omega
    · unfold maxLen at h2; omega
  obtain ⟨HR, hl, hA, hrng⟩ := w0.open_
  exact ⟨A, n, c, z0.take n, rfl, HR, hl, hm, hrng⟩
/-- what a parser's state that came in holds -/
def VpIn (W : World) (A : Option Addr) (na : Nat) (zs : List Int) (P : Option Addr) (np : Nat) (bs : List Int) : Prop :=
  RdI W W.heap.size A zs ∧ zs.length = na ∧ na ≤ 9223372036854775807 ∧ Rd W W.heap.size P bs ∧ bs.length = np ∧ np ≤ 9223372036854775807 ∧ Rng bs
set_option maxRecDepth 100000 in
theorem open_Vp {r : Reach} {b0 : Nat} {v : Value} {d : DataW H} {p : List MemPlace} (hv : Value.okWide Tryd.prog W r b0 25 v) (h : DataW.Trod enc Tryd.prog W base (fun _ => true) held 25 v d p) :
    ∃ (st : Int) (mk : Bool) (A : Option Addr) (na ca : Nat) (zs : List Int) (P : Option Addr) (np cp : Nat) (bs : List Int), v = .agg #[.int .i64 st, .bool mk, .slice A na ca, .slice P np cp] ∧ (Lit.int .i64 st).wf = true ∧ VpIn W A na zs P np bs := by
  obtain ⟨ls, fuel, x, rfl, ht⟩ := top Tryd.underlying25 hv h
  obtain ⟨hcl, n, hg⟩ := fld Tryd.underlying25 ht
  have hC : Tryd.prog.cellsOf 25 = 4 := by kernel_rfl
  have eI : Tryd.prog.cellsOf 3 = 1 := by kernel_rfl
  have eB : Tryd.prog.cellsOf 4 = 1 := by kernel_rfl
  have eS : Tryd.prog.cellsOf 22 = 1 := by kernel_rfl
  have eU : Tryd.prog.cellsOf 23 = 1 := by kernel_rfl
  rw [hC] at hcl
  obtain ⟨c0, c1, c2, c3, rfl⟩ : ∃ a b c d, ls = [a, b, c, d] := by
    match ls, hcl with
    | [a, b, c, d], _ => exact ⟨a, b, c, d, rfl⟩
  obtain ⟨y0, t0⟩ := hg 0 _ rfl
  obtain ⟨y1, t1⟩ := hg 1 _ rfl
  obtain ⟨y2, t2⟩ := hg 2 _ rfl
  obtain ⟨y3, t3⟩ := hg 3 _ rfl
  replace t0 := part (t := 3) (off := 0) (ys := [c0]) eI t0 rfl
  replace t1 := part (t := 4) (off := 1) (ys := [c1]) eB t1 rfl
  replace t2 := part (t := 22) (off := 2) (ys := [c2]) eS t2 rfl
  replace t3 := part (t := 23) (off := 3) (ys := [c3]) eU t3 rfl
  obtain ⟨i0, e0, _, g0⟩ := DataW.trod_int Tryd.underlying3 t0
  obtain ⟨b1, e1⟩ := bool_ofG (c := c1) Tryd.underlying4 t1
  obtain ⟨A, na, ca, zs, e2, f1, f2, f3⟩ := ints_cell t2
  obtain ⟨P, np, cp, bs, e3, f4, f5, f6, f7⟩ := bytes_cell t3
  simp at e0
  subst e0 e1 e2 e3
  exact ⟨i0, b1, A, na, ca, zs, P, np, cp, bs, rfl, g0, f1, f2, f3, f4, f5, f6, f7⟩
end Go.Proofs.YtfdbmhelcmifoaaDoor.Opens
namespace Go.Proofs.YtfdbmhelcmifoaaDoor.Opens
open Go.ChangeShapes Go.WideShapes Go.ChangeAt Go.RowKit Go.Joins Go.Deep
open Go.Proofs.YtfdbmhelcmifoaaDoor.Bytes
set_option linter.unusedVariables false
variable {H : Type} {enc : TypeId × Value → H} {W : World} {base : Nat} {held : Bool}
set_option maxRecDepth 100000 in
theorem open_BytesArg {r : Reach} {b0 : Nat} {v : Value} {d : DataW H} {p : List MemPlace} (hv : Value.okWide Tryd.prog W r b0 23 v) (h : DataW.Trod enc Tryd.prog W base (fun _ => true) held 23 v d p) :
    ∃ (A : Option Addr) (n c : Nat) (zs : List Int), v = .slice A n c ∧ IsRow .u8 W A n c zs := by
  obtain ⟨a0, len0, cap0, rfl⟩ := okWide_slice Tryd.underlying23 hv
  obtain ⟨fuel, hf⟩ := h
  rcases open_ints Tryd.underlying23 Tryd.underlying5 (by kernel_rfl) hf with ⟨hcs, _⟩ | ⟨x, l, c, zs, hcs, _, hl, hm, hz, _, hcell, hwz⟩
  · simp [Value.cells] at hcs
    obtain ⟨rfl, rfl, rfl⟩ := hcs
    exact ⟨_, _, _, [], rfl, .inl ⟨rfl, rfl, rfl, rfl⟩⟩
  · simp [Value.cells] at hcs
    obtain ⟨rfl, rfl, rfl⟩ := hcs
    exact ⟨_, _, _, zs, rfl, .inr ⟨_, rfl, hl, hm, by simpa using hz, hcell, hwz⟩⟩
end Go.Proofs.YtfdbmhelcmifoaaDoor.Opens
