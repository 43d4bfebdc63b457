/- Opening arguments of whatever nested types: a struct's fields out of its cells; a slice of elements of many cells. -/
import Derived.Test.YtmccggjogoaakaaKiA
import Derived.WalkKit
import Derived.ProofKit
import Derived.OpenShut
import Derived.ShutString
import Derived.ChangeOld
import Derived.Below
import Derived.Lib.SmallJoins
import Derived.Test.YtmccggjogoaakaaOpenFld
import Derived.Deep.Slices
import Derived.Deep.Fields
import Derived.ChangeSame
namespace Go.Proofs.Ytmccggjogoaakaa.Opens
open Go.ChangeShapes Go.WideShapes Go.ChangeAt Go.RowKit Go.Joins Go.Deep
open Go.Proofs.Ytmccggjogoaakaa.Bytes Go.Proofs.Ytmccggjogoaakaa.Rows_
set_option linter.unusedVariables false
section
variable {H : Type} {enc : TypeId × Value → H} {P : Program} {w : World} {base : Nat} {held : Bool}
/-- the fields of a struct, each by its cells -/
theorem fld {t : TypeId} {fs : Array Field} {cs : List Value} {fuel : Nat} {x : DataW H × List MemPlace} (hs : P.underlying t = some (.struct fs)) (h : DataW.trod enc P w base (fun _ => true) held fuel t cs = some x) :
    cs.length = P.cellsOf t ∧ ∃ n, ∀ (j : Nat) (f : Field), fs[j]? = some f → ∃ y, DataW.trod enc P w base (fun _ => true) held n f.type ((cs.drop f.offset).take (P.cellsOf f.type)) = some y := by
  obtain ⟨xs, n, _, _, hcl, hlen, hg⟩ := DataW.trod_struct hs h
  refine ⟨hcl, n, fun j f hj => ?_⟩
  have hjl : j < fs.size := (Array.getElem?_eq_some_iff.1 hj).1
  have h1 := hg j f hj
  rw [List.getElem?_eq_getElem (show j < xs.length by omega)] at h1
  exact ⟨_, h1⟩
/-- a struct that came in by value, by its cells -/
theorem top {r : Reach} {b0 : Nat} {t : TypeId} {fs : Array Field} {v : Value} {d : DataW H} {p : List MemPlace} (hs : P.underlying t = some (.struct fs)) (hv : Value.okWide P w r b0 t v) (h : DataW.Trod enc P w base (fun _ => true) held t v d p) :
    ∃ (l : List Value) (fuel : Nat) (x : DataW H × List MemPlace), v = .agg l.toArray ∧ DataW.trod enc P w base (fun _ => true) held fuel t l = some x := by
  obtain ⟨cs, rfl, hsz⟩ := okWide_struct hs hv
  obtain ⟨fuel, hf⟩ := h
  exact ⟨cs.toList, fuel, _, by simp, hf⟩
theorem part {n k off : Nat} {t : TypeId} {cs ys : List Value} {y : DataW H × List MemPlace} (hk : P.cellsOf t = k) (h : DataW.trod enc P w base (fun _ => true) held n t ((cs.drop off).take (P.cellsOf t)) = some y) (e : (cs.drop off).take k = ys) : DataW.trod enc P w base (fun _ => true) held n t ys = some y := by
  rw [hk, e] at h; exact h
theorem bool_ofG {n : Nat} {t : TypeId} {c : Value} {y : DataW H × List MemPlace} (ht : P.underlying t = some .bool) (h : DataW.trod enc P w base (fun _ => true) held n t [c] = some y) : ∃ b, c = .bool b := by
  cases n with
  | zero => simp [DataW.trod] at h
  | succ n =>
    unfold DataW.trod at h
    rw [ht] at h
    cases c <;> simp at h
    exact ⟨_, rfl⟩
theorem list_ofG {α : Type} (Q : Nat → α → Prop) : ∀ (n : Nat), (∀ i, i < n → ∃ x, Q i x) → ∃ l : List α, l.length = n ∧ ∀ i x, l[i]? = some x → Q i x
  | 0, _ => ⟨[], rfl, fun i x h => by simp at h⟩
  | n + 1, h => by
    obtain ⟨l, hl, hq⟩ := list_ofG Q n (fun i hi => h i (by omega))
    obtain ⟨x, hx⟩ := h n (by omega)
    refine ⟨l ++ [x], by simp [hl], fun i y hy => ?_⟩
    by_cases hi : i < l.length
    · rw [List.getElem?_append_left hi] at hy; exact hq i y hy
    · rw [List.getElem?_append_right (by omega)] at hy
      obtain rfl : i = n := by
        have := (List.getElem?_eq_some_iff.1 hy).1
        simp at this; omega
      rw [show i - l.length = 0 by omega] at hy
      simp at hy; rw [← hy]; exact hx
/-- a slice that came in, as a list of data: 'R' lays a datum out in K cells, 'Q' is what holds of each -/
theorem rows_ofK {α : Type} (R : α → List Value) (Q : α → Prop) (K : Nat) {t e : TypeId} {fuel : Nat} {v : Value} {x : DataW H × List MemPlace} (ht : P.underlying t = some (.slice e)) (hC : P.cellsOf e = K) (hK : 0 < K)
    (h : DataW.trod enc P w base (fun _ => true) held fuel t [v] = some x)
    (step : ∀ (m : Nat) (cs : List Value) (y : DataW H × List MemPlace), DataW.trod enc P w base (fun _ => true) held m e cs = some y → ∃ z, Q z ∧ cs = R z) :
    ∃ (A : Option Addr) (n c : Nat) (l : List α), v = .slice A n c ∧ n ≤ maxLen ∧ l.length = n ∧ (∀ z ∈ l, Q z) ∧ RdK K w w.heap.size A (l.map R) := by
  rcases open_slice ht h with ⟨h0, _⟩ | ⟨a, n, c, m, k, D, Pl, h0, _, hnc, hc, hm, _, hx⟩
  · obtain rfl : v = .slice none 0 0 := by simpa using h0
    exact ⟨none, 0, 0, [], rfl, Nat.zero_le _, rfl, fun z hz => by simp at hz, fun hn => by simp at hn⟩
  · obtain rfl : v = .slice (some a) n c := by simpa using h0
    have hmn : n ≤ m := by rw [hm]; simp; exact hnc
    have hcell : ∀ i, i < n → ∃ z, Q z ∧ ∀ j u, (R z)[j]? = some u → w.cell? (a.add (i * K + j)) = some u := by
      intro i hi
      obtain ⟨cs, hcs, ht'⟩ := hx i (by omega)
      rw [hC] at hcs
      obtain ⟨_, hcl, hat⟩ := World.cells?_some hcs
      obtain ⟨z, hz, rfl⟩ := step _ _ _ ht'
      refine ⟨z, hz, fun j u hu => ?_⟩
      have hjl : j < K := by have := (List.getElem?_eq_some_iff.1 hu).1; omega
      rw [← Go.Deep.add_add, hat j hjl, hu]
    obtain ⟨l, hl, hq⟩ := list_ofG (fun i z => Q z ∧ ∀ j u, (R z)[j]? = some u → w.cell? (a.add (i * K + j)) = some u) n hcell
    refine ⟨some a, n, c, l, rfl, Nat.le_trans hnc hc, hl, fun z hz => ?_, fun hn => ?_⟩
    · obtain ⟨i, hi, rfl⟩ := List.mem_iff_getElem.1 hz
      exact (hq i _ (List.getElem?_eq_getElem hi)).1
    · have hn' : 0 < n := by simp at hn; omega
      obtain ⟨cs, hcs, ht'⟩ := hx 0 (by omega)
      rw [hC] at hcs
      obtain ⟨_, hcl, hat⟩ := World.cells?_some hcs
      have hu := hat 0 hK
      rw [List.getElem?_eq_getElem (show 0 < cs.length by omega)] at hu
      obtain ⟨b, o, spot⟩ := a
      have hspot : spot = none := by simpa [Addr.add] using World.cell?_spot hu
      subst hspot
      refine ⟨b, o, rfl, by simpa [Addr.add] using World.block_lt_of_cell? w _ hu, fun i r hr j u hu => ?_⟩
      rw [List.getElem?_map] at hr
      obtain ⟨z, hz, rfl⟩ := Option.map_eq_some_iff.1 hr
      have := (hq i z hz).2 j u hu
      rw [Addr.add_lit] at this
      rw [Nat.add_assoc]; exact this
end
end Go.Proofs.Ytmccggjogoaakaa.Opens

