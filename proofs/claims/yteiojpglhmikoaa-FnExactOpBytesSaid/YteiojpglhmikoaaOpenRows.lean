/- Opening slices of structs and structs by value that came in as arguments, of whatever number of fields. -/
import Derived.Test.YteiojpglhmikoaaOpenBytes
import Derived.Test.YteiojpglhmikoaaOpenFld
import Derived.Test.YteiojpglhmikoaaKiA
import Derived.Deep.Slices
import Derived.Deep.Fields
import Derived.ChangeSame
namespace Go.Proofs.Yteiojpglhmikoaa.Opens
open Go.ChangeShapes Go.WideShapes Go.ChangeAt Go.RowKit Go.Joins Go.Deep
open Go.Proofs.Yteiojpglhmikoaa.Bytes Go.Proofs.Yteiojpglhmikoaa.Rows_
set_option linter.unusedVariables false
section
variable {H : Type} {enc : TypeId × Value → H} {P : Program} {w : World} {base : Nat} {held : Bool} {spare : Nat → Bool}
/-- a choice at each place of a row -/
theorem list_of {α : Type} (Q : Nat → α → Prop) : ∀ (n : Nat), (∀ i, i < n → ∃ x, Q i x) → ∃ l : List α, l.length = n ∧ ∀ i x, l[i]? = some x → Q i x
  | 0, _ => ⟨[], rfl, fun i x h => by simp at h⟩
  | n + 1, h => by
    obtain ⟨l, hl, hq⟩ := list_of Q n (fun i hi => h i (by omega))
    obtain ⟨x, hx⟩ := h n (by omega)
    refine ⟨l ++ [x], by simp [hl], fun i y hy => ?_⟩
    by_cases hi : i < l.length
    · rw [List.getElem?_append_left hi] at hy; exact hq i y hy
    · rw [List.getElem?_append_right (by omega)] at hy
      obtain rfl : i = n := by
        have := (List.getElem?_eq_some_iff.1 hy).1
        simp at this; omega
      rw [show i - l.length = 0 by omega] at hy
      simp at hy; rw [← hy]; exact hx
/-- a slice of structs that came in, as a list of data: 'R' lays a datum out, 'Q' is what holds of each -/
theorem rows_of {α : Type} (R : α → List Value) (Q : α → Prop) {t e : TypeId} {fs : Array Field} {fuel : Nat} {v : Value} {x : DataW H × List MemPlace} (ht : P.underlying t = some (.slice e)) (he : P.underlying e = some (.struct fs))
    (hone : oneCellFields P fs = true) (hC : P.cellsOf e = fs.size) (hK : 0 < fs.size) (h : DataW.trod enc P w base (fun _ => true) held fuel t [v] = some x)
    (step : ∀ (at_ : Nat → Option Value), (∀ (j : Nat) (f : Field), fs[j]? = some f → ∃ u m y, at_ j = some u ∧ DataW.trod enc P w base (fun _ => true) held m f.type [u] = some y) → ∃ z, Q z ∧ ∀ j u, (R z)[j]? = some u → at_ j = some u) :
    ∃ (A : Option Addr) (n c : Nat) (l : List α), v = .slice A n c ∧ n ≤ maxLen ∧ l.length = n ∧ (∀ z ∈ l, Q z) ∧ RdK fs.size w w.heap.size A (l.map R) := by
  rcases open_slice ht h with ⟨h0, _⟩ | ⟨a, n, c, m, k, D, Pl, h0, _, hnc, hc, hm, _, hx⟩
  · obtain rfl : v = .slice none 0 0 := by simpa using h0
    exact ⟨none, 0, 0, [], rfl, Nat.zero_le _, rfl, fun z hz => by simp at hz, fun hn => by simp at hn⟩
  · obtain rfl : v = .slice (some a) n c := by simpa using h0
    have hmn : n ≤ m := by rw [hm]; simp; exact hnc
    have hcell : ∀ i, i < n → ∀ (j : Nat) (f : Field), fs[j]? = some f → ∃ u m y, w.cell? (a.add (i * fs.size + j)) = some u ∧ DataW.trod enc P w base (fun _ => true) held m f.type [u] = some y := by
      intro i hi j f hj
      obtain ⟨cs, hcs, ht'⟩ := hx i (by omega)
      rw [hC] at hcs
      obtain ⟨_, hcl, hat⟩ := World.cells?_some hcs
      obtain ⟨xs, q, _, _, _, hlen, hg⟩ := DataW.trod_struct he ht'
      have hjl : j < fs.size := (Array.getElem?_eq_some_iff.1 hj).1
      obtain ⟨ho, hk⟩ := hone_of hone j f hj
      have h1 := hg j f hj
      rw [ho, hk, one_at cs j (by omega), List.getElem?_eq_getElem (show j < xs.length by omega)] at h1
      refine ⟨cs[j]'(by omega), q, _, ?_, h1⟩
      rw [← Go.Deep.add_add, hat j hjl, List.getElem?_eq_getElem (show j < cs.length by omega)]
    obtain ⟨l, hl, hq⟩ := list_of (fun i z => Q z ∧ ∀ j u, (R z)[j]? = some u → w.cell? (a.add (i * fs.size + j)) = some u) n (fun i hi => step (fun j => w.cell? (a.add (i * fs.size + j))) (hcell i hi))
    refine ⟨some a, n, c, l, rfl, Nat.le_trans hnc hc, hl, fun z hz => ?_, fun hn => ?_⟩
    · obtain ⟨i, hi, rfl⟩ := List.mem_iff_getElem.1 hz
      exact (hq i _ (List.getElem?_eq_getElem hi)).1
    · have hn' : 0 < n := by simp at hn; omega
      obtain ⟨u, _, _, hu, _⟩ := hcell 0 hn' 0 _ (Array.getElem?_eq_getElem hK)
      obtain ⟨b, o, spot⟩ := a
      have hspot : spot = none := by simpa [Addr.add] using World.cell?_spot hu
      subst hspot
      refine ⟨b, o, rfl, by simpa [Addr.add] using World.block_lt_of_cell? w _ hu, fun i r hr j u hu => ?_⟩
      rw [List.getElem?_map] at hr
      obtain ⟨z, hz, rfl⟩ := Option.map_eq_some_iff.1 hr
      have := (hq i z hz).2 j u hu
      rw [Addr.add_lit] at this
      rw [Nat.add_assoc]; exact this
end

end Go.Proofs.Yteiojpglhmikoaa.Opens

