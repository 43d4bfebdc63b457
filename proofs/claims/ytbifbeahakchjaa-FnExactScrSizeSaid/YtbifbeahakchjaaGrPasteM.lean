/- A pasted grid as a list: row after row, and cell after cell. -/
import Derived.Test.YtbifbeahakchjaaGrReach
namespace Go.Proofs.Ytbifbeahakchjaa.Gr
open Go.RowKit Go.Proofs.Ytbifbeahakchjaa.Bytes Go.Proofs.Ytbifbeahakchjaa.Rows_ Go.Proofs.Ytbifbeahakchjaa.RowK
set_option linter.unusedVariables false
def srcI (W W2 : Nat) (x y : Int) (i : Nat) : Nat := (((i / W : Nat) : Int) - y).toNat * W2 + (((i % W : Nat) : Int) - x).toNat
def mixP (cs ds : List CellD) (W W2 H2 : Nat) (x y : Int) (p : Nat → Bool) : List CellD :=
  (List.range cs.length).map fun i => if p i && inF W x y (W2 : Int) (H2 : Int) i then ds.getD (srcI W W2 x y i) blankC else cs.getD i blankC
section
variable {cs ds : List CellD} {W H W2 H2 : Nat} {x y : Int} {p q : Nat → Bool}
theorem mixP_len : (mixP cs ds W W2 H2 x y p).length = cs.length := by simp [mixP]
theorem mixP_get {i : Nat} (hi : i < cs.length) : (mixP cs ds W W2 H2 x y p)[i]? = some (if p i && inF W x y (W2 : Int) (H2 : Int) i then ds.getD (srcI W W2 x y i) blankC else cs[i]) := by
  simp [mixP, hi, List.getD]
theorem mixP_ext {es : List CellD} (hl : es.length = cs.length) (hg : ∀ i (hi : i < cs.length), es[i]? = some (if p i && inF W x y (W2 : Int) (H2 : Int) i then ds.getD (srcI W W2 x y i) blankC else cs[i])) : es = mixP cs ds W W2 H2 x y p := by
  apply List.ext_getElem?
  intro i
  by_cases hi : i < cs.length
  · rw [hg i hi, mixP_get hi]
  · rw [List.getElem?_eq_none (by omega), List.getElem?_eq_none (by rw [mixP_len]; omega)]
theorem mixP_none (h : ∀ i, i < cs.length → inF W x y (W2 : Int) (H2 : Int) i = true → p i = false) : cs = mixP cs ds W W2 H2 x y p := by
  refine mixP_ext rfl fun i hi => ?_
  rw [List.getElem?_eq_getElem hi, if_neg]
  intro hc
  simp only [Bool.and_eq_true] at hc
  rw [h i hi hc.2] at hc
  exact absurd hc.1 (by simp)
theorem mixP_same (h : ∀ i, i < cs.length → inF W x y (W2 : Int) (H2 : Int) i = true → p i = q i) : mixP cs ds W W2 H2 x y p = mixP cs ds W W2 H2 x y q := by
  refine mixP_ext mixP_len fun i hi => ?_
  rw [mixP_get hi]
  cases hf : inF W x y (W2 : Int) (H2 : Int) i
  · simp
  · rw [h i hi hf]
theorem inF_of {w h : Int} {i : Nat} (hf : inF W x y w h i = true) : x ≤ ((i % W : Nat) : Int) ∧ ((i % W : Nat) : Int) < x + w ∧ y ≤ ((i / W : Nat) : Int) ∧ ((i / W : Nat) : Int) < y + h := of_decide_eq_true hf
theorem srcI_lt {i : Nat} (hf : inF W x y (W2 : Int) (H2 : Int) i = true) : srcI W W2 x y i < W2 * H2 := by
  obtain ⟨h1, h2, h3, h4⟩ := inF_of hf
  unfold srcI
  generalize i / W = a at *
  generalize i % W = b at *
  exact row_lt (by omega) (by omega)
theorem srcI_of {i k : Nat} (hW2 : 1 ≤ W2) (hf : inF W x y (W2 : Int) (H2 : Int) i = true) (hk : srcI W W2 x y i = k) : ((i % W : Nat) : Int) = x + ((k % W2 : Nat) : Int) ∧ ((i / W : Nat) : Int) = y + ((k / W2 : Nat) : Int) := by
  obtain ⟨h1, h2, h3, h4⟩ := inF_of hf
  unfold srcI at hk
  generalize i / W = a at *
  generalize i % W = b at *
  obtain ⟨u, hu⟩ : ∃ u, u = ((a : Int) - y).toNat := ⟨_, rfl⟩
  obtain ⟨v, hv⟩ : ∃ v, v = ((b : Int) - x).toNat := ⟨_, rfl⟩
  rw [← hu, ← hv] at hk
  have e1 : k / W2 = u := by rw [← hk, Nat.add_comm, Nat.add_mul_div_right _ _ (by omega), Nat.div_eq_of_lt (by omega)]; omega
  have e2 : k % W2 = v := by rw [← hk, Nat.add_comm, Nat.add_mul_mod_self_right, Nat.mod_eq_of_lt (by omega)]
  rw [e1, e2]
  omega
def rowsP (W r : Nat) (i : Nat) : Bool := decide (i / W < r)
def stepsP (W W2 : Nat) (x y : Int) (k : Nat) (i : Nat) : Bool := decide (srcI W W2 x y i < k)
def allP (_ : Nat) : Bool := true
theorem pasteR_top {t : Nat} (ht : (t : Int) = clampV y 0 (H : Int)) : cs = mixP cs ds W W2 H2 x y (rowsP W t) := by
  refine mixP_none fun i hi hf => ?_
  obtain ⟨h1, h2, h3, h4⟩ := inF_of hf
  unfold rowsP
  refine decide_eq_false fun hc => ?_
  generalize i / W = a at *
  unfold clampV at ht
  split at ht <;> (try split at ht) <;> omega
theorem pasteR_end {e : Nat} (hW : 1 ≤ W) (hn : cs.length = W * H) (he : (e : Int) = clampV (y + (H2 : Int)) (clampV y 0 (H : Int)) (H : Int)) : mixP cs ds W W2 H2 x y (rowsP W e) = mixP cs ds W W2 H2 x y allP := by
  refine mixP_same fun i hi hf => ?_
  obtain ⟨h1, h2, h3, h4⟩ := inF_of hf
  have h5 : i / W < H := by rw [Nat.div_lt_iff_lt_mul (by omega), Nat.mul_comm]; omega
  unfold rowsP allP
  refine decide_eq_true ?_
  generalize i / W = a at *
  clear hn hi
  unfold clampV at he
  split at he <;> (try split at he) <;> (try split at he) <;> (try split at he) <;> omega
theorem pasteR_row {r l l2 m s c c2 : Nat} (hW : 1 ≤ W) (hn : cs.length = W * H) (hd : ds.length = W2 * H2) (hr : r < H) (hl : (l : Int) = clampV x 0 (W : Int)) (hl2 : (l2 : Int) = clampV (-x) 0 (W2 : Int)) (hm1 : m ≤ W2 - l2) (hm2 : m ≤ W - l) (hm : m = W2 - l2 ∨ m = W - l) (hs : (s : Int) = (r : Int) - y) (hs2 : s < H2) (hc : c = r * W) (hc2 : c2 = s * W2) :
    over (mixP cs ds W W2 H2 x y (rowsP W r)) (c + l) ((ds.drop (c2 + l2)).take m) = mixP cs ds W W2 H2 x y (rowsP W (r + 1)) := by
  have hlW : l ≤ W ∧ l2 ≤ W2 := by
    have h1 := clampV_bdF x 0 (W : Int) (by omega)
    have h2 := clampV_bdF (-x) 0 (W2 : Int) (by omega)
    omega
  have hrow : c + W ≤ W * H := by
    have h1 : (r + 1) * W ≤ H * W := Nat.mul_le_mul_right W hr
    rw [Nat.add_mul, Nat.mul_comm H W] at h1; omega
  have hrow2 : c2 + W2 ≤ W2 * H2 := by
    have h1 : (s + 1) * W2 ≤ H2 * W2 := Nat.mul_le_mul_right W2 hs2
    rw [Nat.add_mul, Nat.mul_comm H2 W2] at h1; omega
  have hml : ((ds.drop (c2 + l2)).take m).length = m := by rw [List.length_take, List.length_drop]; omega
  have hlen : (c + l) + ((ds.drop (c2 + l2)).take m).length ≤ (mixP cs ds W W2 H2 x y (rowsP W r)).length := by rw [hml, mixP_len]; omega
  refine mixP_ext (by rw [over_len hlen, mixP_len]) fun i hi => ?_
  rw [over_get hlen, mixP_get hi, hml]
  have hdm := Nat.div_add_mod i W
  have hmlt := Nat.mod_lt i (show W > 0 by omega)
  rcases Nat.lt_trichotomy (i / W) r with a | a | a
  · have hlt : i < c := by rw [hc, ← Nat.div_lt_iff_lt_mul (by omega)]; exact a
    rw [if_pos (by omega), show rowsP W r i = true from decide_eq_true a, show rowsP W (r + 1) i = true from decide_eq_true (by omega)]
  · have hiw : i = c + i % W := by rw [a, Nat.mul_comm] at hdm; omega
    rw [show rowsP W r i = false from decide_eq_false (by omega), show rowsP W (r + 1) i = true from decide_eq_true (by omega)]
    have hin : inF W x y (W2 : Int) (H2 : Int) i = decide (l ≤ i % W ∧ i % W < l + m) := by
      unfold inF
      rw [Bool.eq_iff_iff]
      simp only [decide_eq_true_eq]
      rw [a]
      clear hiw hdm hlen hml hrow hrow2 hn hd hc hc2
      generalize i % W = mi at *
      unfold clampV at hl hl2
      split at hl <;> (try split at hl) <;> split at hl2 <;> (try split at hl2) <;> omega
    have hsr : l ≤ i % W → i % W < l + m → srcI W W2 x y i = c2 + l2 + (i % W - l) := by
      intro h1 h2
      unfold srcI
      rw [a, show ((r : Int) - y).toNat = s by omega, ← hc2]
      clear hiw hdm hlen hml hrow hrow2 hn hd hc hc2 hin
      generalize i % W = mi at *
      unfold clampV at hl hl2
      split at hl <;> (try split at hl) <;> split at hl2 <;> (try split at hl2) <;> omega
    rw [hin]
    by_cases b1 : i < c + l
    · rw [if_pos b1, show decide (l ≤ i % W ∧ i % W < l + m) = false from decide_eq_false (by omega)]
      rfl
    · rw [if_neg b1]
      by_cases b2 : i < c + l + m
      · rw [if_pos b2, show decide (l ≤ i % W ∧ i % W < l + m) = true from decide_eq_true (by omega), List.getElem?_take_of_lt (by omega), List.getElem?_drop]
        rw [hsr (by omega) (by omega), show i - (c + l) = i % W - l by omega]
        rw [List.getElem?_eq_getElem (show c2 + l2 + (i % W - l) < ds.length by omega)]
        simp only [List.getD, List.getElem?_eq_getElem (show c2 + l2 + (i % W - l) < ds.length by omega)]
        rfl
      · rw [if_neg b2, show decide (l ≤ i % W ∧ i % W < l + m) = false from decide_eq_false (by omega)]
        rfl
  · have hge : c + W ≤ i := by
      have h1 : (r + 1) * W ≤ (i / W) * W := Nat.mul_le_mul_right W a
      have h2 := Nat.div_mul_le_self i W
      rw [Nat.add_mul] at h1; omega
    rw [if_neg (by omega), if_neg (by omega), show rowsP W r i = false from decide_eq_false (by omega), show rowsP W (r + 1) i = false from decide_eq_false (by omega)]
theorem pasteS_zero : cs = mixP cs ds W W2 H2 x y (stepsP W W2 x y 0) := mixP_none fun i hi hf => decide_eq_false (by omega)
theorem pasteS_end {k : Nat} (hk : k = W2 * H2) : mixP cs ds W W2 H2 x y (stepsP W W2 x y k) = mixP cs ds W W2 H2 x y allP :=
  mixP_same fun i hi hf => decide_eq_true (by rw [hk]; exact srcI_lt hf)
theorem pasteS_out {k : Nat} (hW2 : 1 ≤ W2) (hW : 1 ≤ W) (hn : cs.length = W * H) (ho : ¬ (0 ≤ x + ((k % W2 : Nat) : Int) ∧ x + ((k % W2 : Nat) : Int) < (W : Int) ∧ 0 ≤ y + ((k / W2 : Nat) : Int) ∧ y + ((k / W2 : Nat) : Int) < (H : Int))) : mixP cs ds W W2 H2 x y (stepsP W W2 x y k) = mixP cs ds W W2 H2 x y (stepsP W W2 x y (k + 1)) := by
  refine mixP_same fun i hi hf => decide_eq_decide.2 ?_
  have hne : srcI W W2 x y i ≠ k := by
    intro e
    obtain ⟨h1, h2⟩ := srcI_of hW2 hf e
    refine ho ?_
    have h3 : i % W < W := Nat.mod_lt _ (by omega)
    have h4 : i / W < H := by rw [Nat.div_lt_iff_lt_mul (by omega), Nat.mul_comm]; omega
    clear hn hi hf e
    generalize i / W = a at *
    generalize i % W = b at *
    generalize k / W2 = a2 at *
    generalize k % W2 = b2 at *
    omega
  omega
theorem pasteS_in {k j cx cy : Nat} (hW2 : 1 ≤ W2) (hW : 1 ≤ W) (hn : cs.length = W * H) (hd : ds.length = W2 * H2) (hk : k < ds.length) (hcx : (cx : Int) = x + ((k % W2 : Nat) : Int)) (hcy : (cy : Int) = y + ((k / W2 : Nat) : Int)) (h1 : cx < W) (h2 : cy < H) (hj : j = cy * W + cx) :
    (mixP cs ds W W2 H2 x y (stepsP W W2 x y k)).set j ds[k] = mixP cs ds W W2 H2 x y (stepsP W W2 x y (k + 1)) := by
  have ej1 : j / W = cy := by rw [hj, Nat.add_comm, Nat.add_mul_div_right _ _ (by omega), Nat.div_eq_of_lt h1]; omega
  have ej2 : j % W = cx := by rw [hj, Nat.add_comm, Nat.add_mul_mod_self_right, Nat.mod_eq_of_lt h1]
  have hjl : j < cs.length := by rw [hn, hj]; exact row_lt h1 h2
  have m1 : k % W2 < W2 := Nat.mod_lt _ (by omega)
  have m2 : k / W2 < H2 := by rw [Nat.div_lt_iff_lt_mul (by omega), Nat.mul_comm]; omega
  have hdk := Nat.div_add_mod k W2
  have hfj : inF W x y (W2 : Int) (H2 : Int) j = true := decide_eq_true (by
    rw [ej1, ej2]
    clear hdk hjl ej1 ej2 hj hn hd hk
    generalize k / W2 = a2 at *
    generalize k % W2 = b2 at *
    omega)
  have hsj : srcI W W2 x y j = k := by
    unfold srcI
    rw [ej1, ej2]
    clear hfj hjl ej1 ej2 hj hn hd hk
    generalize k / W2 = a2 at *
    generalize k % W2 = b2 at *
    rw [show ((cy : Int) - y).toNat = a2 by omega, show ((cx : Int) - x).toNat = b2 by omega, Nat.mul_comm]
    exact hdk
  refine mixP_ext (by rw [List.length_set, mixP_len]) fun i hi => ?_
  rw [List.getElem?_set]
  by_cases e : j = i
  · subst e
    rw [if_pos rfl, if_pos (by rw [mixP_len]; exact hjl), hfj, show stepsP W W2 x y (k + 1) j = true from decide_eq_true (by omega), hsj]
    simp [hk]
  · rw [if_neg e, mixP_get hi]
    cases hf : inF W x y (W2 : Int) (H2 : Int) i
    · simp
    · have hne : srcI W W2 x y i ≠ k := by
        intro e'
        obtain ⟨g1, g2⟩ := srcI_of hW2 hf e'
        refine e ?_
        have d1 := Nat.div_add_mod i W
        rw [← hcx] at g1
        rw [← hcy] at g2
        have d2 : i % W = cx := Int.ofNat.inj g1
        have d3 : i / W = cy := Int.ofNat.inj g2
        rw [d2, d3] at d1
        rw [hj, ← d1, Nat.mul_comm]
      rw [show stepsP W W2 x y k i = stepsP W W2 x y (k + 1) i from decide_eq_decide.2 (by omega)]
end
def goodP (gw gh : Int) (cs : List CellD) (gw2 gh2 : Int) (ds : List CellD) (x y : Int) : Bool := okG gw gh cs && (okG gw2 gh2 ds && (smallB x && smallB y))
def pasteT (gw gh : Int) (cs : List CellD) (gw2 gh2 : Int) (ds : List CellD) (x y : Int) : GridT := if goodP gw gh cs gw2 gh2 ds x y then (gw, gh, mixP cs ds gw.toNat gw2.toNat gh2.toNat x y allP) else zeroT
/-- a part of cells that are read, flat -/
theorem rd_seg {w : World} {B b o : Nat} {cs : List CellD} (h : RdC w B (some ⟨b, o, none⟩) cs) (a m : Nat) (ham : a + m ≤ cs.length) : ∀ j v, (flatC ((cs.drop a).take m))[j]? = some v → w.cell? ⟨b, o + a * 6 + j, none⟩ = some v := by
  intro j v hv
  have hj : j < m * 6 := by
    have := (List.getElem?_eq_some_iff.1 hv).1
    rw [flatC_len] at this; simp at this; omega
  rw [← flatC_take _ _ (by simp; omega), ← flatC_drop _ _ (by omega), List.getElem?_take_of_lt hj, List.getElem?_drop] at hv
  have := rdK_cells (by decide) (cell_len cs) h (a * 6 + j) v hv
  rw [Addr.add_lit, ← Nat.add_assoc] at this
  exact this
end Go.Proofs.Ytbifbeahakchjaa.Gr
