/- Words and lemmas, merged (once: GrOver, GrOnly6, GrFillM) -/
import Derived.Test.YthlpchojlddnbaaKiE
import Derived.Deep.RegionHeld3
import Derived.Deep.DrawnRows
namespace Go.Proofs.Ythlpchojlddnbaa.Gr
open Go.RowKit Go.Proofs.Ythlpchojlddnbaa.Bytes Go.Proofs.Ythlpchojlddnbaa.Rows_ Go.Proofs.Ythlpchojlddnbaa.RowK
set_option linter.unusedVariables false
theorem over_next {cs l : List CellD} {lo i : Nat} {z : CellD} (h : lo + l.length ≤ cs.length) (hz : l[i]? = some z) : (over cs lo (l.take i)).set (lo + i) z = over cs lo (l.take (i + 1)) := by
  have hi : i < l.length := (List.getElem?_eq_some_iff.1 hz).1
  have h1 : (l.take i).length = i := by rw [List.length_take]; omega
  have h2 : (l.take (i + 1)).length = i + 1 := by rw [List.length_take]; omega
  apply List.ext_getElem?
  intro j
  rw [over_get (by omega), List.getElem?_set]
  rw [over_len (by omega), over_get (by omega), h1, h2]
  by_cases a : lo + i = j
  · subst a
    rw [if_pos rfl, if_pos (by omega), if_neg (by omega), if_pos (by omega), show lo + i - lo = i by omega, List.getElem?_take_of_lt (by omega), hz]
  · rw [if_neg a]
    by_cases b : j < lo
    · rw [if_pos b, if_pos b]
    · rw [if_neg b, if_neg b]
      by_cases c : j < lo + i
      · rw [if_pos c, if_pos (by omega), List.getElem?_take_of_lt (by omega), List.getElem?_take_of_lt (by omega)]
      · rw [if_neg c, if_neg (by omega)]
theorem ownC_drew {w : World} {base : Nat} {A : Option Addr} {n c : Nat} {cs : List CellD} (h : OwnC w base A n c cs) : OwnC w.drew base A n c cs := h
theorem BoxG.only6 {w : World} {b g : Nat} {l : Array Value} (h : BoxG w b l) (hne : b ≠ g) (i0 i1 i2 i3 i4 i5 : Nat) (x0 x1 x2 x3 x4 x5 : Value) : BoxG ((((((w.setCell ⟨g, i0, none⟩ x0).setCell ⟨g, i1, none⟩ x1).setCell ⟨g, i2, none⟩ x2).setCell ⟨g, i3, none⟩ x3).setCell ⟨g, i4, none⟩ x4).setCell ⟨g, i5, none⟩ x5) b l :=
  (((((h.other hne).other hne).other hne).other hne).other hne).other hne
theorem below6 {w0 w : World} {B g : Nat} (h : Below B w0 w) (hg : B ≤ g) (i0 i1 i2 i3 i4 i5 : Nat) (x0 x1 x2 x3 x4 x5 : Value) : Below B w0 ((((((w.setCell ⟨g, i0, none⟩ x0).setCell ⟨g, i1, none⟩ x1).setCell ⟨g, i2, none⟩ x2).setCell ⟨g, i3, none⟩ x3).setCell ⟨g, i4, none⟩ x4).setCell ⟨g, i5, none⟩ x5) :=
  (((((h.setCell (p := ⟨g, i0, none⟩) hg _).setCell (p := ⟨g, i1, none⟩) hg _).setCell (p := ⟨g, i2, none⟩) hg _).setCell (p := ⟨g, i3, none⟩) hg _).setCell (p := ⟨g, i4, none⟩) hg _).setCell (p := ⟨g, i5, none⟩) hg _

end Go.Proofs.Ythlpchojlddnbaa.Gr
namespace Go.Proofs.Ythlpchojlddnbaa.Gr
open Go.RowKit Go.Proofs.Ythlpchojlddnbaa.Bytes Go.Proofs.Ythlpchojlddnbaa.Rows_ Go.Proofs.Ythlpchojlddnbaa.RowK
set_option linter.unusedVariables false
theorem only6c {S : Nat → Prop} (w : World) (g : Nat) (h : S g) (i0 i1 i2 i3 i4 i5 : Nat) (x0 x1 x2 x3 x4 x5 : Value) :
    Only S w ((((((w.setCell ⟨g, i0, none⟩ x0).setCell ⟨g, i1, none⟩ x1).setCell ⟨g, i2, none⟩ x2).setCell ⟨g, i3, none⟩ x3).setCell ⟨g, i4, none⟩ x4).setCell ⟨g, i5, none⟩ x5) :=
  (((((Only.cell_ _ g _ _ h).trans (Only.cell_ _ g _ _ h)).trans (Only.cell_ _ g _ _ h)).trans (Only.cell_ _ g _ _ h)).trans (Only.cell_ _ g _ _ h)).trans (Only.cell_ _ g _ _ h)
theorem only6b (w : World) (g : Nat) (i0 i1 i2 i3 i4 i5 : Nat) (x0 x1 x2 x3 x4 x5 : Value) :
    Only (fun i => i = g) w ((((((w.setCell ⟨g, i0, none⟩ x0).setCell ⟨g, i1, none⟩ x1).setCell ⟨g, i2, none⟩ x2).setCell ⟨g, i3, none⟩ x3).setCell ⟨g, i4, none⟩ x4).setCell ⟨g, i5, none⟩ x5) := only6c (S := fun i => i = g) w g rfl _ _ _ _ _ _ _ _ _ _ _ _
theorem clampV_bdF (x lo hi : Int) (h : lo ≤ hi) : lo ≤ clampV x lo hi ∧ clampV x lo hi ≤ hi := by unfold clampV; split <;> (try split) <;> omega
end Go.Proofs.Ythlpchojlddnbaa.Gr
namespace Go.Proofs.Ythlpchojlddnbaa.Gr
open Go.RowKit Go.Proofs.Ythlpchojlddnbaa.Bytes Go.Proofs.Ythlpchojlddnbaa.Rows_ Go.Proofs.Ythlpchojlddnbaa.RowK
set_option linter.unusedVariables false
def inF (W : Nat) (x y w h : Int) (i : Nat) : Bool := decide (x ≤ ((i % W : Nat) : Int) ∧ ((i % W : Nat) : Int) < x + w ∧ y ≤ ((i / W : Nat) : Int) ∧ ((i / W : Nat) : Int) < y + h)
def mixL (cs : List CellD) (W : Nat) (x y w h : Int) (z : CellD) (r : Nat) : List CellD :=
  (List.range cs.length).map fun i => if decide (i / W < r) && inF W x y w h i then z else cs.getD i blankC
theorem mixL_len (cs : List CellD) (W : Nat) (x y w h : Int) (z : CellD) (r : Nat) : (mixL cs W x y w h z r).length = cs.length := by simp [mixL]
theorem mixL_get {cs : List CellD} {W : Nat} {x y w h : Int} {z : CellD} {r i : Nat} (hi : i < cs.length) : (mixL cs W x y w h z r)[i]? = some (if decide (i / W < r) && inF W x y w h i then z else cs[i]) := by
  simp [mixL, hi, List.getD]
theorem mixL_ext {cs ds : List CellD} {W : Nat} {x y w h : Int} {z : CellD} {r : Nat} (hl : ds.length = cs.length) (hg : ∀ i (hi : i < cs.length), ds[i]? = some (if decide (i / W < r) && inF W x y w h i then z else cs[i])) : ds = mixL cs W x y w h z r := by
  apply List.ext_getElem?
  intro i
  by_cases hi : i < cs.length
  · rw [hg i hi, mixL_get hi]
  · rw [List.getElem?_eq_none (by omega), List.getElem?_eq_none (by rw [mixL_len]; omega)]
theorem iteb {a b : Bool} (h : a = b) (z u : CellD) : (if a = true then z else u) = if b = true then z else u := by rw [h]
theorem mixL_top {cs : List CellD} {W H : Nat} {x y w h : Int} {z : CellD} {t : Nat} (ht : (t : Int) = clampV y 0 (H : Int)) : cs = mixL cs W x y w h z t := by
  refine mixL_ext rfl fun i hi => ?_
  rw [List.getElem?_eq_getElem hi, if_neg]
  intro hc
  simp only [Bool.and_eq_true, decide_eq_true_eq, inF] at hc
  generalize i / W = qi at *
  generalize i % W = mi at *
  unfold clampV at ht
  split at ht <;> (try split at ht) <;> omega
theorem mixL_end {cs : List CellD} {W H : Nat} {x y w h : Int} {z : CellD} {e : Nat} (hW : 1 ≤ W) (hn : cs.length = W * H) (he : (e : Int) = clampV (y + h) (clampV y 0 (H : Int)) (H : Int)) : mixL cs W x y w h z e = mixL cs W x y w h z H := by
  refine mixL_ext (mixL_len _ _ _ _ _ _ _ _) fun i hi => ?_
  rw [mixL_get hi]
  have h1 : i / W < H := by rw [Nat.div_lt_iff_lt_mul (by omega), Nat.mul_comm]; omega
  refine congrArg some (iteb ?_ _ _)
  rw [Bool.eq_iff_iff]
  simp only [Bool.and_eq_true, decide_eq_true_eq, inF]
  generalize i / W = qi at *
  generalize i % W = mi at *
  clear hn hi
  constructor
  · rintro ⟨_, h2, h3, h4, h5⟩; exact ⟨h1, h2, h3, h4, h5⟩
  · rintro ⟨_, h2, h3, h4, h5⟩
    refine ⟨?_, h2, h3, h4, h5⟩
    unfold clampV at he
    split at he <;> (try split at he) <;> (try split at he) <;> (try split at he) <;> omega
theorem mixL_row {cs : List CellD} {W H : Nat} {x y w h : Int} {z : CellD} {l e r : Nat} {c : Nat} (hW : 1 ≤ W) (hn : cs.length = W * H) (hr : r < H) (hl : (l : Int) = clampV x 0 (W : Int)) (he : (e : Int) = clampV (x + w) (clampV x 0 (W : Int)) (W : Int)) (hy1 : y ≤ (r : Int)) (hy2 : (r : Int) < y + h) (hc : c = r * W) :
    over (mixL cs W x y w h z r) (c + l) (List.replicate (e - l) z) = mixL cs W x y w h z (r + 1) := by
  have hle : l ≤ e ∧ e ≤ W := by
    have h1 := clampV_bdF x 0 (W : Int) (by omega)
    have h2 := clampV_bdF (x + w) (clampV x 0 (W : Int)) (W : Int) h1.2
    omega
  have hrow : c + W ≤ W * H := by
    have h1 : (r + 1) * W ≤ H * W := Nat.mul_le_mul_right W hr
    rw [Nat.add_mul, Nat.mul_comm H W] at h1; omega
  have hlen : (c + l) + (List.replicate (e - l) z).length ≤ (mixL cs W x y w h z r).length := by rw [List.length_replicate, mixL_len]; omega
  refine mixL_ext (by rw [over_len hlen, mixL_len]) fun i hi => ?_
  rw [over_get hlen, mixL_get hi, List.length_replicate]
  have hdm := Nat.div_add_mod i W
  have hml := Nat.mod_lt i (show W > 0 by omega)
  rcases Nat.lt_trichotomy (i / W) r with a | a | a
  · have hlt : i < c := by rw [hc, ← Nat.div_lt_iff_lt_mul (by omega)]; exact a
    rw [if_pos (by omega)]
    refine congrArg some (iteb ?_ _ _)
    rw [Bool.eq_iff_iff]
    simp only [Bool.and_eq_true, decide_eq_true_eq]
    constructor <;> rintro ⟨h1, h2⟩ <;> exact ⟨by omega, h2⟩
  · have hiw : i = c + i % W := by rw [a, Nat.mul_comm] at hdm; omega
    have hin : inF W x y w h i = decide (l ≤ i % W ∧ i % W < e) := by
      unfold inF
      rw [Bool.eq_iff_iff]
      simp only [decide_eq_true_eq]
      rw [a]
      clear hiw hdm
      generalize i % W = mi at *
      unfold clampV at hl he
      split at hl <;> (try split at hl) <;> split at he <;> (try split at he) <;> (try split at he) <;> omega
    rw [hin]
    by_cases b1 : i < c + l
    · rw [if_pos b1]
      rw [show (decide (i / W < r) && decide (l ≤ i % W ∧ i % W < e)) = false by simp; omega, show (decide (i / W < r + 1) && decide (l ≤ i % W ∧ i % W < e)) = false by simp; omega]
    · rw [if_neg b1]
      by_cases b2 : i < c + l + (e - l)
      · rw [if_pos b2, List.getElem?_replicate, if_pos (by omega)]
        rw [show (decide (i / W < r + 1) && decide (l ≤ i % W ∧ i % W < e)) = true by simp; omega]
        rfl
      · rw [if_neg b2]
        rw [show (decide (i / W < r) && decide (l ≤ i % W ∧ i % W < e)) = false by simp; omega, show (decide (i / W < r + 1) && decide (l ≤ i % W ∧ i % W < e)) = false by simp; omega]
  · have hge : c + W ≤ i := by
      have h1 : (r + 1) * W ≤ (i / W) * W := Nat.mul_le_mul_right W a
      have h2 := Nat.div_mul_le_self i W
      rw [Nat.add_mul] at h1; omega
    rw [if_neg (by omega), if_neg (by omega)]
    refine congrArg some (iteb ?_ _ _)
    rw [Bool.eq_iff_iff]
    simp only [Bool.and_eq_true, decide_eq_true_eq]
    constructor <;> rintro ⟨h1, h2⟩ <;> exact ⟨by omega, h2⟩
def smallB (n : Int) : Bool := decide (-100000 ≤ n ∧ n ≤ 100000)
def goodF (gw gh : Int) (cs : List CellD) (x y w h : Int) (z : CellD) : Bool := okG gw gh cs && (okC z && (smallB x && (smallB y && (smallB w && smallB h))))
def fillT (gw gh : Int) (cs : List CellD) (x y w h : Int) (z : CellD) : GridT := if goodF gw gh cs x y w h z then (gw, gh, mixL cs gw.toNat x y w h z gh.toNat) else zeroT
end Go.Proofs.Ythlpchojlddnbaa.Gr

