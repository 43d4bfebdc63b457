/- Plain facts on decimal numerals as lists of bytes: reading back what was written; no program is named. -/
import Derived.Lib.AtoiAll
import Derived.Lib.ItoaNum
namespace Go.Proofs.YteiojpglhmikoaaDoor.Num
open Go.Lib

def isDg (c : UInt8) : Prop := 48 ≤ c.toNat ∧ c.toNat ≤ 57
def dv (acc : Nat) (l : List UInt8) : Nat := l.foldl (fun a c => a * 10 + (c.toNat - 48)) acc
theorem dv_snoc (acc : Nat) (l : List UInt8) (c : UInt8) : dv acc (l ++ [c]) = dv acc l * 10 + (c.toNat - 48) := by simp [dv, List.foldl_append]
theorem dv_ge (l : List UInt8) : ∀ acc, acc ≤ dv acc l := by
  induction l with
  | nil => intro acc; exact Nat.le_refl _
  | cons c l ih =>
    intro acc
    have := ih (acc * 10 + (c.toNat - 48))
    show acc ≤ dv (acc * 10 + (c.toNat - 48)) l
    omega
theorem parse_dg (l : List UInt8) (h : ∀ c ∈ l, isDg c) : ∀ acc, dv acc l ≤ 4294967295 → parseUint10 acc l = .ok (dv acc l) := by
  induction l with
  | nil => intro acc _; rfl
  | cons c l ih =>
    intro acc hle
    have hc := h c (by simp)
    have hge := dv_ge l (acc * 10 + (c.toNat - 48))
    have e : dv acc (c :: l) = dv (acc * 10 + (c.toNat - 48)) l := rfl
    rw [e] at hle ⊢
    unfold isDg at hc
    rw [parseUint10, if_pos hc, if_neg (by omega), if_neg (by omega)]
    exact ih (fun x hx => h x (by simp [hx])) _ hle
theorem dg_byte {n : Nat} (h : n < 10) : (UInt8.ofNat (48 + n)).toNat = 48 + n := by
  rw [UInt8.toNat_ofNat']; omega
theorem dec_dg (k : Nat) : ∀ m, m < k → ∀ c ∈ decDigits m, isDg c := by
  induction k with
  | zero => intro m h; omega
  | succ k ih =>
    intro m h c hc
    rw [decDigits] at hc
    split at hc
    · rename_i h10
      simp at hc
      subst hc
      have := dg_byte h10
      unfold isDg
      simp at this ⊢
      omega
    · rw [List.mem_append] at hc
      rcases hc with hc | hc
      · exact ih (m / 10) (by omega) c hc
      · have := dg_byte (n := m % 10) (by omega)
        rw [List.mem_singleton] at hc
        subst hc
        unfold isDg
        omega
theorem dec_val (k : Nat) : ∀ m, m < k → dv 0 (decDigits m) = m := by
  induction k with
  | zero => intro m h; omega
  | succ k ih =>
    intro m h
    rw [decDigits]
    split
    · rename_i h10
      have := dg_byte h10
      show 0 * 10 + ((UInt8.ofNat (48 + m)).toNat - 48) = m
      omega
    · have := dg_byte (n := m % 10) (by omega)
      rw [dv_snoc, ih (m / 10) (by omega)]
      omega
theorem dec_ne (m : Nat) : decDigits m ≠ [] := by
  rw [decDigits]; split <;> simp
/-- what the numeral l stands for -/
def tnOk (l : List UInt8) : Bool := decide (dv 0 l ≤ 4294967295 ∧ decDigits (dv 0 l) = l)
def tnV (l : List UInt8) : Int := if tnOk l = true then (dv 0 l : Int) else 0
theorem tnV_yes {l : List UInt8} (h : tnOk l = true) : tnV l = (dv 0 l : Int) := if_pos h
theorem tnV_no {l : List UInt8} (h : tnOk l = false) : tnV l = 0 := if_neg (by rw [h]; simp)
theorem tn_of {l : List UInt8} {m : Nat} (h : m ≤ 4294967295) (e : decDigits m = l) : tnOk l = true ∧ dv 0 l = m := by
  have hv : dv 0 l = m := by rw [← e]; exact dec_val (m + 1) m (by omega)
  exact ⟨decide_eq_true ⟨by omega, by rw [hv, e]⟩, hv⟩
/-- what the library's reader answers where l is a numeral -/
theorem atoi_dg {l : List UInt8} (h : tnOk l = true) : atoiAll l = .ok (dv 0 l : Int) := by
  obtain ⟨hle, he⟩ := of_decide_eq_true h
  have hd : ∀ c ∈ l, isDg c := by
    have := dec_dg (dv 0 l + 1) (dv 0 l) (by omega)
    rw [he] at this
    exact this
  have hne : l ≠ [] := by
    have := dec_ne (dv 0 l)
    rw [he] at this
    exact this
  have hp := parse_dg l hd 0 hle
  cases l with
  | nil => exact absurd rfl hne
  | cons c r =>
    have hc := hd c (by simp)
    unfold isDg at hc
    unfold atoiAll
    simp only
    rw [if_neg (by omega)]
    have hm : parseMag (c :: r) = .ok (dv 0 (c :: r)) := by unfold parseMag; rw [if_neg (by simp), hp]
    rw [hm]
    simp only
    rw [if_neg (by omega), if_neg (by omega), if_neg (by omega)]
end Go.Proofs.YteiojpglhmikoaaDoor.Num

