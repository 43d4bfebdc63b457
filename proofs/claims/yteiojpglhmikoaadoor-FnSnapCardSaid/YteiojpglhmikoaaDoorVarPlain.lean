/- Plain facts on the base-128 encoding of numbers, over lists of integers; no program is named. -/
import GoSem.Claim
namespace Go.Proofs.YteiojpglhmikoaaDoor.Var

/-- the encoding of a number: seven bits a byte, the least first -/
def vEnc (n : Nat) : List Int :=
  if h : n < 128 then [(n : Int)] else ((n % 128 + 128 : Nat) : Int) :: vEnc (n / 128)
termination_by n
decreasing_by omega

theorem vEnc_small {n : Nat} (h : n < 128) : vEnc n = [(n : Int)] := by rw [vEnc, dif_pos h]
theorem vEnc_big {n : Nat} (h : ¬ n < 128) : vEnc n = ((n % 128 + 128 : Nat) : Int) :: vEnc (n / 128) := by rw [vEnc, dif_neg h]
theorem vEnc_len (k : Nat) : ∀ n, n < 128 ^ k → 0 < k → (vEnc n).length ≤ k := by
  induction k with
  | zero => intro n _ h; omega
  | succ k ih =>
    intro n h _
    by_cases hs : n < 128
    · rw [vEnc_small hs]; simp
    · rw [vEnc_big hs, List.length_cons]
      have h2 : n / 128 < 128 ^ k := by rw [Nat.pow_succ] at h; omega
      have hk : 0 < k := by
        rcases Nat.eq_zero_or_pos k with h0 | h0
        · subst h0; simp at h2; omega
        · exact h0
      have := ih (n / 128) h2 hk
      omega
theorem vEnc_len5 {n : Nat} (h : n ≤ 4294967295) : (vEnc n).length ≤ 5 := vEnc_len 5 n (by omega) (by omega)
theorem vEnc_pos (n : Nat) : 0 < (vEnc n).length := by
  by_cases hs : n < 128
  · rw [vEnc_small hs]; simp
  · rw [vEnc_big hs]; simp
theorem vEnc_rng (k : Nat) : ∀ n, n < k → ∀ z ∈ vEnc n, 0 ≤ z ∧ z < 256 := by
  induction k with
  | zero => intro n h; omega
  | succ k ih =>
    intro n h z hz
    by_cases hs : n < 128
    · rw [vEnc_small hs] at hz; simp at hz; omega
    · rw [vEnc_big hs] at hz
      rcases List.mem_cons.1 hz with e | e
      · omega
      · exact ih (n / 128) (by omega) z e

/-- what a list of digits is worth -/
def val : List Int → Nat
  | [] => 0
  | d :: ds => (d % 128).toNat + 128 * val ds
theorem val_enc (k : Nat) : ∀ n, n < k → val (vEnc n) = n := by
  induction k with
  | zero => intro n h; omega
  | succ k ih =>
    intro n h
    by_cases hs : n < 128
    · rw [vEnc_small hs]; simp [val]; omega
    · rw [vEnc_big hs, val, ih (n / 128) (by omega)]; omega
theorem val_snoc (l : List Int) (d : Int) : val (l ++ [d]) = val l + (d % 128).toNat * 128 ^ l.length := by
  induction l with
  | nil => simp [val]
  | cons x l ih => rw [List.cons_append, val, ih, val, List.length_cons, Nat.pow_succ, Nat.mul_add, ← Nat.mul_assoc]; 
                   rw [show 128 * (d % 128).toNat * 128 ^ l.length = (d % 128).toNat * (128 ^ l.length * 128) by rw [Nat.mul_comm 128, Nat.mul_assoc, Nat.mul_comm 128]]; omega
theorem val_lt (l : List Int) : val l < 128 ^ l.length := by
  induction l with
  | nil => simp [val]
  | cons x l ih => rw [val, List.length_cons, Nat.pow_succ]; omega

/-- a list of digits that go on (128 or more), then one that ends -/
def Seg (l : List Int) (d : Int) : Prop := (∀ z ∈ l, 128 ≤ z ∧ z < 256) ∧ 0 ≤ d ∧ d < 128
theorem enc_val (l : List Int) : ∀ d, Seg l d → (vEnc (val (l ++ [d])) = l ++ [d] ↔ (l = [] ∨ d ≠ 0)) := by
  induction l with
  | nil =>
    intro d h
    have h0 := h.2
    have e : val ([] ++ [d]) = d.toNat := by simp [val]; omega
    rw [e, vEnc_small (by omega)]
    simp; omega
  | cons x l ih =>
    intro d h
    have hx := h.1 x (by simp)
    have h0 := h.2
    have hseg : Seg l d := ⟨fun z hz => h.1 z (by simp [hz]), h0⟩
    have hi := ih d hseg
    have e : val (x :: l ++ [d]) = (x % 128).toNat + 128 * val (l ++ [d]) := rfl
    rw [e]
    by_cases hv : val (l ++ [d]) = 0
    · rw [hv, vEnc_small (by omega)]
      have hd : d = 0 := by
        rw [val_snoc] at hv
        have hp : 0 < 128 ^ l.length := Nat.pow_pos (by omega)
        have h1 : (d % 128).toNat * 128 ^ l.length = 0 := by omega
        rcases Nat.mul_eq_zero.1 h1 with h2 | h2
        · omega
        · omega
      constructor
      · intro he
        have := congrArg List.length he
        simp at this
      · intro he; rcases he with he | he
        · simp at he
        · exact absurd hd he
    · rw [vEnc_big (by omega)]
      have e1 : ((x % 128).toNat + 128 * val (l ++ [d])) % 128 + 128 = x.toNat := by omega
      have e2 : ((x % 128).toNat + 128 * val (l ++ [d])) / 128 = val (l ++ [d]) := by omega
      rw [e1, e2, List.cons_append, List.cons.injEq]
      constructor
      · intro he
        refine .inr ?_
        rcases hi.1 he.2 with h1 | h1
        · subst h1
          intro hd
          rw [hd] at hv
          simp [val] at hv
        · exact h1
      · intro he
        refine ⟨by omega, hi.2 ?_⟩
        rcases he with he | he
        · simp at he
        · exact .inr he
end Go.Proofs.YteiojpglhmikoaaDoor.Var

