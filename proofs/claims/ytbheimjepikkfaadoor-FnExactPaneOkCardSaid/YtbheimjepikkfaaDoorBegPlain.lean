/- Plain arithmetic: when one or two bytes begin a rune's encoding; the search over the last bytes finds just these. No function of the program is named. -/
import Derived.Test.YtbheimjepikkfaaDoorRunePlain
import Derived.Test.YtbheimjepikkfaaDoorRuneRd
namespace Go.Proofs.YtbheimjepikkfaaDoor.Rune
open Go.Proofs.YtbheimjepikkfaaDoor.RunePl Go.Proofs.YtbheimjepikkfaaDoor.Bytes
set_option linter.unusedVariables false
def begP (zs : List Int) : Prop :=
  (zs.length = 1 ∧ 194 ≤ zs.getD 0 0 ∧ zs.getD 0 0 < 240) ∨
  (zs.length = 2 ∧ 224 ≤ zs.getD 0 0 ∧ zs.getD 0 0 < 240 ∧ 128 ≤ zs.getD 1 0 ∧ zs.getD 1 0 ≤ 191 ∧ (zs.getD 0 0 = 224 → 160 ≤ zs.getD 1 0) ∧ (zs.getD 0 0 = 237 → zs.getD 1 0 ≤ 159))
instance (zs : List Int) : Decidable (begP zs) := by unfold begP; infer_instance
def begB (zs : List Int) : Bool := decide (begP zs)
theorem beg_len {zs : List Int} (h : zs.length < 1 ∨ 2 < zs.length) : begB zs = false := decide_eq_false (by unfold begP; omega)
theorem hitB {n : Nat} {b0 b1 b2 : Int} : (rrS n b0 b1 b2).2 = 2 ↔ ¬ one b0 ∧ 2 ≤ n ∧ two b0 b1 := by
  unfold rrS; repeat' split
  all_goals simp_all
theorem hitC {n : Nat} {b0 b1 b2 : Int} : (rrS n b0 b1 b2).2 = 3 ↔ ¬ one b0 ∧ ¬ (2 ≤ n ∧ two b0 b1) ∧ 3 ≤ n ∧ three b0 b1 b2 := by
  unfold rrS; repeat' split
  all_goals simp_all
theorem rd_two (b0 x : Int) : rdV ([b0] ++ [x]) 0 = rrS 2 b0 x 0 := rfl
theorem rd_three (b0 x : Int) : rdV ([b0] ++ [x] ++ [129]) 0 = rrS 3 b0 x 129 := rfl
theorem rd_three' (b0 b1 x : Int) : rdV ([b0, b1] ++ [x]) 0 = rrS 3 b0 b1 x := rfl
theorem natb {b : Int} (h0 : 0 ≤ b) (h1 : b < 256) : ∃ m : Nat, b = m ∧ m < 256 := ⟨b.toNat, by omega, by omega⟩
/-- one byte: a hit begins a rune -/
theorem beg1_hit {b0 x : Int} (h0 : 0 ≤ b0) (h1 : b0 < 256) (h2 : 128 ≤ x) (h3 : x < 192) (h : (rdV ([b0] ++ [x]) 0).2 = 2 ∨ (rdV ([b0] ++ [x] ++ [129]) 0).2 = 3) : begB [b0] = true := by
  obtain ⟨m, rfl, hm⟩ := natb h0 h1
  obtain ⟨y, rfl, hy⟩ := natb (b := x) (by omega) (by omega)
  rw [rd_two, rd_three, hitB, hitC] at h
  have i2 := two_iff m y hm hy
  have i3 := three_iff m y 129 hm hy (by omega)
  refine decide_eq_true (Or.inl ⟨rfl, ?_⟩)
  show (194 : Int) ≤ m ∧ (m : Int) < 240
  rcases h with ⟨_, _, h⟩ | ⟨_, _, _, h⟩
  · have := i2.1 h; unfold r2 at this; omega
  · have := i3.1 h; omega
theorem beg1_none {b0 : Int} (h0 : 0 ≤ b0) (h1 : b0 < 256) (h : ∀ j : Nat, j < 64 → ¬ ((rdV ([b0] ++ [128 + (j : Int)]) 0).2 = 2 ∨ (rdV ([b0] ++ [128 + (j : Int)] ++ [129]) 0).2 = 3)) : begB [b0] = false := by
  obtain ⟨m, rfl, hm⟩ := natb h0 h1
  refine decide_eq_false ?_
  intro hb
  have hb' : (194 : Int) ≤ m ∧ (m : Int) < 240 := by
    rcases hb with ⟨_, h⟩ | ⟨h, _⟩
    · exact h
    · simp at h
  have n1 : ¬ one (m : Int) := not_one (by omega)
  by_cases c : m < 224
  · refine h 63 (by omega) (Or.inl ?_)
    rw [rd_two, hitB]
    exact ⟨n1, by omega, (two_iff m 191 hm (by omega)).2 (by unfold r2; omega)⟩
  · have hx : ∀ j : Nat, j < 64 → three (m : Int) (128 + (j : Int)) 129 → False := fun j hj ht => by
      refine h j hj (Or.inr ?_)
      rw [rd_three, hitC]
      refine ⟨n1, ?_, by omega, ht⟩
      rintro ⟨_, h2⟩
      have := (two_iff m (128 + j) hm (by omega)).1 (by simpa using h2)
      omega
    by_cases c2 : m = 224
    · subst c2
      exact hx 32 (by omega) ((three_iff 224 160 129 (by omega) (by omega) (by omega)).2 (by unfold r3; omega))
    · exact hx 0 (by omega) ((three_iff m 128 129 hm (by omega) (by omega)).2 (by unfold r3; omega))
theorem beg2_hit {b0 b1 x : Int} (h0 : 0 ≤ b0) (h1 : b0 < 256) (g0 : 0 ≤ b1) (g1 : b1 < 256) (h2 : 128 ≤ x) (h3 : x < 192) (h : (rdV ([b0, b1] ++ [x]) 0).2 = 3) : begB [b0, b1] = true := by
  obtain ⟨m, rfl, hm⟩ := natb h0 h1
  obtain ⟨k, rfl, hk⟩ := natb g0 g1
  obtain ⟨y, rfl, hy⟩ := natb (b := x) (by omega) (by omega)
  rw [rd_three', hitC] at h
  have i3 := (three_iff m k y hm hk hy).1 h.2.2.2
  refine decide_eq_true (Or.inr ⟨rfl, ?_⟩)
  show (224 : Int) ≤ m ∧ (m : Int) < 240 ∧ (128 : Int) ≤ k ∧ (k : Int) ≤ 191 ∧ ((m : Int) = 224 → (160 : Int) ≤ k) ∧ ((m : Int) = 237 → (k : Int) ≤ 159)
  unfold r3 at i3
  omega
theorem beg2_none {b0 b1 : Int} (h0 : 0 ≤ b0) (h1 : b0 < 256) (g0 : 0 ≤ b1) (g1 : b1 < 256) (h : ∀ j : Nat, j < 64 → ¬ (rdV ([b0, b1] ++ [128 + (j : Int)]) 0).2 = 3) : begB [b0, b1] = false := by
  obtain ⟨m, rfl, hm⟩ := natb h0 h1
  obtain ⟨k, rfl, hk⟩ := natb g0 g1
  refine decide_eq_false ?_
  intro hb
  have hb' : (224 : Int) ≤ m ∧ (m : Int) < 240 ∧ (128 : Int) ≤ k ∧ (k : Int) ≤ 191 ∧ ((m : Int) = 224 → (160 : Int) ≤ k) ∧ ((m : Int) = 237 → (k : Int) ≤ 159) := by
    rcases hb with ⟨h, _⟩ | ⟨_, h⟩
    · simp at h
    · exact h
  refine h 1 (by omega) ?_
  rw [rd_three', hitC]
  refine ⟨not_one (by omega), ?_, by omega, (three_iff m k 129 hm hk (by omega)).2 (by unfold r3; omega)⟩
  rintro ⟨_, h2⟩
  have := (two_iff m k hm hk).1 h2
  omega
end Go.Proofs.YtbheimjepikkfaaDoor.Rune
