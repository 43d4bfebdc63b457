/- Plain arithmetic: what the decoder of UTF-8 answers, kept to the runes that show, is what the search over the sizes answers; at every four bytes. No function of the program is named. -/
import Derived.Lib.DecodeN
namespace Go.Proofs.YtbheimjepikkfaaDoor.RunePl
set_option linter.unusedVariables false
def showP (r : Int) : Prop := (32 ≤ r ∧ r ≤ 126) ∨ (160 ≤ r ∧ r ≤ 65535 ∧ (r < 55296 ∨ 57343 < r))
instance (r : Int) : Decidable (showP r) := by unfold showP; infer_instance
def one (b0 : Int) : Prop := showP b0 ∧ b0 < 128
def r2 (b0 b1 : Int) : Int := (b0 - 192) * 64 + b1 - 128
def r3 (b0 b1 b2 : Int) : Int := ((b0 - 224) * 64 + b1 - 128) * 64 + b2 - 128
def two (b0 b1 : Int) : Prop := showP (r2 b0 b1) ∧ ¬ r2 b0 b1 < 128 ∧ r2 b0 b1 < 2048 ∧ 192 + r2 b0 b1 / 64 = b0 ∧ 128 + r2 b0 b1 % 64 = b1
def three (b0 b1 b2 : Int) : Prop := showP (r3 b0 b1 b2) ∧ ¬ r3 b0 b1 b2 < 2048 ∧ 224 + r3 b0 b1 b2 / 4096 = b0 ∧ 128 + r3 b0 b1 b2 / 64 % 64 = b1 ∧ 128 + r3 b0 b1 b2 % 64 = b2
instance (b0 : Int) : Decidable (one b0) := by unfold one; infer_instance
instance (b0 b1 : Int) : Decidable (two b0 b1) := by unfold two; infer_instance
instance (b0 b1 b2 : Int) : Decidable (three b0 b1 b2) := by unfold three; infer_instance
def rrS (n : Nat) (b0 b1 b2 : Int) : Int × Int :=
  if one b0 then (b0, 1) else if 2 ≤ n ∧ two b0 b1 then (r2 b0 b1, 2) else if 3 ≤ n ∧ three b0 b1 b2 then (r3 b0 b1 b2, 3) else (0, 0)
def rrI (d : Nat × Nat) : Int × Int := if (d.1 = 65533 ∧ d.2 = 1) ∨ ¬ showP d.1 then (0, 0) else (d.1, d.2)

theorem rrS_one {n : Nat} {b0 b1 b2 : Int} (h : one b0) : rrS n b0 b1 b2 = (b0, 1) := if_pos h
theorem rrS_two {n : Nat} {b0 b1 b2 : Int} (h : ¬ one b0) (h2 : 2 ≤ n ∧ two b0 b1) : rrS n b0 b1 b2 = (r2 b0 b1, 2) := by unfold rrS; rw [if_neg h, if_pos h2]
theorem rrS_three {n : Nat} {b0 b1 b2 : Int} (h : ¬ one b0) (h2 : ¬ (2 ≤ n ∧ two b0 b1)) (h3 : 3 ≤ n ∧ three b0 b1 b2) : rrS n b0 b1 b2 = (r3 b0 b1 b2, 3) := by unfold rrS; rw [if_neg h, if_neg h2, if_pos h3]
theorem rrS_no {n : Nat} {b0 b1 b2 : Int} (h : ¬ one b0) (h2 : ¬ (2 ≤ n ∧ two b0 b1)) (h3 : ¬ (3 ≤ n ∧ three b0 b1 b2)) : rrS n b0 b1 b2 = (0, 0) := by unfold rrS; rw [if_neg h, if_neg h2, if_neg h3]
theorem rrI_no {r k : Nat} (h : (r = 65533 ∧ k = 1) ∨ ¬ showP r) : rrI (r, k) = (0, 0) := if_pos h
theorem rrI_yes {r k : Nat} (h : ¬ ((r = 65533 ∧ k = 1) ∨ ¬ showP r)) : rrI (r, k) = ((r : Int), (k : Int)) := if_neg h
/-- a lead byte below 128 or none of a rune of two or three bytes -/
theorem not_one {b : Nat} (h : 128 ≤ b) : ¬ one (b : Int) := by unfold one; omega
theorem two_iff (b0 b1 : Nat) (h0 : b0 < 256) (h1 : b1 < 256) : two b0 b1 ↔ (192 ≤ b0 ∧ b0 < 224 ∧ 128 ≤ b1 ∧ b1 < 192 ∧ 160 ≤ r2 b0 b1) := by
  unfold two showP r2; omega
theorem three_iff (b0 b1 b2 : Nat) (h0 : b0 < 256) (h1 : b1 < 256) (h2 : b2 < 256) : three b0 b1 b2 ↔ (224 ≤ b0 ∧ b0 < 240 ∧ 128 ≤ b1 ∧ b1 < 192 ∧ 128 ≤ b2 ∧ b2 < 192 ∧ 2048 ≤ r3 b0 b1 b2 ∧ r3 b0 b1 b2 ≤ 65535 ∧ (r3 b0 b1 b2 < 55296 ∨ 57343 < r3 b0 b1 b2)) := by
  unfold three showP r3; omega

set_option maxHeartbeats 4000000 in
theorem rr_eq (n b0 b1 b2 b3 : Nat) (hn : 1 ≤ n) (h0 : b0 < 256) (h1 : b1 < 256) (h2 : b2 < 256) (h3 : b3 < 256) : rrI (Go.Lib.decodeN n b0 b1 b2 b3) = rrS n b0 b1 b2 := by
  have i2 := two_iff b0 b1 h0 h1
  have i3 := three_iff b0 b1 b2 h0 h1 h2
  by_cases c0 : b0 < 128
  · have hd : Go.Lib.decodeN n b0 b1 b2 b3 = (b0, 1) := by unfold Go.Lib.decodeN; rw [if_pos c0]
    rw [hd]
    by_cases s : showP (b0 : Int)
    · rw [rrI_yes (by intro h; rcases h with h | h; omega; exact h s), rrS_one ⟨s, by omega⟩]; rfl
    · rw [rrI_no (Or.inr s), rrS_no (fun h => s h.1) (by rw [i2]; omega) (by rw [i3]; omega)]
  · have n1 := not_one (b := b0) (by omega)
    by_cases c1 : b0 / 32 = 6 ∧ (1 < n ∧ b1 / 64 = 2)
    · have e2 : ((b0 % 32 * 64 + b1 % 64 : Nat) : Int) = r2 b0 b1 := by unfold r2; omega
      by_cases c2 : b0 % 32 * 64 + b1 % 64 ≥ 128
      · have hd : Go.Lib.decodeN n b0 b1 b2 b3 = (b0 % 32 * 64 + b1 % 64, 2) := by unfold Go.Lib.decodeN; rw [if_neg c0, if_pos c1, if_pos c2]
        rw [hd]
        by_cases s : showP ((b0 % 32 * 64 + b1 % 64 : Nat) : Int)
        · rw [rrI_yes (by intro h; rcases h with h | h; omega; exact h s), rrS_two n1 ⟨by omega, i2.2 (by rw [← e2]; unfold showP at s; omega)⟩, e2]; rfl
        · rw [rrI_no (Or.inr s), rrS_no n1 (by rintro ⟨_, h⟩; exact s (by rw [e2]; exact h.1)) (by rw [i3]; omega)]
      · have hd : Go.Lib.decodeN n b0 b1 b2 b3 = (65533, 1) := by unfold Go.Lib.decodeN; rw [if_neg c0, if_pos c1, if_neg c2]
        rw [hd, rrI_no (Or.inl ⟨rfl, rfl⟩), rrS_no n1 (by rw [i2, ← e2]; omega) (by rw [i3]; omega)]
    · by_cases c2 : b0 / 16 = 14 ∧ (1 < n ∧ b1 / 64 = 2) ∧ (2 < n ∧ b2 / 64 = 2)
      · have e3 : ((b0 % 16 * 4096 + b1 % 64 * 64 + b2 % 64 : Nat) : Int) = r3 b0 b1 b2 := by unfold r3; omega
        have l3 : b0 % 16 * 4096 + b1 % 64 * 64 + b2 % 64 ≤ 65535 := by omega
        by_cases c3 : b0 % 16 * 4096 + b1 % 64 * 64 + b2 % 64 ≥ 2048 ∧ (b0 % 16 * 4096 + b1 % 64 * 64 + b2 % 64 < 55296 ∨ (57344 ≤ b0 % 16 * 4096 + b1 % 64 * 64 + b2 % 64 ∧ b0 % 16 * 4096 + b1 % 64 * 64 + b2 % 64 ≤ 1114111))
        · have hd : Go.Lib.decodeN n b0 b1 b2 b3 = (b0 % 16 * 4096 + b1 % 64 * 64 + b2 % 64, 3) := by unfold Go.Lib.decodeN; rw [if_neg c0, if_neg c1, if_pos c2, if_pos c3]
          rw [hd]
          generalize b0 % 16 * 4096 + b1 % 64 * 64 + b2 % 64 = R at *
          have s : showP (R : Int) := by unfold showP; omega
          rw [rrI_yes (by intro h; rcases h with h | h; omega; exact h s), rrS_three n1 (by rw [i2]; omega) ⟨by omega, i3.2 (by rw [← e3]; omega)⟩, e3]; rfl
        · have hd : Go.Lib.decodeN n b0 b1 b2 b3 = (65533, 1) := by unfold Go.Lib.decodeN; rw [if_neg c0, if_neg c1, if_pos c2, if_neg c3]
          rw [hd, rrI_no (Or.inl ⟨rfl, rfl⟩), rrS_no n1 (by rw [i2]; omega) (by rw [i3, ← e3]; omega)]
      · by_cases c3 : b0 / 8 = 30 ∧ (1 < n ∧ b1 / 64 = 2) ∧ (2 < n ∧ b2 / 64 = 2) ∧ (3 < n ∧ b3 / 64 = 2)
        · have hs : rrS n b0 b1 b2 = (0, 0) := rrS_no n1 (by rw [i2]; omega) (by rw [i3]; omega)
          have hd : (Go.Lib.decodeN n b0 b1 b2 b3 = (65533, 1)) ∨ ∃ R, 65536 ≤ R ∧ Go.Lib.decodeN n b0 b1 b2 b3 = (R, 4) := by
            unfold Go.Lib.decodeN
            rw [if_neg c0, if_neg c1, if_neg c2, if_pos c3]
            split
            · exact .inr ⟨_, by omega, rfl⟩
            · exact .inl rfl
          rcases hd with hd | ⟨R, hR, hd⟩
          · rw [hd, rrI_no (Or.inl ⟨rfl, rfl⟩), hs]
          · rw [hd, rrI_no (Or.inr (by unfold showP; omega)), hs]
        · have hd : Go.Lib.decodeN n b0 b1 b2 b3 = (65533, 1) := by unfold Go.Lib.decodeN; rw [if_neg c0, if_neg c1, if_neg c2, if_neg c3]
          rw [hd, rrI_no (Or.inl ⟨rfl, rfl⟩), rrS_no n1 (by rw [i2]; omega) (by rw [i3]; omega)]
end Go.Proofs.YtbheimjepikkfaaDoor.RunePl
