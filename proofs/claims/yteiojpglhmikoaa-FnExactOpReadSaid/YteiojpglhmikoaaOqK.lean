/- Plain facts: which operations are valid, as the model asks and as the program asks, and that the two are one; no program is named. -/
import GoSem.Claim
namespace Go.Proofs.Yteiojpglhmikoaa.Oq
set_option linter.unusedVariables false

def uA (k : Int) : Bool := decide (3 ≤ k ∧ k ≤ 14)
def uB (k : Int) : Bool := decide (k = 3 ∨ k = 6 ∨ k = 9 ∨ k = 10 ∨ k = 12 ∨ k = 13)
def uC (k : Int) : Bool := decide (k = 10)
def uN (k : Int) : Bool := decide (k = 1 ∨ k = 2 ∨ k = 11)
def uT (k : Int) : Bool := decide (k = 1 ∨ k = 2 ∨ k = 3)
def uD (k : Int) : Bool := decide (k = 5)
def amF (k : Int) : Int := if k = 12 then 120 else 1000000
def blF (k : Int) : Int := if k = 3 then 0 else if k = 6 then 0 else if k = 10 then 68 else 1
def bmF (k : Int) : Int := if k = 12 then 120 else if k = 3 then 1 else if k = 6 then 255 else if k = 10 then 85 else 1000000
def inB (h : Bool) (n lo hi : Int) : Bool := if h = true then decide (lo ≤ n ∧ n ≤ hi) else decide (n = 0)
def dirB (b : Int) : Bool := decide (b = 76 ∨ b = 82 ∨ b = 85 ∨ b = 68)
/-- the model's answer -/
def okS (k a b d : Int) (wn en et ed : Bool) (lt ld n : Nat) : Bool :=
  decide (1 ≤ k ∧ k ≤ 14) && (inB (uA k) a 1 (amF k) && (inB (uB k) b (blF k) (bmF k) && (inB (uC k) d 1 120 && (inB (uD k) (n : Int) 1 2000 &&
    ((!decide (k = 10) || dirB b) && ((!uN k || wn) && ((uN k || en) && ((uT k || (et && ed)) && (decide (lt ≤ 60) && decide (ld ≤ 60))))))))))

def pnB (x : Int) : Bool := decide (1 ≤ x ∧ x ≤ 1000000)
def sdB (x : Int) : Bool := decide (1 ≤ x ∧ x ≤ 120)
def exB (x : Int) : Bool := decide (0 ≤ x ∧ x ≤ 255)
def flB (x : Int) : Bool := decide (x = 0 ∨ x = 1)
def cmB (lt ld : Nat) : Bool := decide (lt ≤ 60) && decide (ld ≤ 60)
def daB (n : Nat) : Bool := decide (1 ≤ n ∧ n ≤ 2000)
/-- what the program asks of the fields that the kind uses -/
def uok (k a b d : Int) (wn : Bool) (lt ld n : Nat) : Bool :=
  if k = 1 ∨ k = 2 then wn && cmB lt ld
  else if k = 3 then pnB a && flB b && cmB lt ld
  else if k = 4 ∨ k = 7 ∨ k = 8 ∨ k = 14 then pnB a
  else if k = 5 then pnB a && daB n
  else if k = 6 then pnB a && exB b
  else if k = 9 then pnB a && pnB b
  else if k = 10 then pnB a && dirB b && sdB d
  else if k = 11 then pnB a && wn
  else if k = 12 then sdB a && sdB b
  else if k = 13 then pnB a && pnB b
  else false
/-- and of the others -/
def unB (k a b d : Int) (en et ed : Bool) (n : Nat) : Bool :=
  ((uA k || decide (a ≠ 0)) == uA k) && (((uB k || decide (b ≠ 0)) == uB k) && (((uC k || decide (d ≠ 0)) == uC k) && (((uN k || !en) == uN k) && (((uT k || !et) == uT k) && (((uT k || !ed) == uT k) && ((uD k || decide (0 < n)) == uD k))))))
def okI (k a b d : Int) (wn en et ed : Bool) (lt ld n : Nat) : Bool := unB k a b d en et ed n && uok k a b d wn lt ld n

set_option maxHeartbeats 4000000 in
theorem ok_same (k a b d : Int) (wn en et ed : Bool) (lt ld n : Nat) (h1 : et = true → lt = 0) (h2 : ed = true → ld = 0) : okI k a b d wn en et ed lt ld n = okS k a b d wn en et ed lt ld n := by
  by_cases h : k < 1 ∨ 14 < k
  · have e1 : decide (1 ≤ k ∧ k ≤ 14) = false := decide_eq_false (by omega)
    have e2 : uok k a b d wn lt ld n = false := by
      unfold uok
      repeat (rw [if_neg (by omega)])
    unfold okI okS; rw [e1, e2]; simp
  · have hk : k = 1 ∨ k = 2 ∨ k = 3 ∨ k = 4 ∨ k = 5 ∨ k = 6 ∨ k = 7 ∨ k = 8 ∨ k = 9 ∨ k = 10 ∨ k = 11 ∨ k = 12 ∨ k = 13 ∨ k = 14 := by omega
    rw [Bool.eq_iff_iff]
    rcases hk with rfl | rfl | rfl | rfl | rfl | rfl | rfl | rfl | rfl | rfl | rfl | rfl | rfl | rfl
    all_goals
      cases wn <;> cases en <;> cases et <;> cases ed <;> simp [okI, okS, unB, uok, uA, uB, uC, uN, uT, uD, amF, blF, bmF, inB, dirB, pnB, sdB, exB, flB, cmB, daB] at h1 h2 ⊢ <;> omega
/-- what the numbers of a valid operation are at most -/
theorem ok_bd {k a b d : Int} {wn en et ed : Bool} {lt ld n : Nat} (h : okS k a b d wn en et ed lt ld n = true) :
    (1 ≤ k ∧ k ≤ 14) ∧ (0 ≤ a ∧ a ≤ 1000000) ∧ (0 ≤ b ∧ b ≤ 1000000) ∧ (0 ≤ d ∧ d ≤ 1000000) ∧ lt ≤ 60 ∧ ld ≤ 60 ∧ n ≤ 2000 ∧ (wn = true ∨ en = true) := by
  unfold okS at h
  simp only [Bool.and_eq_true, decide_eq_true_eq] at h
  obtain ⟨h0, h1, h2, h3, h4, h5, h6, h7, h8, h9, h10⟩ := h
  have am : amF k ≤ 1000000 := by unfold amF; split <;> omega
  have bm : bmF k ≤ 1000000 := by unfold bmF; repeat (split; omega)
                                  omega
  have bl : 0 ≤ blF k := by unfold blF; repeat (split; omega)
                            omega
  refine ⟨h0, ?_, ?_, ?_, h9, h10, ?_, ?_⟩
  · unfold inB at h1; split at h1 <;> simp at h1 <;> omega
  · unfold inB at h2; split at h2 <;> simp at h2 <;> omega
  · unfold inB at h3; split at h3 <;> simp at h3 <;> omega
  · unfold inB at h4; split at h4 <;> simp at h4 <;> omega
  · cases hu : uN k
    · rw [hu] at h7; simp at h7; exact .inr h7
    · rw [hu] at h6; simp at h6; exact .inl h6
end Go.Proofs.Yteiojpglhmikoaa.Oq

