/- Plain facts on the names of a generation's files: what a name says; reading it place by place as the model does gives the same. No function is walked. -/
import Derived.Test.YtmlodfceepokoaaDoorGenName
import Derived.Lib.Strings
namespace Go.Proofs.YtmlodfceepokoaaDoor.Num
open Go.RowKit
set_option linter.unusedVariables false

/-- the rest of a text behind a prefix of its -/
def rst (s : ByteArray) (k : Nat) : List UInt8 := s.data.toList.drop k
def gb (p s : ByteArray) : Bool := Lib.hasPrefix s.data.toList p.data.toList && decide (tnOk (rst s p.size) = true ∧ 1 ≤ tnV (rst s p.size) ∧ tnV (rst s p.size) ≤ 1000000000)
def gbV (p s : ByteArray) : Int := if gb p s = true then tnV (rst s p.size) else 0
def goOk (s : ByteArray) : Bool := gb snapP s || gb logP s
def goV (s : ByteArray) : Int := if gb snapP s = true then gbV snapP s else gbV logP s

theorem pre_iff {p s : ByteArray} : Lib.hasPrefix s.data.toList p.data.toList = true ↔ s.data.toList = p.data.toList ++ rst s p.size := by
  unfold Lib.hasPrefix rst
  rw [List.isPrefixOf_iff_prefix]
  have hp : p.data.toList.length = p.size := by simp
  constructor
  · rintro ⟨t, ht⟩
    rw [← ht, ← hp, List.drop_left]
  · intro h
    exact ⟨_, h.symm⟩
theorem nt_list {g : Int} (h1 : 1 ≤ g) (h2 : g ≤ 1000000000) : (nt g).data.toList = Lib.decDigits g.toNat := by
  unfold nt; rw [if_pos ⟨by omega, by omega⟩]; rfl
theorem nm_list {p : ByteArray} {g : Int} (h1 : 1 ≤ g) (h2 : g ≤ 1000000000) : (nm p g).data.toList = p.data.toList ++ Lib.decDigits g.toNat := by
  rw [nm_yes h1 h2, ByteArray.data_append, Array.toList_append, nt_list h1 h2]
theorem tn_dec {m : Nat} (h : m ≤ 1000000000) : tnOk (Lib.decDigits m) = true ∧ tnV (Lib.decDigits m) = (m : Int) := by
  obtain ⟨h1, h2⟩ := tn_of (l := Lib.decDigits m) (m := m) (by omega) rfl
  exact ⟨h1, by rw [tnV_yes h1, h2]⟩
/-- a name that is written is read -/
theorem gb_of {p s : ByteArray} {g : Int} (h1 : 1 ≤ g) (h2 : g ≤ 1000000000) (h : nm p g = s) : gb p s = true ∧ gbV p s = g := by
  subst h
  have hl := nm_list (p := p) h1 h2
  have hp : p.data.toList.length = p.size := by simp
  have hr : rst (nm p g) p.size = Lib.decDigits g.toNat := by unfold rst; rw [hl, ← hp, List.drop_left]
  obtain ⟨t1, t2⟩ := tn_dec (m := g.toNat) (by omega)
  have hk : gb p (nm p g) = true := by
    unfold gb
    rw [hr, pre_iff.2 (by rw [hr]; exact hl), t1, t2]
    exact decide_eq_true ⟨rfl, by omega, by omega⟩
  refine ⟨hk, ?_⟩
  unfold gbV; rw [if_pos hk, hr, t2]; omega
theorem gb_parts {p s : ByteArray} (h : gb p s = true) : s.data.toList = p.data.toList ++ rst s p.size ∧ tnOk (rst s p.size) = true ∧ 1 ≤ tnV (rst s p.size) ∧ tnV (rst s p.size) ≤ 1000000000 := by
  unfold gb at h
  rw [Bool.and_eq_true] at h
  exact ⟨pre_iff.1 h.1, of_decide_eq_true h.2⟩
/-- a name that is read is written -/
theorem nm_of {p s : ByteArray} (h : gb p s = true) : nm p (tnV (rst s p.size)) = s := by
  obtain ⟨h0, h1, h2, h3⟩ := gb_parts h
  refine bytes_eq ?_
  rw [nm_list h2 h3, h0]
  congr 1
  rw [tnV_yes h1, Int.toNat_natCast]
  exact (of_decide_eq_true h1).2
theorem gb_not_both {s : ByteArray} (h : gb logP s = true) : gb snapP s = false := by
  cases hs : gb snapP s
  · rfl
  · have a := (gb_parts h).1
    have b := (gb_parts hs).1
    rw [a] at b
    simp [logP, snapP] at b
theorem go_yes_snap {s : ByteArray} (h : gb snapP s = true) : goOk s = true ∧ goV s = gbV snapP s := by
  unfold goOk goV; rw [h]; exact ⟨rfl, if_pos rfl⟩
theorem go_yes_log {s : ByteArray} (h : gb logP s = true) : goOk s = true ∧ goV s = gbV logP s := by
  unfold goOk goV; rw [gb_not_both h, h]; exact ⟨rfl, if_neg (by simp)⟩
theorem go_snap_no {s : ByteArray} (h : gb snapP s = false) : goOk s = gb logP s ∧ goV s = gbV logP s := by
  unfold goOk goV; rw [h]; exact ⟨rfl, if_neg (by simp)⟩

/-! ### place by place -/
def hit (s : ByteArray) (k : Nat) : Prop := 0 < tnV (rst s (k + 1)) ∧ (nm snapP (tnV (rst s (k + 1))) = s ∨ nm logP (tnV (rst s (k + 1))) = s)
def NoHit (s : ByteArray) (k : Nat) : Prop := ∀ j, (h : j < s.size) → j < k → s[j] = 46 → ¬ hit s j
theorem noHit_zero (s : ByteArray) : NoHit s 0 := fun j _ h => by omega
theorem NoHit.succ {s : ByteArray} {k : Nat} (h : NoHit s k) (hk : (hk : k < s.size) → s[k] = 46 → ¬ hit s k) : NoHit s (k + 1) := by
  intro j hj hlt he
  by_cases e : j = k
  · subst e; exact hk hj he
  · exact h j hj (by omega) he
theorem hit_go {s : ByteArray} {k : Nat} (hs : 0 < s.size) (h : hit s k) : goOk s = true ∧ goV s = tnV (rst s (k + 1)) := by
  obtain ⟨h0, h1⟩ := h
  have hle : tnV (rst s (k + 1)) ≤ 1000000000 := by
    rcases Int.lt_or_le 1000000000 (tnV (rst s (k + 1))) with hlt | hle
    · have e1 := nm_no (p := snapP) (.inr hlt)
      have e2 := nm_no (p := logP) (.inr hlt)
      rw [e1, e2] at h1
      have e3 : (⟨#[]⟩ : ByteArray) = s := h1.elim id id
      rw [← e3] at hs
      exact absurd hs (by decide)
    · exact hle
  rcases h1 with h1 | h1
  · obtain ⟨a, b⟩ := gb_of (by omega) hle h1
    exact ⟨(go_yes_snap a).1, (go_yes_snap a).2.trans b⟩
  · obtain ⟨a, b⟩ := gb_of (by omega) hle h1
    exact ⟨(go_yes_log a).1, (go_yes_log a).2.trans b⟩
theorem at_list {s : ByteArray} {k : Nat} (h : k < s.size) {c : UInt8} (e : s.data.toList[k]? = some c) : s[k] = c := by
  have h2 : k < s.data.toList.length := by simpa using h
  rw [List.getElem?_eq_getElem h2] at e
  injection e
theorem gb_hit {p s : ByteArray} {k : Nat} (hp : p.size = k + 1) (hk : p.data.toList[k]? = some 46) (h : gb p s = true) (hpp : p = snapP ∨ p = logP) : ∃ h : k < s.size, s[k] = 46 ∧ hit s k := by
  obtain ⟨h0, h1, h2, h3⟩ := gb_parts h
  have hl := congrArg List.length h0
  have hp' : p.data.toList.length = p.size := by simp
  have hs' : s.data.toList.length = s.size := by simp
  rw [List.length_append, hp', hs', hp] at hl
  have hlt : k < s.size := by omega
  refine ⟨hlt, at_list hlt ?_, ?_⟩
  · rw [h0, List.getElem?_append_left (by omega)]; exact hk
  · have hn := nm_of h
    rw [hp] at h2 hn
    refine ⟨by omega, ?_⟩
    rcases hpp with rfl | rfl
    · exact .inl hn
    · exact .inr hn
theorem noHit_go {s : ByteArray} (h : NoHit s s.size) : goOk s = false ∧ goV s = 0 := by
  have e1 : gb snapP s = false := by
    cases hs : gb snapP s
    · rfl
    · obtain ⟨hk, he, hh⟩ := gb_hit (k := 4) rfl rfl hs (.inl rfl)
      exact absurd hh (h 4 hk hk he)
  have e2 : gb logP s = false := by
    cases hs : gb logP s
    · rfl
    · obtain ⟨hk, he, hh⟩ := gb_hit (k := 3) rfl rfl hs (.inr rfl)
      exact absurd hh (h 3 hk hk he)
  obtain ⟨a, b⟩ := go_snap_no e1
  refine ⟨by rw [a, e2], ?_⟩
  rw [b]; unfold gbV; rw [e2]; rfl
end Go.Proofs.YtmlodfceepokoaaDoor.Num
