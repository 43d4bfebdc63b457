/- Plain facts on the names of a generation's files: what a name says; reading it place by place as the model does gives the same. No function is walked. -/
import Derived.Test.YteiojpglhmikoaaDoorGenName
import Derived.Test.YteiojpglhmikoaaDoorTextCore
import Derived.Lib.Strings
namespace Go.Proofs.YteiojpglhmikoaaDoor.Num
open Go.RowKit
set_option linter.unusedVariables false

/-- the rest of a text behind a prefix of its -/
def rst (s : ByteArray) (k : Nat) : List UInt8 := s.data.toList.drop k
def gb (p s : ByteArray) : Bool := Lib.hasPrefix s.data.toList p.data.toList && decide (tnOk (rst s p.size) = true ∧ 1 ≤ tnV (rst s p.size) ∧ tnV (rst s p.size) ≤ 1000000000)
def gbV (p s : ByteArray) : Int := if gb p s = true then tnV (rst s p.size) else 0
def goOk (s : ByteArray) : Bool := gb snapP s || gb logP s
def goV (s : ByteArray) : Int := if gb snapP s = true then gbV snapP s else gbV logP s

theorem pre_iff {p s : ByteArray} : Lib.hasPrefix s.data.toList p.data.toList = true ↔ s.data.toList = p.data.toList ++ rst s p.size := by
  unfold Lib.hasPrefix rst
  rw [List.isPrefixOf_iff_prefix]
  have hp : p.data.toList.length = p.size := by simp
  constructor
  · rintro ⟨t, ht⟩
    rw [← ht, ← hp, List.drop_left]
  · intro h
    exact ⟨_, h.symm⟩
theorem nt_list {g : Int} (h1 : 1 ≤ g) (h2 : g ≤ 1000000000) : (nt g).data.toList = Lib.decDigits g.toNat := by
  unfold nt; rw [if_pos ⟨by omega, by omega⟩]; rfl
theorem nm_list {p : ByteArray} {g : Int} (h1 : 1 ≤ g) (h2 : g ≤ 1000000000) : (nm p g).data.toList = p.data.toList ++ Lib.decDigits g.toNat := by
  rw [nm_yes h1 h2, ByteArray.data_append, Array.toList_append, nt_list h1 h2]
theorem tn_dec {m : Nat} (h : m ≤ 1000000000) : tnOk (Lib.decDigits m) = true ∧ tnV (Lib.decDigits m) = (m : Int) := by
  obtain ⟨h1, h2⟩ := tn_of (l := Lib.decDigits m) (m := m) (by omega) rfl
  exact ⟨h1, by rw [tnV_yes h1, h2]⟩
/-- a name that is written is read -/
theorem gb_of {p s : ByteArray} {g : Int} (h1 : 1 ≤ g) (h2 : g ≤ 1000000000) (h : nm p g = s) : gb p s = true ∧ gbV p s = g := by
  subst h
  have hl := nm_list (p := p) h1 h2
  have hp : p.data.toList.length = p.size := by simp
  have hr : rst (nm p g) p.size = Lib.decDigits g.toNat := by unfold rst; rw [hl, ← hp, List.drop_left]
  obtain ⟨t1, t2⟩ := tn_dec (m := g.toNat) (by omega)
  have hk : gb p (nm p g) = true := by
    unfold gb
    rw [hr, pre_iff.2 (by rw [hr]; exact hl), t1, t2]
    exact decide_eq_true ⟨rfl, by omega, by omega⟩
  refine ⟨hk, ?_⟩
  unfold gbV; rw [if_pos hk, hr, t2]; omega
theorem go_yes_snap {s : ByteArray} (h : gb snapP s = true) : goOk s = true ∧ goV s = gbV snapP s := by
  unfold goOk goV; rw [h]; exact ⟨rfl, if_pos rfl⟩
theorem go_snap_no {s : ByteArray} (h : gb snapP s = false) : goOk s = gb logP s ∧ goV s = gbV logP s := by
  unfold goOk goV; rw [h]; exact ⟨rfl, if_neg (by simp)⟩

/-! ### place by place -/
def hit (s : ByteArray) (k : Nat) : Prop := 0 < tnV (rst s (k + 1)) ∧ (nm snapP (tnV (rst s (k + 1))) = s ∨ nm logP (tnV (rst s (k + 1))) = s)
end Go.Proofs.YteiojpglhmikoaaDoor.Num

