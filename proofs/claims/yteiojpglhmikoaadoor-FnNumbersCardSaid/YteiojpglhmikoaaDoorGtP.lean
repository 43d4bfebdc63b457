/- Plain facts on reading a string out of a list of bytes; no program is named. -/
import Derived.Test.YteiojpglhmikoaaDoorGetPlain
import Derived.WalkKit
import Derived.Laws.BytesArg
namespace Go.Proofs.YteiojpglhmikoaaDoor.Var
open Go.RowKit
set_option linter.unusedVariables false

/-- what GetVar answers where it answers yes -/
theorem gv_nat {zs : List Int} {at_ : Int} (h : gvOk zs at_ = true) : ∃ V E : Nat, gvN zs at_ = (V : Int) ∧ gvE zs at_ = (E : Int) ∧ E ≤ zs.length ∧ 0 < E := by
  have h1 := of_decide_eq_true h
  obtain ⟨a0, a1, a2, a3, _, _⟩ := h1
  refine ⟨gvv zs at_.toNat (gvk zs at_.toNat + 1), at_.toNat + gvk zs at_.toNat + 1, ?_, ?_, by omega, by omega⟩
  · unfold gvN; rw [if_pos h]
  · unfold gvE; rw [if_pos h]; omega

def gtOk (zs : List Int) (at_ : Int) : Bool := gvOk zs at_ && decide (gvN zs at_ ≤ 4000) && decide (gvN zs at_ ≤ (zs.length : Int) - gvE zs at_)
def gtS (zs : List Int) (at_ : Int) : ByteArray := if gtOk zs at_ = true then strOfNums ((zs.drop (gvE zs at_).toNat).take (gvN zs at_).toNat) else ⟨#[]⟩
def gtE (zs : List Int) (at_ : Int) : Int := if gtOk zs at_ = true then gvE zs at_ + gvN zs at_ else 0
def gtRet (zs : List Int) (at_ : Int) : Ending := .returned (.tuple #[.string (gtS zs at_), .int .i64 (gtE zs at_), .bool (gtOk zs at_)])
theorem gtRet_yes {zs : List Int} {at_ : Int} {V E : Nat} (ho : gvOk zs at_ = true) (hV : gvN zs at_ = (V : Int)) (hE : gvE zs at_ = (E : Int)) (h1 : V ≤ 4000) (h2 : E + V ≤ zs.length) :
    Ending.returned (.tuple #[.string (strOfNums ((zs.drop E).take V)), .int .i64 ((E : Int) + (V : Int)), .bool true]) = gtRet zs at_ := by
  have h : gtOk zs at_ = true := by
    unfold gtOk; rw [ho, hV, hE]; simp; omega
  unfold gtRet gtS gtE; rw [if_pos h, if_pos h, h, hV, hE]; simp
theorem gtOk_no {zs : List Int} {at_ : Int} (h : gvOk zs at_ = false) : gtOk zs at_ = false := by unfold gtOk; rw [h]; rfl
theorem gtOk_no2 {zs : List Int} {at_ : Int} {V E : Nat} (hV : gvN zs at_ = (V : Int)) (hE : gvE zs at_ = (E : Int)) (h : 4000 < V ∨ zs.length < E + V) : gtOk zs at_ = false := by
  unfold gtOk; rw [hV, hE]
  rcases h with h | h
  · rw [decide_eq_false (by omega : ¬ (V : Int) ≤ 4000)]; simp
  · rw [decide_eq_false (by omega : ¬ (V : Int) ≤ (zs.length : Int) - (E : Int))]; simp
theorem gt_yes {zs : List Int} {at_ : Int} {V E : Nat} (ho : gvOk zs at_ = true) (hV : gvN zs at_ = (V : Int)) (hE : gvE zs at_ = (E : Int)) (h1 : V ≤ 4000) (h2 : E + V ≤ zs.length) :
    gtOk zs at_ = true ∧ gtE zs at_ = (E : Int) + (V : Int) ∧ gtS zs at_ = strOfNums ((zs.drop E).take V) := by
  have h : gtOk zs at_ = true := by
    unfold gtOk; rw [ho, hV, hE]; simp; omega
  refine ⟨h, ?_, ?_⟩
  · unfold gtE; rw [if_pos h, hV, hE]
  · unfold gtS; rw [if_pos h, hV, hE]; simp
theorem gt_no {zs : List Int} {at_ : Int} (h : gtOk zs at_ = false) : gtE zs at_ = 0 ∧ gtS zs at_ = ⟨#[]⟩ := by
  unfold gtS gtE; simp [h]
end Go.Proofs.YteiojpglhmikoaaDoor.Var

