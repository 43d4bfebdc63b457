/- Plain facts on reading a string out of a list of bytes; no program is named. -/
import Derived.Test.YteiojpglhmikoaaGetPlain
import Derived.WalkKit
import Derived.Laws.BytesArg
namespace Go.Proofs.Yteiojpglhmikoaa.Var
open Go.RowKit
set_option linter.unusedVariables false

def gtOk (zs : List Int) (at_ : Int) : Bool := gvOk zs at_ && decide (gvN zs at_ ≤ 4000) && decide (gvN zs at_ ≤ (zs.length : Int) - gvE zs at_)
def gtS (zs : List Int) (at_ : Int) : ByteArray := if gtOk zs at_ = true then strOfNums ((zs.drop (gvE zs at_).toNat).take (gvN zs at_).toNat) else ⟨#[]⟩
def gtE (zs : List Int) (at_ : Int) : Int := if gtOk zs at_ = true then gvE zs at_ + gvN zs at_ else 0
theorem gtOk_no {zs : List Int} {at_ : Int} (h : gvOk zs at_ = false) : gtOk zs at_ = false := by unfold gtOk; rw [h]; rfl
theorem gt_yes {zs : List Int} {at_ : Int} {V E : Nat} (ho : gvOk zs at_ = true) (hV : gvN zs at_ = (V : Int)) (hE : gvE zs at_ = (E : Int)) (h1 : V ≤ 4000) (h2 : E + V ≤ zs.length) :
    gtOk zs at_ = true ∧ gtE zs at_ = (E : Int) + (V : Int) ∧ gtS zs at_ = strOfNums ((zs.drop E).take V) := by
  have h : gtOk zs at_ = true := by
    unfold gtOk; rw [ho, hV, hE]; simp; omega
  refine ⟨h, ?_, ?_⟩
  · unfold gtE; rw [if_pos h, hV, hE]
  · unfold gtS; rw [if_pos h, hV, hE]; simp
end Go.Proofs.Yteiojpglhmikoaa.Var

