/- The contract of the model's number decoding: it answers the same function of the bytes and the offset as the program. -/
import Derived.Test.YteiojpglhmikoaaDoorGetVar
import Derived.Test.YteiojpglhmikoaaDoorPutCore
import Derived.Test.YteiojpglhmikoaaDoorVarPlain
import Derived.WalkSpells
import Derived.Laws.BitsAllLaws
import Derived.Laws.BytesArg
namespace Go.Proofs.YteiojpglhmikoaaDoor.Var
open Go.RowKit Go.Proofs.YteiojpglhmikoaaDoor.Bytes
set_option linter.unusedVariables false

theorem str_inj {xs ys : List Int} (hx : ∀ z ∈ xs, 0 ≤ z ∧ z < 256) (hy : ∀ z ∈ ys, 0 ≤ z ∧ z < 256) (h : strOfNums xs = strOfNums ys) : xs = ys := by
  have h1 : xs.map (fun n => UInt8.ofNat n.toNat) = ys.map (fun n => UInt8.ofNat n.toNat) := by rw [← strOfNums_data, ← strOfNums_data, h]
  have hl : xs.length = ys.length := by have := congrArg List.length h1; simpa using this
  refine List.ext_getElem hl fun i a b => ?_
  have h2 : (xs.map (fun n => UInt8.ofNat n.toNat))[i]'(by simpa using a) = (ys.map (fun n => UInt8.ofNat n.toNat))[i]'(by simpa using b) := by simp only [h1]
  simp only [List.getElem_map] at h2
  have h3 := congrArg UInt8.toNat h2
  have a1 := hx _ (List.getElem_mem a)
  have b1 := hy _ (List.getElem_mem b)
  simp only [UInt8.toNat_ofNat'] at h3
  omega

theorem str_ne {xs ys : List Int} (hx : ∀ z ∈ xs, 0 ≤ z ∧ z < 256) (hy : ∀ z ∈ ys, 0 ≤ z ∧ z < 256) (h : xs ≠ ys) :
    ((strOfNums xs).toList == (strOfNums ys).toList) = false ∧ (!((strOfNums xs).toList == (strOfNums ys).toList)) = true := by
  have hne : (strOfNums xs).toList ≠ (strOfNums ys).toList := by
    intro e
    rw [ByteArray.toList_eq, ByteArray.toList_eq] at e
    exact h (str_inj hx hy (by
      have e2 : (strOfNums xs).data = (strOfNums ys).data := by rw [← Array.toArray_toList (xs := (strOfNums xs).data), e, Array.toArray_toList]
      exact ByteArray.ext e2))
  exact ⟨beq_eq_false_iff_ne.2 hne, by rw [beq_eq_false_iff_ne.2 hne]; rfl⟩

/-! ### both, at every offset -/
end Go.Proofs.YteiojpglhmikoaaDoor.Var

