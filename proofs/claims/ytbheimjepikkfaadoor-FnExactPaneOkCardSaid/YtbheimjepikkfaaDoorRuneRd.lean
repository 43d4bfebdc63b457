/- What is read at a place as a plain function, and the library's decoder against it. -/
import Derived.Test.YtbheimjepikkfaaDoorShows
import Derived.Test.YtbheimjepikkfaaDoorKiA
import Derived.Test.YtbheimjepikkfaaDoorRunePlain
import Derived.Laws.BytesArg
namespace Go.Proofs.YtbheimjepikkfaaDoor.Rune
open Go.RowKit Go.Proofs.YtbheimjepikkfaaDoor.Bytes Go.Proofs.YtbheimjepikkfaaDoor.RunePl
set_option linter.unusedVariables false
theorem showB_iff (r : Int) : showB r = true ↔ showP r := by unfold showB showP; exact decide_eq_true_iff
theorem showB_no {r : Int} (h : ¬ showP r) : showB r = false := by unfold showB; exact decide_eq_false h
/-- what is read at a place -/
def rdV (zs : List Int) (at_ : Int) : Int × Int :=
  if 0 ≤ at_ ∧ at_ < zs.length then rrS (zs.length - at_.toNat) (zs.getD at_.toNat 0) (zs.getD (at_.toNat + 1) 0) (zs.getD (at_.toNat + 2) 0) else (0, 0)
theorem rdV_no {zs : List Int} {at_ : Int} (h : ¬ (0 ≤ at_ ∧ at_ < zs.length)) : rdV zs at_ = (0, 0) := if_neg h
theorem rdV_yes {zs : List Int} {k : Nat} (h : k < zs.length) : rdV zs (k : Int) = rrS (zs.length - k) (zs.getD k 0) (zs.getD (k + 1) 0) (zs.getD (k + 2) 0) := by
  unfold rdV; rw [if_pos (by omega), Int.toNat_natCast]
theorem str_get (xs : List Int) (h : Rng xs) (j : Nat) : (((strOfNums xs).get! j).toNat : Int) = xs.getD j 0 := by
  have e : (strOfNums xs).get! j = ((xs.map fun n => UInt8.ofNat n.toNat).toArray)[j]! := rfl
  rw [e]
  by_cases hj : j < xs.length
  · have hr := h.at_ j
    have e2 : xs.getD j 0 = xs[j] := by simp [List.getD, hj]
    rw [getElem!_pos _ _ (by simpa using hj)]
    rw [e2] at hr ⊢
    simp
    omega
  · rw [getElem!_neg _ _ (by simpa using hj)]
    simp [List.getD, List.getElem?_eq_none (Nat.le_of_not_lt hj)]
    rfl
theorem ret_two {a b c d : Int} (h : a = c) (h' : b = d) : Ending.returned (.tuple #[.int .i64 a, .int .i64 b]) = .returned (.tuple #[.int .i64 c, .int .i64 d]) := by rw [h, h']
end Go.Proofs.YtbheimjepikkfaaDoor.Rune
