/- What NumText answers, in both. -/
import Derived.Test.YteiojpglhmikoaaDoorNumCore
import Derived.Test.YteiojpglhmikoaaDoorDecPlain
namespace Go.Proofs.YteiojpglhmikoaaDoor.Num
open Go.RowKit Go.Shelf
set_option linter.unusedVariables false

theorem bytes_eq {a b : ByteArray} (h : a.data.toList = b.data.toList) : a = b := by
  have e : a.data = b.data := by rw [← Array.toArray_toList (xs := a.data), h, Array.toArray_toList]
  exact ByteArray.ext e
theorem str_ne {a b : ByteArray} (h : a ≠ b) : (a.toList == b.toList) = false ∧ (!(a.toList == b.toList)) = true := by
  have hne : a.toList ≠ b.toList := by
    intro e
    rw [ByteArray.toList_eq, ByteArray.toList_eq] at e
    exact h (bytes_eq e)
  exact ⟨beq_eq_false_iff_ne.2 hne, by rw [beq_eq_false_iff_ne.2 hne]; rfl⟩

/-- the text that NumText answers -/
def nt (z : Int) : ByteArray := if 0 ≤ z ∧ z ≤ 4294967295 then dg z.toNat else ⟨#[]⟩
theorem nt_yes {s : ByteArray} {m : Nat} (hm : m ≤ 4294967295) (h : Lib.decDigits m = s.data.toList) : nt (m : Int) = s := by
  unfold nt; rw [if_pos ⟨by omega, by omega⟩, Int.toNat_natCast]
  exact bytes_eq (by unfold dg; exact h)
theorem nt_no {s : ByteArray} {z : Int} (hs : s.data.toList ≠ []) (h : tnOk s.data.toList = false) : nt z ≠ s := by
  intro e
  unfold nt at e
  split at e
  · rename_i hz
    have e2 : Lib.decDigits z.toNat = s.data.toList := by rw [← e]; rfl
    have := (tn_of (m := z.toNat) (by omega) e2).1
    rw [h] at this; cases this
  · exact hs (by rw [← e])

theorem impl_nt (z : Int) (w : World) (htab : Lib.TabIs Tryd.prog w "internal/strconv.uint64pow10" .u64 Lib.pow10Tab) :
    Calls Tryd.prog 17 #[.int .i64 z] w fun e w' => e = .returned (.string (nt z)) ∧ Below w.heap.size w w' := impl_any z w htab
end Go.Proofs.YteiojpglhmikoaaDoor.Num

