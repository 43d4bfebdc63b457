/- Contracts of the decimal numeral, in the model (which calls itself) and in the program (which calls the library): both answer the same digits. -/
import Derived.Test.YteiojpglhmikoaaDoorRows
import Derived.Test.YteiojpglhmikoaaDoorShelf
import Derived.WalkKit
import Derived.WalkSmall
import Derived.Deep.RegionWith
import Derived.Laws.BytesArg
import Derived.Laws.Concat
import Derived.Lib.Hide
import Derived.Lib.ItoaNum
namespace Go.Proofs.YteiojpglhmikoaaDoor.Num
open Go.RowKit
set_option linter.unusedVariables false

theorem ret_bool {a b : Bool} (h : a = b) : Ending.returned (.bool a) = .returned (.bool b) := by rw [h]
def dg (m : Nat) : ByteArray := ⟨(Lib.decDigits m).toArray⟩
theorem dg_small {m : Nat} (h : m < 10) : dg m = strOfNums [(48 + m : Int)] := by
  unfold dg; rw [Lib.decDigits, dif_pos h, strOfNums]
  have e : (48 + (m : Int)).toNat = 48 + m := by omega
  simp only [List.map_cons, List.map_nil, e]
theorem dg_big {m : Nat} (h : ¬ m < 10) : dg m = dg (m / 10) ++ strOfNums [(48 + (m : Int) % 10)] := by
  unfold dg; rw [Lib.decDigits, dif_neg h, strOfNums]
  have e : (48 + (m : Int) % 10).toNat = 48 + m % 10 := by omega
  simp only [List.map_cons, List.map_nil, e]
  apply ByteArray.ext
  simp [ByteArray.data_append]
theorem isNumber_yes (m : Int) (w : World) (h0 : 0 ≤ m) (h1 : m ≤ 4294967295) :
    Calls Tryd.prog 31 #[.int .i64 m] w fun e w' => e = .returned (.bool true) ∧ w = w' := by
  go_enter Tryd.func31, Tryd.ntmps31
  go_wp2
  go_ret
  exact ⟨ret_bool (by simp <;> omega), rfl⟩
theorem isNumber_no (m : Int) (w : World) (h0 : m < 0 ∨ 4294967295 < m) :
    Calls Tryd.prog 31 #[.int .i64 m] w fun e w' => e = .returned (.bool false) ∧ w = w' := by
  rcases h0 with h0 | h0 <;>
  · go_enter Tryd.func31, Tryd.ntmps31
    go_wp2
    go_ret
    exact ⟨ret_bool (by simp <;> omega), rfl⟩

theorem tab_lt {w : World} (h : Lib.TabIs Tryd.prog w "internal/strconv.uint64pow10" .u64 Lib.pow10Tab) : 3 < w.heap.size := by
  have hc := h.cell (g := 3) (by kernel_rfl) 0 (by decide)
  simpa using World.block_lt_of_cell? w _ hc
theorem var_below {w w' : World} (hb : Below w.heap.size w w') (h : Lib.TabIs Tryd.prog w "internal/strconv.uint64pow10" .u64 Lib.pow10Tab) : Lib.TabIs Tryd.prog w' "internal/strconv.uint64pow10" .u64 Lib.pow10Tab :=
  var?_below hb (g := 3) (by kernel_rfl) (tab_lt h) h
theorem below_grow (w : World) (k : Nat) (os : Array Obj) : Below w.heap.size w (Sort.grow (w.drewN k) os) := by
  refine ⟨rfl, rfl, rfl, ?_, fun i hi => ?_⟩
  · show w.heap.size ≤ (w.heap ++ os).size
    simp
  · show (w.heap ++ os)[i]? = w.heap[i]?
    rw [Array.getElem?_append_left hi]
theorem dg_len (k : Nat) : ∀ m, m < 10 ^ k → 0 < k → (dg m).size ≤ k := by
  induction k with
  | zero => intro m _ h; omega
  | succ k ih =>
    intro m h _
    by_cases h10 : m < 10
    · rw [dg_small h10, strOfNums_size]; simp
    · rw [dg_big h10, ByteArray.size_append, strOfNums_size]
      have h2 : m / 10 < 10 ^ k := by rw [Nat.pow_succ] at h; omega
      have hk : 0 < k := by
        rcases Nat.eq_zero_or_pos k with h0 | h0
        · subst h0; simp at h2; omega
        · exact h0
      have := ih (m / 10) h2 hk
      simp; omega
theorem dg_len10 {m : Nat} (h : m ≤ 4294967295) : (dg m).size ≤ 10 := dg_len 10 m (by omega) (by omega)

theorem impl_any (z : Int) (w : World) (htab : Lib.TabIs Tryd.prog w "internal/strconv.uint64pow10" .u64 Lib.pow10Tab) :
    Calls Tryd.prog 17 #[.int .i64 z] w fun e w' => e = .returned (.string (if 0 ≤ z ∧ z ≤ 4294967295 then dg z.toNat else ⟨#[]⟩)) ∧ Below w.heap.size w w' := by
  by_cases h : 0 ≤ z ∧ z ≤ 4294967295
  · rw [if_pos h]
    have hit : Lib.itoa z = Lib.decDigits z.toNat := by unfold Lib.itoa; rw [if_neg (by omega)]
    have HT := Lib.hid htab
    have HI := Lib.hid hit
    clear htab hit
    go_enter Tryd.func17, Tryd.ntmps17
    go_wp2_with fail
    refine (isNumber_yes _ _ h.1 h.2).mono ?_
    rintro e w' ⟨rfl, rfl⟩
    go_wp2_with fail
    refine (Tryd.strconv_Itoa z (by omega) (by omega) _ HT.out).mono ?_
    rintro e w' ⟨rfl, kk, os, rfl⟩
    rw [HI.out]
    go_wp2_with fail
    go_ret
    exact ⟨rfl, below_grow _ _ _⟩
  · rw [if_neg h]
    go_enter Tryd.func17, Tryd.ntmps17
    go_wp2_with fail
    refine (isNumber_no _ _ (by omega)).mono ?_
    rintro e w' ⟨rfl, rfl⟩
    go_wp2_with fail
    go_ret
    exact ⟨rfl, Below.refl _ _⟩

end Go.Proofs.YteiojpglhmikoaaDoor.Num

