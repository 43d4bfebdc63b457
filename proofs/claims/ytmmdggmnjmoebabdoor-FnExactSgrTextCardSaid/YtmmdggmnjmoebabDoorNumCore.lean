/- Contracts of the decimal numeral, in the model (which calls itself) and in the program (which calls the library): both answer the same digits. -/
import Derived.Test.YtmmdggmnjmoebabDoorRows
import Derived.Test.YtmmdggmnjmoebabDoorShelf
import Derived.WalkKit
import Derived.WalkSmall
import Derived.Deep.RegionWith
import Derived.Laws.BytesArg
import Derived.Laws.Concat
import Derived.Lib.Hide
import Derived.Lib.ItoaNum
namespace Go.Proofs.YtmmdggmnjmoebabDoor.Num
open Go.RowKit
set_option linter.unusedVariables false

theorem ret_str {a b : ByteArray} (h : a = b) : Ending.returned (.string a) = .returned (.string b) := by rw [h]
theorem ret_bool {a b : Bool} (h : a = b) : Ending.returned (.bool a) = .returned (.bool b) := by rw [h]
def dg (m : Nat) : ByteArray := ⟨(Lib.decDigits m).toArray⟩
theorem dg_small {m : Nat} (h : m < 10) : dg m = strOfNums [(48 + m : Int)] := by
  unfold dg; rw [Lib.decDigits, dif_pos h, strOfNums]
  have e : (48 + (m : Int)).toNat = 48 + m := by omega
  simp only [List.map_cons, List.map_nil, e]
theorem dg_big {m : Nat} (h : ¬ m < 10) : dg m = dg (m / 10) ++ strOfNums [(48 + (m : Int) % 10)] := by
  unfold dg; rw [Lib.decDigits, dif_neg h, strOfNums]
  have e : (48 + (m : Int) % 10).toNat = 48 + m % 10 := by omega
  simp only [List.map_cons, List.map_nil, e]
  apply ByteArray.ext
  simp [ByteArray.data_append]
theorem one_run (W : World) (g : Nat) (z : Int) (h : W.cell? ⟨g, 0, none⟩ = some (.int .u8 z)) :
    (convert 32 9 (.slice (some ⟨g, 0, none⟩) 1 1)).run Tryd.prog W = .ok (.string (strOfNums [z])) W :=
  run_convert_bytes_arg W 32 5 Tryd.underlying32 Tryd.underlying5 g 0 1 1 [z] rfl (fun i hi => by
    obtain rfl : i = 0 := by omega
    simpa using h) 9 Tryd.underlying9

theorem l01Num_yes (m : Int) (w : World) (h0 : 0 ≤ m) (h1 : m ≤ 4294967295) :
    Calls Tryd.prog 12 #[.int .i64 m] w fun e w' => e = .returned (.bool true) ∧ w = w' := by
  go_enter Tryd.func12, Tryd.ntmps12
  go_wp2
  go_ret
  exact ⟨ret_bool (by simp <;> omega), rfl⟩
theorem l01Num_no (m : Int) (w : World) (h0 : m < 0 ∨ 4294967295 < m) :
    Calls Tryd.prog 12 #[.int .i64 m] w fun e w' => e = .returned (.bool false) ∧ w = w' := by
  rcases h0 with h0 | h0 <;>
  · go_enter Tryd.func12, Tryd.ntmps12
    go_wp2
    go_ret
    exact ⟨ret_bool (by simp <;> omega), rfl⟩
theorem isNumber_yes (m : Int) (w : World) (h0 : 0 ≤ m) (h1 : m ≤ 4294967295) :
    Calls Tryd.prog 14 #[.int .i64 m] w fun e w' => e = .returned (.bool true) ∧ w = w' := by
  go_enter Tryd.func14, Tryd.ntmps14
  go_wp2
  go_ret
  exact ⟨ret_bool (by simp <;> omega), rfl⟩
theorem isNumber_no (m : Int) (w : World) (h0 : m < 0 ∨ 4294967295 < m) :
    Calls Tryd.prog 14 #[.int .i64 m] w fun e w' => e = .returned (.bool false) ∧ w = w' := by
  rcases h0 with h0 | h0 <;>
  · go_enter Tryd.func14, Tryd.ntmps14
    go_wp2
    go_ret
    exact ⟨ret_bool (by simp <;> omega), rfl⟩

theorem bcell {W w1 : World} {B : Nat} (hb : Below B W w1) : (∀ b o, b < B → w1.cell? ⟨b, o, none⟩ = W.cell? ⟨b, o, none⟩) :=
  fun b o h => hb.cell (p := ⟨b, o, none⟩) h

theorem tab_lt {w : World} (h : Lib.TabIs Tryd.prog w "internal/strconv.uint64pow10" .u64 Lib.pow10Tab) : 0 < w.heap.size := by
  have hc := h.cell (g := 0) (by kernel_rfl) 0 (by decide)
  simpa using World.block_lt_of_cell? w _ hc
theorem var_below {w w' : World} (hb : Below w.heap.size w w') (h : Lib.TabIs Tryd.prog w "internal/strconv.uint64pow10" .u64 Lib.pow10Tab) : Lib.TabIs Tryd.prog w' "internal/strconv.uint64pow10" .u64 Lib.pow10Tab :=
  var?_below hb (g := 0) (by kernel_rfl) (tab_lt h) h
theorem below_grow (w : World) (k : Nat) (os : Array Obj) : Below w.heap.size w (Sort.grow (w.drewN k) os) := by
  refine ⟨rfl, rfl, rfl, ?_, fun i hi => ?_⟩
  · show w.heap.size ≤ (w.heap ++ os).size
    simp
  · show (w.heap ++ os)[i]? = w.heap[i]?
    rw [Array.getElem?_append_left hi]
theorem dg_len (k : Nat) : ∀ m, m < 10 ^ k → 0 < k → (dg m).size ≤ k := by
  induction k with
  | zero => intro m _ h; omega
  | succ k ih =>
    intro m h _
    by_cases h10 : m < 10
    · rw [dg_small h10, strOfNums_size]; simp
    · rw [dg_big h10, ByteArray.size_append, strOfNums_size]
      have h2 : m / 10 < 10 ^ k := by rw [Nat.pow_succ] at h; omega
      have hk : 0 < k := by
        rcases Nat.eq_zero_or_pos k with h0 | h0
        · subst h0; simp at h2; omega
        · exact h0
      have := ih (m / 10) h2 hk
      simp; omega
theorem dg_len10 {m : Nat} (h : m ≤ 4294967295) : (dg m).size ≤ 10 := dg_len 10 m (by omega) (by omega)

set_option maxRecDepth 100000 in
set_option maxHeartbeats 3200000 in
theorem spec_yes (k : Nat) : ∀ (z : Int) (w : World), 0 ≤ z → z < k → z ≤ 4294967295 →
    Calls Tryd.prog 8 #[.int .i64 z] w fun e w' => e = .returned (.string (dg z.toNat)) ∧ Below w.heap.size w w' := by
  induction k with
  | zero => intro z w h0 h; omega
  | succ k ih =>
    intro z w h0 hk h32
    obtain ⟨m, rfl⟩ := Int.eq_ofNat_of_zero_le h0
    rw [Int.toNat_natCast]
    by_cases h10 : m < 10
    · have hcv := fun W g => one_run W g (48 + (m : Int))
      have HD := Lib.hid (dg_small h10)
      have hb0 : Below w.heap.size w (w.alloc (.cells #[.int .u8 (48 + (m : Int))] 5)) := (Below.refl _ _).alloc (Nat.le_refl _) _
      have HB := Lib.hid hb0
      clear hb0 ih
      go_enter Tryd.func8, Tryd.ntmps8
      go_wp2_with fail
      refine (l01Num_yes _ _ (by omega) (by omega)).mono ?_
      rintro e w' ⟨rfl, rfl⟩
      go_wp2_with fail
      go_ret
      exact ⟨by rw [HD.out]; rfl, HB.out⟩
    · have hcv := fun W g => one_run W g (48 + (m : Int) % 10)
      have HD := Lib.hid (dg_big h10)
      have hlen := dg_len10 (m := m / 10) (by omega)
      have hcall : ∀ W : World, Calls Tryd.prog 8 #[.int .i64 ((m : Int) / 10)] W fun e w' => e = .returned (.string (dg (m / 10))) ∧ Below W.heap.size W w' := by
        intro W
        have := ih ((m : Int) / 10) W (by omega) (by omega) (by omega)
        rw [show ((m : Int) / 10).toNat = m / 10 by omega] at this
        exact this
      have hadd := fun W : World => run_string_add_sum (P := Tryd.prog) W (dg (m / 10)) (strOfNums [48 + (m : Int) % 10]) (by rw [strOfNums_size]; simp; omega)
      have HC := Lib.hid hcall
      clear ih hcall
      have hq : IntKind.i64.wrap ((m : Int) / 10) = (m : Int) / 10 := IntWalk.i64_in _ (by omega)
      have hr : (m : Int).tmod 10 = (m : Int) % 10 := Int.tmod_eq_emod_of_nonneg (by omega)
      have hs : IntKind.i64.wrap (48 + (m : Int) % 10) = 48 + (m : Int) % 10 := IntWalk.i64_in _ (by omega)
      have hu : IntKind.u8.wrap (48 + (m : Int) % 10) = 48 + (m : Int) % 10 := by rw [IntKind.wrap_u8]; omega
      go_enter Tryd.func8, Tryd.ntmps8
      go_wp2_with fail
      refine (l01Num_yes _ _ (by omega) (by omega)).mono ?_
      rintro e w' ⟨rfl, rfl⟩
      go_wp2_with fail
      go_region_with ((go_at_call 8; refine (HC.out _).mono ?_; rintro e w' ⟨rfl, hb⟩; have hc := bcell hb))
      all_goals
        clear hq hr hs hu hcv hadd
        go_wp2_with fail
        go_ret
        have hsz := hb.size
        simp at hsz
        refine ⟨by rw [HD.out]; rfl, ?_⟩
        first
          | exact (((Below.refl w.heap.size w).drew.trans (show Below w.heap.size w.drew _ from hb)).alloc hsz _)
          | exact (((Below.refl _ _).drew.alloc (Nat.le_refl _) _).trans (hb.mono (by simp)))
theorem spec_any (z : Int) (w : World) : Calls Tryd.prog 8 #[.int .i64 z] w fun e w' => e = .returned (.string (if 0 ≤ z ∧ z ≤ 4294967295 then dg z.toNat else ⟨#[]⟩)) ∧ Below w.heap.size w w' := by
  by_cases h : 0 ≤ z ∧ z ≤ 4294967295
  · rw [if_pos h]
    exact spec_yes (z.toNat + 1) z w h.1 (by omega) h.2
  · rw [if_neg h]
    go_enter Tryd.func8, Tryd.ntmps8
    go_wp2_with fail
    refine (l01Num_no _ _ (by omega)).mono ?_
    rintro e w' ⟨rfl, rfl⟩
    go_wp2_with fail
    go_ret
    exact ⟨rfl, Below.refl _ _⟩
theorem impl_any (z : Int) (w : World) (htab : Lib.TabIs Tryd.prog w "internal/strconv.uint64pow10" .u64 Lib.pow10Tab) :
    Calls Tryd.prog 10 #[.int .i64 z] w fun e w' => e = .returned (.string (if 0 ≤ z ∧ z ≤ 4294967295 then dg z.toNat else ⟨#[]⟩)) ∧ Below w.heap.size w w' := by
  by_cases h : 0 ≤ z ∧ z ≤ 4294967295
  · rw [if_pos h]
    have hit : Lib.itoa z = Lib.decDigits z.toNat := by unfold Lib.itoa; rw [if_neg (by omega)]
    have HT := Lib.hid htab
    have HI := Lib.hid hit
    clear htab hit
    go_enter Tryd.func10, Tryd.ntmps10
    go_wp2_with fail
    refine (isNumber_yes _ _ h.1 h.2).mono ?_
    rintro e w' ⟨rfl, rfl⟩
    go_wp2_with fail
    refine (Tryd.strconv_Itoa z (by omega) (by omega) _ HT.out).mono ?_
    rintro e w' ⟨rfl, kk, os, rfl⟩
    rw [HI.out]
    go_wp2_with fail
    go_ret
    exact ⟨rfl, below_grow _ _ _⟩
  · rw [if_neg h]
    go_enter Tryd.func10, Tryd.ntmps10
    go_wp2_with fail
    refine (isNumber_no _ _ (by omega)).mono ?_
    rintro e w' ⟨rfl, rfl⟩
    go_wp2_with fail
    go_ret
    exact ⟨rfl, Below.refl _ _⟩

end Go.Proofs.YtmmdggmnjmoebabDoor.Num
