/- FnExactWordOk: for every string, the function and its model answer the same; no condition beyond the given row's. -/
import Derived.Test.YtcgcamhnebbalaaRows
import Derived.WalkKit
import Derived.ProofKit
import Derived.OpenShut
import Derived.ShutString
import Derived.Lib.Hide
namespace Go.Proofs.Ytcgcamhnebbalaa.fnExactWordOk
open Go.ChangeShapes Go.WideShapes Go.ChangeAt Go.RowKit
open Go.ChangeMaps (open_string shut_string)
set_option linter.unusedVariables false

theorem own : ownKnob Try.prog.godebug = none := by kernel_rfl

def nb (n : Int) : Bool := (decide (97 ≤ n) && decide (n ≤ 122)) || (decide (48 ≤ n) && decide (n ≤ 57))
def wb (c : UInt8) : Bool := nb (c.toNat : Int)
def wordB (l : List UInt8) : Bool := decide (1 ≤ l.length) && decide (l.length ≤ 12) && l.all wb
theorem ret_bool {a b : Bool} (h : a = b) : Ending.returned (.bool a) = .returned (.bool b) := by rw [h]
theorem take_snoc (s : ByteArray) (k : Nat) (h : k < s.size) : s.data.toList.take (k + 1) = s.data.toList.take k ++ [s[k]] := by
  rw [List.take_succ_eq_append_getElem (by simpa using h)]; rfl
theorem all_snoc (s : ByteArray) (k : Nat) (h : k < s.size) (a : (s.data.toList.take k).all wb = true) (b : wb s[k] = true) :
    (s.data.toList.take (k + 1)).all wb = true := by
  rw [take_snoc s k h, List.all_append, a]; simp [b]
theorem not_all (s : ByteArray) (k : Nat) (h : k < s.size) (b : wb s[k] = false) : s.data.toList.all wb = false := by
  rw [List.all_eq_false]
  exact ⟨s[k], by simp [ByteArray.getElem_eq_getElem_data], by simp [b]⟩
theorem all_end (s : ByteArray) (k : Nat) (hk : k = s.size) (a : (s.data.toList.take k).all wb = true) : s.data.toList.all wb = true := by
  rw [List.take_of_length_le (by simp; omega)] at a; exact a
theorem all_zero (s : ByteArray) : (s.data.toList.take 0).all wb = true := by simp
theorem word_no (s : ByteArray) (h : s.data.toList.all wb = false) : wordB s.data.toList = false := by unfold wordB; simp [h]
theorem word_len (s : ByteArray) (h : s.size < 1 ∨ 12 < s.size) : wordB s.data.toList = false := by
  have e : s.data.toList.length = s.size := by simp
  unfold wordB; rw [e]; rcases h with h | h
  · rw [decide_eq_false (by omega : ¬ 1 ≤ s.size)]; rfl
  · rw [decide_eq_false (by omega : ¬ s.size ≤ 12)]; simp
theorem word_all (s : ByteArray) (h : s.data.toList.all wb = true) : wordB s.data.toList = (decide (1 ≤ (s.size : Int)) && decide ((s.size : Int) ≤ 12)) := by
  have e : s.data.toList.length = s.size := by simp
  unfold wordB; rw [e, h, Bool.eq_iff_iff]; simp; omega
theorem nb_t {n : Int} (h : (97 ≤ n ∧ n ≤ 122) ∨ (48 ≤ n ∧ n ≤ 57)) : nb n = true := by unfold nb; simp; omega
theorem nb_f {n : Int} (h : ¬ ((97 ≤ n ∧ n ≤ 122) ∨ (48 ≤ n ∧ n ≤ 57))) : nb n = false := by
  unfold nb; rw [Bool.eq_false_iff]; intro e; apply h; simp at e; omega

set_option maxRecDepth 100000 in
set_option maxHeartbeats 400000 in
theorem isWordByte_any (n : Int) (w : World) (h0 : 0 ≤ n) (h1 : n < 256) :
    Calls Try.prog 30 #[.int .u8 n] w fun e w' => e = .returned (.bool (nb n)) ∧ w = w' := by
  go_enter Try.func30, Try.ntmps30
  go_wp2
  all_goals
    go_ret
    exact ⟨ret_bool (by unfold nb; rw [Bool.eq_iff_iff]; simp; omega), rfl⟩

set_option maxRecDepth 100000 in
set_option maxHeartbeats 400000 in
theorem spec_any (s : ByteArray) (w : World) (hs : s.size ≤ maxLen) :
    Calls Try.prog 23 #[.string s] w fun e w' => e = .returned (.bool (wordB s.data.toList)) ∧ w = w' := by
  unfold maxLen at hs
  go_enter Try.func23, Try.ntmps23
  go_wp2
  go_loop [3] (fun i => ∃ k : Nat, k ≤ s.size ∧ i = .int .i64 k ∧ (s.data.toList.take k).all wb = true) (fun i => s.size - (intOf i).toNat)
  case atStart => exact ⟨0, Nat.zero_le _, rfl, all_zero s⟩
  case round =>
    obtain ⟨k, hk, rfl, ha⟩ := hrel
    have HA := Lib.hid ha
    clear ha
    by_cases hlt : k < s.size
    · have hb0 : (0 : Int) ≤ (s[k].toNat : Int) := by omega
      have hb1 : (s[k].toNat : Int) < 256 := by have := s[k].toNat_lt; omega
      by_cases hr : (97 ≤ (s[k].toNat : Int) ∧ (s[k].toNat : Int) ≤ 122) ∨ (48 ≤ (s[k].toNat : Int) ∧ (s[k].toNat : Int) ≤ 57)
      · have HS := Lib.hid (all_snoc s k hlt HA.out (nb_t hr))
        go_wp2
        all_goals exact ⟨⟨k + 1, by omega, by go_num, HS.out⟩, by simp [intOf]; omega⟩
      · have HN := Lib.hid (word_no s (not_all s k hlt (nb_f hr)))
        go_wp2
        all_goals
          go_ret
          exact ⟨ret_bool HN.out.symm, rfl⟩
    · obtain rfl : s.size = k := by omega
      have HE := Lib.hid (word_all s (all_end s _ rfl HA.out))
      go_wp2
      all_goals
        go_ret
        exact ⟨ret_bool (by rw [HE.out, Bool.eq_iff_iff]; simp; omega), rfl⟩

set_option maxRecDepth 100000 in
set_option maxHeartbeats 400000 in
theorem impl_any (s : ByteArray) (w : World) (hs : s.size ≤ maxLen) :
    Calls Try.prog 24 #[.string s] w fun e w' => e = .returned (.bool (wordB s.data.toList)) ∧ w = w' := by
  unfold maxLen at hs
  by_cases hl : s.size < 1 ∨ 12 < s.size
  · have HN := Lib.hid (word_len s hl)
    go_enter Try.func24, Try.ntmps24
    go_wp2
    all_goals
      first
        | (exfalso; omega)
        | (go_ret; exact ⟨ret_bool HN.out.symm, rfl⟩)
  · have h1 : 1 ≤ s.size := by omega
    have h2 : s.size ≤ 12 := by omega
    clear hl
    go_enter Try.func24, Try.ntmps24
    go_wp2
    go_loop [14] (fun i => ∃ k : Nat, k ≤ s.size ∧ i = .int .i64 k ∧ (s.data.toList.take k).all wb = true) (fun i => s.size - (intOf i).toNat)
    case atStart => exact ⟨0, Nat.zero_le _, rfl, all_zero s⟩
    case round =>
      obtain ⟨k, hk, rfl, ha⟩ := hrel
      have HA := Lib.hid ha
      clear ha
      by_cases hlt : k < s.size
      · have hb0 : (0 : Int) ≤ (s[k].toNat : Int) := by omega
        have hb1 : (s[k].toNat : Int) < 256 := by have := s[k].toNat_lt; omega
        by_cases hr : nb (s[k].toNat : Int) = true
        · have HS := Lib.hid (all_snoc s k hlt HA.out hr)
          go_wp2_with (go_at_call 30; refine (isWordByte_any _ _ (by omega) (by omega)).mono ?_; rintro e w' ⟨rfl, rfl⟩)
          all_goals exact ⟨⟨k + 1, by omega, by go_num, HS.out⟩, by simp [intOf]; omega⟩
        · have hr' : nb (s[k].toNat : Int) = false := by simpa using hr
          have HN := Lib.hid (word_no s (not_all s k hlt hr'))
          clear hr
          go_wp2_with (go_at_call 30; refine (isWordByte_any _ _ (by omega) (by omega)).mono ?_; rintro e w' ⟨rfl, rfl⟩)
          go_ret
          exact ⟨ret_bool HN.out.symm, rfl⟩
      · obtain rfl : s.size = k := by omega
        have HE := Lib.hid (word_all s (all_end s _ rfl HA.out))
        go_wp2
        go_ret
        exact ⟨ret_bool (by rw [HE.out, Bool.eq_iff_iff]; simp; omega), rfl⟩

set_option maxRecDepth 100000 in
theorem walk (a0 : ByteArray) (w0 : a0.size ≤ maxLen) (w : World) :
    Calls Try.prog 8 #[.string a0] w fun e w' => e = .returned (.bool true) ∧ Grown w w' := by
  have hs := w0
  unfold maxLen at hs
  by_cases hb : a0.size ≤ 1048576
  · cases hv : wordB a0.data.toList <;> have HV := Lib.hid hv <;> clear hv <;>
    · go_enter Try.func8, Try.ntmps8
      go_wp2_with fail
      refine (spec_any _ _ w0).mono ?_
      rintro e w' ⟨rfl, rfl⟩
      rw [HV.out]
      go_wp2_with fail
      refine (impl_any _ _ w0).mono ?_
      rintro e w' ⟨rfl, rfl⟩
      rw [HV.out]
      go_wp2_with fail
      go_ret
      exact ⟨rfl, Grown.refl _⟩
  · have hb' : 1048576 < a0.size := by omega
    go_enter Try.func8, Try.ntmps8
    go_wp2_with fail
    go_ret
    exact ⟨rfl, Grown.refl _⟩

end Go.Proofs.Ytcgcamhnebbalaa.fnExactWordOk
