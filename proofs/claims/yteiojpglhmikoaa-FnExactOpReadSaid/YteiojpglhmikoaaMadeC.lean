/- The contracts of isMadeOf (at whatever predicate on bytes), WordOk and NameOk, and of their models: each answers the same plain function of the string. -/
import Derived.Test.YteiojpglhmikoaaRows
import Derived.WalkKit
import Derived.ProofKit
import Derived.ShutString
import Derived.Shelf.Abstract
import Derived.Lib.Hide
namespace Go.Proofs.Yteiojpglhmikoaa.Made
open Go.RowKit
set_option linter.unusedVariables false

/-- the string has 1 to m bytes, each of which fits -/
def madeB (p : Int → Bool) (m : Nat) (l : List UInt8) : Bool := decide (1 ≤ l.length) && decide (l.length ≤ m) && l.all fun c => p (c.toNat : Int)
def wb (n : Int) : Bool := (decide (97 ≤ n) && decide (n ≤ 122)) || (decide (48 ≤ n) && decide (n ≤ 57))
theorem ret_bool {a b : Bool} (h : a = b) : Ending.returned (.bool a) = .returned (.bool b) := by rw [h]
theorem take_snoc (s : ByteArray) (k : Nat) (h : k < s.size) : s.data.toList.take (k + 1) = s.data.toList.take k ++ [s[k]] := by
  rw [List.take_succ_eq_append_getElem (by simpa using h)]; rfl
theorem all_snoc (p : Int → Bool) (s : ByteArray) (k : Nat) (h : k < s.size) (a : ((s.data.toList.take k).all fun c => p (c.toNat : Int)) = true) (b : p (s[k].toNat : Int) = true) :
    ((s.data.toList.take (k + 1)).all fun c => p (c.toNat : Int)) = true := by
  rw [take_snoc s k h, List.all_append, a]; simp [b]
theorem made_no (p : Int → Bool) (m : Nat) (s : ByteArray) (k : Nat) (h : k < s.size) (b : p (s[k].toNat : Int) = false) : madeB p m s.data.toList = false := by
  have : (s.data.toList.all fun c => p (c.toNat : Int)) = false := by
    rw [List.all_eq_false]
    exact ⟨s[k], by simp [ByteArray.getElem_eq_getElem_data], by simp [b]⟩
  unfold madeB; rw [this]; simp
theorem made_len (p : Int → Bool) (m : Nat) (s : ByteArray) (h : s.size < 1 ∨ m < s.size) : madeB p m s.data.toList = false := by
  have e : s.data.toList.length = s.size := by simp
  unfold madeB; rw [e]; rcases h with h | h
  · rw [decide_eq_false (by omega : ¬ 1 ≤ s.size)]; rfl
  · rw [decide_eq_false (by omega : ¬ s.size ≤ m)]; simp
theorem made_all (p : Int → Bool) (m : Nat) (s : ByteArray) (k : Nat) (hk : k = s.size) (a : ((s.data.toList.take k).all fun c => p (c.toNat : Int)) = true) :
    madeB p m s.data.toList = (decide (1 ≤ s.size) && decide (s.size ≤ m)) := by
  have e : s.data.toList.length = s.size := by simp
  rw [List.take_of_length_le (by simp; omega)] at a
  unfold madeB; rw [e, a]; simp
theorem all_zero (p : Int → Bool) (s : ByteArray) : ((s.data.toList.take 0).all fun c => p (c.toNat : Int)) = true := by simp
theorem wb_t {n : Int} (h : (97 ≤ n ∧ n ≤ 122) ∨ (48 ≤ n ∧ n ≤ 57)) : wb n = true := by unfold wb; simp; omega
theorem wb_f {n : Int} (h : ¬ ((97 ≤ n ∧ n ≤ 122) ∨ (48 ≤ n ∧ n ≤ 57))) : wb n = false := by
  unfold wb; rw [Bool.eq_false_iff]; intro e; apply h; simp at e; omega

set_option maxRecDepth 100000 in
set_option maxHeartbeats 400000 in
theorem isWordByte_any (n : Int) (w : World) (h0 : 0 ≤ n) (h1 : n < 256) :
    Calls Try.prog 117 #[.int .u8 n] w fun e w' => e = .returned (.bool (wb n)) ∧ w = w' := by
  go_enter Try.func117, Try.ntmps117
  go_wp2
  all_goals
    go_ret
    exact ⟨ret_bool (by unfold wb; rw [Bool.eq_iff_iff]; simp; omega), rfl⟩

theorem isMadeOf_any (g : Nat) (eg : ∀ args w, (callFunc g args).run Try.prog w = .ok (.enter g args) w) (p : Int → Bool)
    (hp : ∀ (n : Int) (W : World), 0 ≤ n → n < 256 → Calls Try.prog g #[.int .u8 n] W fun e w' => e = .returned (.bool (p n)) ∧ W = w')
    (s : ByteArray) (m : Nat) (w : World) (hs : s.size ≤ maxLen) (hm : m ≤ 1000) :
    Calls Try.prog 116 #[.string s, .int .i64 m, .func (.func g) #[] #[]] w fun e w' => e = .returned (.bool (madeB p m s.data.toList)) ∧ w = w' := by
  unfold maxLen at hs
  have HP := Lib.hid hp
  clear hp
  by_cases hl : s.size < 1 ∨ m < s.size
  · have HN := Lib.hid (made_len p m s hl)
    go_enter Try.func116, Try.ntmps116
    go_wp2_with fail
    all_goals
      first
        | (exfalso; omega)
        | (go_ret; exact ⟨ret_bool HN.out.symm, rfl⟩)
  · have h1 : 1 ≤ s.size := by omega
    have h2 : s.size ≤ m := by omega
    have hd0 : decide ((s.size : Int) < 1) = false := by simp; omega
    have hd1 : decide (m < s.size) = false := by simp; omega
    clear hl
    go_enter Try.func116, Try.ntmps116
    go_wp2_with fail
    go_loop [19] (fun i => ∃ k : Nat, k ≤ s.size ∧ i = .int .i64 k ∧ Hid (((s.data.toList.take k).all fun c => p (c.toNat : Int)) = true)) (fun i => s.size - (intOf i).toNat)
    case atStart => exact ⟨0, Nat.zero_le _, rfl, Lib.hid (all_zero p s)⟩
    case round =>
      obtain ⟨k, hk, rfl, HA⟩ := hrel
      by_cases hlt : k < s.size
      · have hb0 : (0 : Int) ≤ (s[k].toNat : Int) := by omega
        have hb1 : (s[k].toNat : Int) < 256 := by have := s[k].toNat_lt; omega
        cases hr : p (s[k].toNat : Int) <;> have HR := Lib.hid hr <;> clear hr
        · have HN := Lib.hid (made_no p m s k hlt HR.out)
          go_wp2_with fail
          refine (HP.out _ _ hb0 hb1).mono ?_
          rintro e w' ⟨rfl, rfl⟩
          rw [HR.out]
          go_wp2_with fail
          go_ret
          exact ⟨ret_bool HN.out.symm, rfl⟩
        · have HS := Lib.hid (all_snoc p s k hlt HA.out HR.out)
          go_wp2_with fail
          refine (HP.out _ _ hb0 hb1).mono ?_
          rintro e w' ⟨rfl, rfl⟩
          rw [HR.out]
          go_wp2_with fail
          exact ⟨⟨k + 1, by omega, by go_num, HS⟩, by simp [intOf]; omega⟩
      · obtain rfl : s.size = k := by omega
        have HE := Lib.hid (made_all p m s _ rfl HA.out)
        go_wp2_with fail
        go_ret
        exact ⟨ret_bool (by rw [HE.out, Bool.eq_iff_iff]; simp; omega), rfl⟩

theorem eWord : ∀ args w, (callFunc 117 args).run Try.prog w = .ok (.enter 117 args) w := enters_of Try.func117 (by kernel_rfl) rfl
end Go.Proofs.Yteiojpglhmikoaa.Made

