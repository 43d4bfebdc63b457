/- Contracts of the names of files, in the program and in the model. -/
import Derived.Test.YtfkdfabbpebljaaGreatMade
import Derived.OpenShut
namespace Go.Proofs.YtfkdfabbpebljaaGreat.fnExactNameOk
open Go.ChangeShapes Go.WideShapes Go.ChangeAt Go.RowKit
open Go.ChangeMaps (open_string shut_string)
open Go.Proofs.YtfkdfabbpebljaaGreat.Made
set_option linter.unusedVariables false


theorem nb_t {n : Int} (h : (97 ≤ n ∧ n ≤ 122) ∨ (48 ≤ n ∧ n ≤ 57) ∨ n = 46) : nb n = true := by unfold nb wb; simp; omega
theorem nb_f {n : Int} (h : ¬ ((97 ≤ n ∧ n ≤ 122) ∨ (48 ≤ n ∧ n ≤ 57) ∨ n = 46)) : nb n = false := by
  unfold nb wb; rw [Bool.eq_false_iff]; intro e; apply h; simp at e; omega
set_option maxRecDepth 100000 in
set_option maxHeartbeats 800000 in
theorem spec_any (s : ByteArray) (w : World) (hs : s.size ≤ maxLen) :
    Calls Tryz.prog 52 #[.string s] w fun e w' => e = .returned (.bool (madeB nb 16 s.data.toList)) ∧ w = w' := by
  unfold maxLen at hs
  go_enter Tryz.func52, Tryz.ntmps52
  go_wp2
  go_loop [3] (fun i => ∃ k : Nat, k ≤ s.size ∧ i = .int .i64 k ∧ Hid (((s.data.toList.take k).all fun c => nb (c.toNat : Int)) = true)) (fun i => s.size - (intOf i).toNat)
  case atStart => exact ⟨0, Nat.zero_le _, rfl, Lib.hid (all_zero nb s)⟩
  case round =>
    obtain ⟨k, hk, rfl, HA⟩ := hrel
    by_cases hlt : k < s.size
    · have hb0 : (0 : Int) ≤ (s[k].toNat : Int) := by omega
      have hb1 : (s[k].toNat : Int) < 256 := by have := s[k].toNat_lt; omega
      by_cases hr : (97 ≤ (s[k].toNat : Int) ∧ (s[k].toNat : Int) ≤ 122) ∨ (48 ≤ (s[k].toNat : Int) ∧ (s[k].toNat : Int) ≤ 57) ∨ (s[k].toNat : Int) = 46
      · have HS := Lib.hid (all_snoc nb s k hlt HA.out (nb_t hr))
        have hne : 46 < (s[k].toNat : Int) ∨ (s[k].toNat : Int) = 46 := by omega
        by_cases h46 : (s[k].toNat : Int) = 46
        · have hn : ((s[k].toNat : Int) != 46) = false := by simpa using h46
          have hz : (s[k].toNat : Int) ≤ 46 := by omega
          have HZ := Lib.hid h46
          clear hr hne h46
          go_wp2
          all_goals exact ⟨⟨k + 1, by omega, by go_num, HS⟩, by simp [intOf]; omega⟩
        · have hr' : (97 ≤ (s[k].toNat : Int) ∧ (s[k].toNat : Int) ≤ 122) ∨ (48 ≤ (s[k].toNat : Int) ∧ (s[k].toNat : Int) ≤ 57) := by omega
          clear hr hne h46
          rcases hr' with ⟨h1, h2⟩ | ⟨h1, h2⟩
          all_goals
            go_wp2
            all_goals exact ⟨⟨k + 1, by omega, by go_num, HS⟩, by simp [intOf]; omega⟩
      · have HN := Lib.hid (made_no nb 16 s k hlt (nb_f hr))
        have hn : ((s[k].toNat : Int) != 46) = true := by rw [bne_iff_ne]; omega
        go_wp2
        all_goals
          first
            | (exfalso; omega)
            | (go_ret; exact ⟨ret_bool HN.out.symm, rfl⟩)
    · obtain rfl : s.size = k := by omega
      have HE := Lib.hid (made_all nb 16 s _ rfl HA.out)
      go_wp2
      all_goals
        go_ret
        exact ⟨ret_bool (by rw [HE.out, Bool.eq_iff_iff]; simp; omega), rfl⟩

set_option maxRecDepth 100000 in
set_option maxHeartbeats 800000 in
theorem impl_any (s : ByteArray) (w : World) (hs : s.size ≤ maxLen) :
    Calls Tryz.prog 65 #[.string s] w fun e w' => e = .returned (.bool (madeB nb 16 s.data.toList)) ∧ w = w' := by
  have hc := isMadeOf_any 86 eName nb isNameByte_any s 16 w hs (by omega)
  have HC := Lib.hid hc
  clear hc
  go_enter Tryz.func65, Tryz.ntmps65
  go_wp2_with fail
  refine HC.out.mono ?_
  rintro e w' ⟨rfl, rfl⟩
  go_wp2_with fail
  go_ret
  exact ⟨rfl, rfl⟩

end Go.Proofs.YtfkdfabbpebljaaGreat.fnExactNameOk
