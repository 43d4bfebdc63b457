/- Contracts of the number encoding, in the model: it appends the base-128 encoding of a number to a copy of the slice; lengths at most 2^40. -/
import Derived.Test.YteiojpglhmikoaaPutCore
import Derived.Test.YteiojpglhmikoaaVarPlain
import Derived.WalkSpells
import Derived.Laws.BitsAllLaws
namespace Go.Proofs.Yteiojpglhmikoaa.Var
open Go.RowKit Go.Proofs.Yteiojpglhmikoaa.Bytes
set_option linter.unusedVariables false
theorem l01Num_yes (m : Int) (w : World) (h0 : 0 ≤ m) (h1 : m ≤ 4294967295) :
    Calls Try.prog 87 #[.int .i64 m] w fun e w' => e = .returned (.bool true) ∧ w = w' := by
  go_enter Try.func87, Try.ntmps87
  go_wp2
  go_ret
  exact ⟨ret_bool (by simp), rfl⟩
theorem l01Num_no (m : Int) (w : World) (h0 : m < 0 ∨ 4294967295 < m) :
    Calls Try.prog 87 #[.int .i64 m] w fun e w' => e = .returned (.bool false) ∧ w = w' := by
  rcases h0 with h0 | h0 <;>
  · go_enter Try.func87, Try.ntmps87
    go_wp2
    go_ret
    exact ⟨ret_bool (by simp <;> omega), rfl⟩
set_option maxRecDepth 100000 in
set_option maxHeartbeats 800000 in
theorem spec_PutVar_yes (A : Option Addr) (n c : Nat) (zs : List Int) (m : Nat) (w : World) (hA : A = none → n = 0 ∧ c = 0) (hr : Rd w w.heap.size A zs) (hl : zs.length = n) (hn : n ≤ 1099511627776) (hm : m ≤ 4294967295) :
    Calls Try.prog 52 #[.slice A n c, .int .i64 m] w fun e w' => ∃ A' n' c', e = .returned (.tuple #[.slice A' n' c', .bool true]) ∧ Own w' w.heap.size A' n' c' (zs ++ vEnc m) ∧ Below w.heap.size w w' := by
  have HL := Lib.hid hl
  have HA := Lib.hid hA
  clear hl hA
  have hown0 : Own (w.alloc (.cells #[] 5)) w.heap.size (some ⟨w.heap.size, 0, none⟩) 0 0 [] := World.ownsRow_lit w #[] 0 (Nat.le_refl _) (by decide) rfl
  have hb0 : Below w.heap.size w (w.alloc (.cells #[] 5)) := (Below.refl w.heap.size w).alloc (Nat.le_refl _) (.cells #[] 5)
  have hr0 := hr.below (Nat.le_refl _) hb0
  go_enter Try.func52, Try.ntmps52
  go_wp2_with fail
  refine (l01Num_yes _ _ (by omega) (by omega)).mono ?_
  rintro e w' ⟨rfl, rfl⟩
  go_wp2_with (at_builtin; refine append_src rfl _ _ rfl rfl rfl hown0 hr0 HA.out HL.out (by omega) (by omega) (by simp) ?_)
  intro A1 c1 w1 ho1 hb1
  have hb2 := hb0.trans hb1
  clear hown0 hb0 hr0 hb1 hr
  go_wp2
  go_loopw [1, 6] (fun i v wr => ∃ (r : Nat) (pre : List Int) (A2 : Option Addr) (n2 c2 : Nat), i = .int .i64 r ∧ r ≤ 4294967295 ∧ v = .slice A2 n2 c2 ∧ Own wr w.heap.size A2 n2 c2 (zs ++ pre) ∧ pre ++ vEnc r = vEnc m ∧ Below w.heap.size w wr) (fun i _ _ => (intOf i).toNat)
  case atStart => exact ⟨m, [], A1, _, c1, rfl, hm, rfl, by simpa using ho1, rfl, hb2⟩
  case round =>
    obtain ⟨r, pre, A2, n2, c2, rfl, hr4, rfl, ho2, hp, hb⟩ := hrel
    have hlen5 : pre.length ≤ 4 := by
      have h1 := congrArg List.length hp
      have h2 := vEnc_len5 hm
      have h3 := vEnc_pos r
      rw [List.length_append] at h1
      omega
    have hl2 := ho2.len
    rw [List.length_append, HL.out] at hl2
    have hn2 : n2 ≤ n + 4 := by omega
    have hbs := hb.size
    by_cases hlt : 128 ≤ r
    · have HP := Lib.hid (show (pre ++ [(r : Int) % 128 + 128]) ++ vEnc (r / 128) = vEnc m by
        rw [← hp, vEnc_big (n := r) (by omega), List.append_assoc]; simp)
      clear hp hl2 ho1 hb2
      go_wp2_with (at_builtin; refine append_byte rfl _ _ rfl rfl rfl ho2 (by omega) (by omega) ?_)
      intro A3 c3 w3 ho3 hb3
      have hb4 := hb.trans hb3
      clear ho2 hb hb3
      go_wp2
      exact ⟨⟨r / 128, _, A3, _, c3, by go_num, by omega, rfl, ho3, HP.out, hb4⟩, by simp [intOf]; omega⟩
    · have HP := Lib.hid (show pre ++ [(r : Int)] = vEnc m by rw [← hp, vEnc_small (n := r) (by omega)])
      clear hp hl2 ho1 hb2
      go_wp2_with (at_builtin; refine append_byte rfl _ _ rfl rfl rfl ho2 (by omega) (by omega) ?_)
      intro A3 c3 w3 ho3 hb3
      rw [HP.out] at ho3
      have hb4 := hb.trans hb3
      clear ho2 hb hb3
      go_wp2
      go_ret2
      exact ⟨_, _, _, rfl, ho3, hb4⟩
theorem spec_PutVar_no (A : Option Addr) (n c : Nat) (m : Int) (w : World) (hm : m < 0 ∨ 4294967295 < m) :
    Calls Try.prog 52 #[.slice A n c, .int .i64 m] w fun e w' => e = .returned (.tuple #[.slice none 0 0, .bool false]) ∧ w = w' := by
  go_enter Try.func52, Try.ntmps52
  go_wp2_with fail
  refine (l01Num_no _ _ hm).mono ?_
  rintro e w' ⟨rfl, rfl⟩
  go_wp2_with fail
  go_ret2
  exact ⟨rfl, rfl⟩

end Go.Proofs.Yteiojpglhmikoaa.Var

