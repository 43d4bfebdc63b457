/- Contracts of the number encoding's helpers, in the program (a copy; the digits appended to a slice of the call's own); what the encoding answers; lengths at most 2^40. -/
import Derived.Test.YteiojpglhmikoaaDoorAppend
import Derived.Test.YteiojpglhmikoaaDoorVarPlain
import Derived.WalkSpells
import Derived.Laws.BitsAllLaws
namespace Go.Proofs.YteiojpglhmikoaaDoor.Var
open Go.RowKit Go.Proofs.YteiojpglhmikoaaDoor.Bytes
set_option linter.unusedVariables false

set_option maxRecDepth 100000 in
theorem nat_or128 : ∀ x : Fin 256, x.val ||| 128 = x.val % 128 + 128 := by decide
theorem or128 (r : Nat) : bits .or .u8 ((r : Int) % 256) 128 = (r : Int) % 128 + 128 := by
  rw [u8_or _ _ (by omega) (by omega) (by omega) (by omega)]
  have := nat_or128 ⟨((r : Int) % 256).toNat, by omega⟩
  simp only at this
  rw [show (128 : Int).toNat = 128 from rfl, this]
  omega

theorem isNumber_yes (m : Int) (w : World) (h0 : 0 ≤ m) (h1 : m ≤ 4294967295) :
    Calls Tryd.prog 31 #[.int .i64 m] w fun e w' => e = .returned (.bool true) ∧ w = w' := by
  go_enter Tryd.func31, Tryd.ntmps31
  go_wp2
  go_ret
  exact ⟨ret_bool (by simp), rfl⟩
theorem isNumber_no (m : Int) (w : World) (h0 : m < 0 ∨ 4294967295 < m) :
    Calls Tryd.prog 31 #[.int .i64 m] w fun e w' => e = .returned (.bool false) ∧ w = w' := by
  rcases h0 with h0 | h0 <;>
  · go_enter Tryd.func31, Tryd.ntmps31
    go_wp2
    go_ret
    exact ⟨ret_bool (by simp <;> omega), rfl⟩

/-! ### the program's own: slices.Clone, appendVar, PutVar -/
set_option maxRecDepth 100000 in
set_option maxHeartbeats 800000 in
theorem appendVar_any (A : Option Addr) (n c base : Nat) (zs : List Int) (m : Nat) (w : World) (ho : Own w base A n c zs) (hbase : base ≤ w.heap.size) (hn : n ≤ 1099511627776) (hm : m ≤ 4294967295) :
    Calls Tryd.prog 32 #[.slice A n c, .int .i64 m] w fun e w' => ∃ A' n' c', e = .returned (.slice A' n' c') ∧ Own w' base A' n' c' (zs ++ vEnc m) ∧ Below base w w' := by
  have HL := Lib.hid ho.len
  go_enter Tryd.func32, Tryd.ntmps32
  go_wp2
  go_loopw [0, 5] (fun v i wr => ∃ (r : Nat) (pre : List Int) (A2 : Option Addr) (n2 c2 : Nat), i = .int .u32 r ∧ r ≤ 4294967295 ∧ v = .slice A2 n2 c2 ∧ Own wr base A2 n2 c2 (zs ++ pre) ∧ pre ++ vEnc r = vEnc m ∧ Below base w wr) (fun _ i _ => (intOf i).toNat)
  case atStart => exact ⟨m, [], A, _, c, rfl, hm, rfl, by simpa using ho, rfl, Below.refl _ _⟩
  case round =>
    obtain ⟨r, pre, A2, n2, c2, rfl, hr4, rfl, ho2, hp, hb⟩ := hrel
    have hlen5 : pre.length ≤ 4 := by
      have h1 := congrArg List.length hp
      have h2 := vEnc_len5 hm
      have h3 := vEnc_pos r
      rw [List.length_append] at h1
      omega
    have hl2 := ho2.len
    rw [List.length_append, HL.out] at hl2
    have hn2 : n2 ≤ n + 4 := by omega
    have hbs := hb.size
    by_cases hlt : 128 ≤ r
    · have HP := Lib.hid (show (pre ++ [(r : Int) % 128 + 128]) ++ vEnc (r / 128) = vEnc m by
        rw [← hp, vEnc_big (n := r) (by omega), List.append_assoc]; simp)
      have hor := or128 r
      clear hp hl2 ho
      go_wp2_with (at_builtin; refine append_byte rfl _ _ rfl rfl rfl ho2 (by omega) (by omega) ?_)
      intro A3 c3 w3 ho3 hb3
      have hb4 := hb.trans hb3
      clear ho2 hb hb3
      go_wp2
      exact ⟨⟨r / 128, _, A3, _, c3, by go_num, by omega, rfl, ho3, HP.out, hb4⟩, by simp [intOf]; omega⟩
    · have HP := Lib.hid (show pre ++ [(r : Int)] = vEnc m by rw [← hp, vEnc_small (n := r) (by omega)])
      clear hp hl2 ho
      go_wp2_with (at_builtin; refine append_byte rfl _ _ rfl rfl rfl ho2 (by omega) (by omega) ?_)
      intro A3 c3 w3 ho3 hb3
      rw [HP.out] at ho3
      have hb4 := hb.trans hb3
      clear ho2 hb hb3
      go_wp2
      go_ret
      exact ⟨_, _, _, rfl, ho3, hb4⟩

/-! ### both, at every argument -/
end Go.Proofs.YteiojpglhmikoaaDoor.Var

