/- Contract of the program's number decoding: what it answers is a plain function of the bytes and the offset. -/
import Derived.Test.YteiojpglhmikoaaDoorPutCore
import Derived.Test.YteiojpglhmikoaaDoorGetPlain
namespace Go.Proofs.YteiojpglhmikoaaDoor.Var
open Go.RowKit Go.Proofs.YteiojpglhmikoaaDoor.Bytes
set_option linter.unusedVariables false

def gvRet (zs : List Int) (at_ : Int) : Ending := .returned (.tuple #[.int .i64 (gvN zs at_), .int .i64 (gvE zs at_), .bool (gvOk zs at_)])
theorem gvRet_no {zs : List Int} {at_ : Int} (h : gvOk zs at_ = false) : Ending.returned (.tuple #[.int .i64 0, .int .i64 0, .bool false]) = gvRet zs at_ := by
  unfold gvRet; rw [(gv_no h).1, (gv_no h).2, h]

/-! ### the bits of a digit -/
theorem wraps_i64 (n : Int) (h0 : 0 ≤ n) (h1 : n < 2 ^ 62) : IntKind.i64.wrap n = n := by rw [IntKind.wrap_i64]; omega
theorem and127 (d : Int) (h0 : 0 ≤ d) (h1 : d < 256) : bits .and .u8 d 127 = d % 128 := bits_mask .u8 8 (by decide) wraps_u8 7 (by decide) d h0 h1
theorem pow_two_seven (k : Nat) : (2 : Int) ^ (7 * k) = ((128 ^ k : Nat) : Int) := by
  rw [Int.pow_mul]; simp
theorem pow_lt5 {k : Nat} (h : k < 5) : 128 ^ k ≤ 268435456 := by
  have : (128 : Nat) ^ k ≤ 128 ^ 4 := Nat.pow_le_pow_right (by omega) (by omega)
  omega
theorem or_join (X D k : Nat) (hX : X < 128 ^ k) (hD : D < 128) (hk : k < 5) : bits .or .i64 (X : Int) ((D * 128 ^ k : Nat) : Int) = ((X + D * 128 ^ k : Nat) : Int) := by
  have hp := pow_lt5 hk
  have h1 : D * 128 ^ k ≤ 127 * 268435456 := Nat.mul_le_mul (by omega) hp
  have hb := (bits_nat .i64 62 (by decide) wraps_i64 X (D * 128 ^ k) (by omega) (by omega)).2
  rw [hb, Nat.or_comm, show (128 : Nat) ^ k = 2 ^ (7 * k) by rw [Nat.pow_mul]]
  rw [show (128 : Nat) ^ k = 2 ^ (7 * k) by rw [Nat.pow_mul]] at hX
  rw [nat_join (7 * k) _ _ (by rw [Nat.mul_mod_left]) hX, Nat.add_comm]
theorem or_step (X Y : Nat) (d : Int) (k : Nat) (h0 : 0 ≤ d) (h1 : d < 256) (hX : X < 128 ^ k) (hk : k < 5) (hY : Y = X + (d % 128).toNat * 128 ^ k) :
    bits .or .i64 (X : Int) (wrap64 (wrap64 (bits .and .u8 d 127) * 2 ^ (7 * k))) = (Y : Int) := by
  have hp := pow_lt5 hk
  obtain ⟨D, hD⟩ : ∃ D : Nat, d % 128 = (D : Int) := ⟨(d % 128).toNat, by omega⟩
  have hD1 : D < 128 := by omega
  rw [and127 d h0 h1, pow_two_seven, hY, hD, Int.toNat_natCast, IntWalk.wrap64_in (D : Int) ⟨by omega, by omega⟩, ← Int.natCast_mul]
  have h2 : D * 128 ^ k ≤ 127 * 268435456 := Nat.mul_le_mul (by omega) hp
  rw [IntWalk.wrap64_in _ ⟨by omega, by omega⟩]
  exact or_join X D k hX hD1 hk
theorem or_step0 (X Y : Nat) (d : Int) (h0 : 0 ≤ d) (h1 : d < 256) (hX : X < 128 ^ 0) (hY : Y = X + (d % 128).toNat * 128 ^ 0) :
    bits .or .i64 (X : Int) (wrap64 (wrap64 (bits .and .u8 d 127))) = (Y : Int) := by
  have := or_step X Y d 0 h0 h1 hX (by omega) hY
  simpa using this

theorem gvRet_yes {zs : List Int} {a : Nat} (K N : Nat) (h : gvOk zs (a : Int) = true ∧ gvN zs (a : Int) = (N : Int) ∧ gvE zs (a : Int) = (a : Int) + (K : Int) + 1) :
    Ending.returned (.tuple #[.int .i64 N, .int .i64 ((a : Int) + (K : Int) + 1), .bool true]) = gvRet zs a := by
  unfold gvRet; rw [h.1, h.2.1, h.2.2]

set_option maxRecDepth 100000 in
set_option maxHeartbeats 3200000 in
theorem impl_GetVar_in (A : Option Addr) (n c : Nat) (zs : List Int) (a : Nat) (w : World) (hr : Rd w w.heap.size A zs) (hg : Rng zs) (hl : zs.length = n) (hn : n ≤ 1099511627776) (ha : a < n) :
    Calls Tryd.prog 13 #[.slice A n c, .int .i64 a] w fun e w' => e = gvRet zs a ∧ w = w' := by
  have hk1 := gvk_le zs a (by omega)
  rw [hl] at hk1
  have HB := Lib.hid (gvk_big zs a)
  have HE := Lib.hid (gvk_end zs a)
  have HV := Lib.hid (gvv_succ zs a)
  have HT := Lib.hid (gvv_lt zs a)
  have HF := Lib.hid (gv_false (zs := zs) (a := a))
  have HY := Lib.hid (gv_yes (zs := zs) (a := a))
  generalize gvk zs a = K at *
  have HL := Lib.hid hl
  clear hl
  by_cases h5 : n - a < 5
  all_goals
    go_enter Tryd.func13, Tryd.ntmps13
    go_wp2
    try (exfalso; omega)
    go_loop [7, 23] (fun v i => ∃ k : Nat, i = .int .i64 k ∧ k ≤ 5 ∧ a + k ≤ n ∧ k ≤ K ∧ v = .int .i64 (gvv zs a k)) (fun _ i => 6 - (intOf i).toNat)
    case atStart => exact ⟨0, rfl, by omega, by omega, by omega, by rw [gvv_zero]; rfl⟩
    case round =>
      obtain ⟨k, rfl, hk5, hkn, hkK, rfl⟩ := hrel
      by_cases hlt : k < 5 ∧ a + k < n
      · obtain ⟨hlt5, hltn⟩ := hlt
        obtain ⟨b, o, rfl, hB, hc⟩ := hr.at_ (k := a + k) (by rw [HL.out]; exact hltn)
        have hd := hg.at_ (a + k)
        have hx := HV.out k (by rw [HL.out]; exact hltn)
        have hv := HT.out k (by rw [HL.out]; omega)
        have hv1 : gvv zs a (k + 1) < 128 ^ 5 := Nat.lt_of_lt_of_le (HT.out (k + 1) (by rw [HL.out]; omega)) (Nat.pow_le_pow_right (by omega) (by omega))
        by_cases hkk : k < K
        · have hbig := HB.out k hkk
          generalize zs.getD (a + k) 0 = d at *
          obtain ⟨Y, hY⟩ : ∃ Y, Y = gvv zs a (k + 1) := ⟨_, rfl⟩
          rw [← hY] at hv1 hx
          have HYY := Lib.hid hY
          clear hY
          generalize gvv zs a k = X at *
          have hor := or_step X Y d k hd.1 hd.2 hv hlt5 hx
          clear hx hv
          go_wp2_with fail
          exact ⟨⟨k + 1, by go_num, by omega, by omega, by omega, by rw [← HYY.out]⟩, by simp [intOf]; omega⟩
        · obtain rfl : k = K := by omega
          have hend := HE.out (by rw [HL.out]; omega)
          have HF' := Lib.hid (fun h => gvRet_no (HF.out h))
          have HY' := Lib.hid (fun h3 h4 => gvRet_yes _ _ (HY.out (by rw [HL.out]; exact ha) hlt5 (by rw [HL.out]; exact hltn) h3 h4))
          generalize zs.getD (a + k) 0 = d at *
          generalize gvv zs a (k + 1) = Y at *
          generalize gvv zs a k = X at *
          by_cases hd0 : d = 0
          · by_cases hk0 : k = 0
            · subst hd0 hk0
              rw [Nat.add_zero] at hc
              have hor := or_step0 X Y 0 (by omega) (by omega) hv hx
              have hyb : Y ≤ 4294967295 := by simp at hx hv; omega
              have hfin := Lib.hid (HY'.out (by omega) hyb)
              clear hx hv
              go_wp2_with fail
              refine (isNumber_yes _ _ (by omega) (by omega)).mono ?_
              rintro e w' ⟨rfl, rfl⟩
              go_wp2_with fail
              go_ret3
              exact ⟨by rw [← hfin.out]; simp, rfl⟩
            · subst hd0
              have hor := or_step X Y 0 k (by omega) (by omega) hv hlt5 hx
              have hfin := Lib.hid (HF'.out (fun h => h.2.2.1 ⟨by omega, rfl⟩))
              clear hx hv
              go_wp2_with fail
              go_ret3
              exact ⟨hfin.out, rfl⟩
          · have hdp : 0 < d := by omega
            have heq : (d == 0) = false := by simp; omega
            have hor := or_step X Y d k (by omega) (by omega) hv hlt5 hx
            clear hx hv
            by_cases hyb : Y ≤ 4294967295
            · have hfin := Lib.hid (HY'.out (fun h => hd0 h.2) hyb)
              clear hd0
              go_wp2_with fail
              refine (isNumber_yes _ _ (by omega) (by omega)).mono ?_
              rintro e w' ⟨rfl, rfl⟩
              go_wp2_with fail
              go_ret3
              exact ⟨hfin.out, rfl⟩
            · have hfin := Lib.hid (HF'.out (fun h => hyb h.2.2.2))
              clear hd0
              go_wp2_with fail
              refine (isNumber_no _ _ (by omega)).mono ?_
              rintro e w' ⟨rfl, rfl⟩
              go_wp2_with fail
              go_ret3
              exact ⟨hfin.out, rfl⟩
      · have hfin := Lib.hid (gvRet_no (HF.out (fun h => by have := HL.out; omega)))
        go_wp2_with fail
        go_ret3
        exact ⟨hfin.out, rfl⟩
theorem impl_GetVar_any (A : Option Addr) (n c : Nat) (zs : List Int) (a : Int) (w : World) (hr : Rd w w.heap.size A zs) (hg : Rng zs) (hl : zs.length = n) (hn : n ≤ 1099511627776) :
    Calls Tryd.prog 13 #[.slice A n c, .int .i64 a] w fun e w' => e = gvRet zs a ∧ w = w' := by
  by_cases h0 : a < 0
  · have hfin := Lib.hid (gvRet_no (zs := zs) (gv_out (.inl h0)))
    go_enter Tryd.func13, Tryd.ntmps13
    go_wp2_with fail
    go_ret3
    exact ⟨hfin.out, rfl⟩
  · obtain ⟨k, rfl⟩ := Int.eq_ofNat_of_zero_le (show 0 ≤ a by omega)
    by_cases hk : k < n
    · exact impl_GetVar_in A n c zs k w hr hg hl hn hk
    · have hfin := Lib.hid (gvRet_no (zs := zs) (at_ := (k : Int)) (gv_out (.inr (by omega))))
      have hge : (n : Int) ≤ (k : Int) := by omega
      clear h0 hk
      go_enter Tryd.func13, Tryd.ntmps13
      go_wp2_with fail
      go_ret3
      exact ⟨hfin.out, rfl⟩

end Go.Proofs.YteiojpglhmikoaaDoor.Var

