/- Contracts of the checksum, in the model: the same number as the program's. -/
import Derived.Test.YteiojpglhmikoaaCrcCore
import Derived.Laws.BitsAllLaws
import Derived.Laws.BitsLemmas
import Derived.OneCell
namespace Go.Proofs.Yteiojpglhmikoaa.Crc
open Go.RowKit Go.Proofs.Yteiojpglhmikoaa.Bytes
set_option linter.unusedVariables false
/-! ### the model's bits on int64, the program's on uint32 -/
theorem ofInt_64 (a : Nat) (ha : a < 4294967296) : (BitVec.ofInt 64 (a : Int)).toNat = a := by
  rw [BitVec.ofInt_natCast, BitVec.toNat_ofNat]; exact Nat.mod_eq_of_lt (by omega)
theorem i64_xor (a b : Nat) (ha : a < 4294967296) (hb : b < 4294967296) : bits .xor .i64 (a : Int) (b : Int) = ((a ^^^ b : Nat) : Int) := by
  have hx : a ^^^ b < 2 ^ 32 := Nat.xor_lt_two_pow (by omega) (by omega)
  show IntKind.i64.wrap ((BitVec.ofInt 64 (a : Int) ^^^ BitVec.ofInt 64 (b : Int)).toNat : Int) = _
  rw [BitVec.toNat_xor, ofInt_64 a ha, ofInt_64 b hb, IntKind.wrap_i64]
  omega

/-! ### the model -/
set_option maxRecDepth 100000 in
set_option maxHeartbeats 1600000 in
theorem spec_any (A : Option Addr) (n c : Nat) (zs : List Int) (w : World) (hr : Rd w w.heap.size A zs) (hg : Rng zs) (hl : zs.length = n) (hn : n ≤ 1099511627776) :
    Calls Try.prog 53 #[.slice A n c] w fun e w' => e = .returned (.int .i64 ((4294967295 - cf zs : Nat) : Int)) ∧ w = w' := by
  have HL := Lib.hid hl
  clear hl
  go_enter Try.func53, Try.ntmps53
  go_wp2
  go_loop [3, 4] (fun v i => ∃ k : Nat, k ≤ n ∧ i = .int .i64 k ∧ v = .int .i64 (cf (zs.take k) : Nat)) (fun _ i => n - (intOf i).toNat)
  case atStart => exact ⟨0, Nat.zero_le _, rfl, rfl⟩
  case round =>
    obtain ⟨k, hk, rfl, rfl⟩ := hrel
    have hlt32 := cf_lt (zs.take k) (fun z hz => hg z (List.mem_of_mem_take hz))
    by_cases hlt : k < n
    · obtain ⟨b, o, rfl, hB, hc⟩ := hr.at_ (k := k) (by rw [HL.out]; exact hlt)
      have hd := hg.at_ k
      have hcf := Lib.hid (cf_take zs k (by rw [HL.out]; exact hlt))
      generalize zs.getD k 0 = z at *
      obtain ⟨m, rfl⟩ := Int.eq_ofNat_of_zero_le hd.1
      generalize cf (zs.take k) = r at *
      have hx := i64_xor r m hlt32 (by omega)
      have hx32 := xor_byte_lt hlt32 hd.2
      rw [Int.toNat_natCast] at hx32
      have HX := Lib.hid (show cb r (m : Int) = cn 8 (r ^^^ m) by unfold cb; rw [Int.toNat_natCast])
      generalize r ^^^ m = q at *
      go_wp2
      go_loop [3, 5] (fun v i => ∃ j : Nat, j ≤ 8 ∧ i = .int .i64 j ∧ v = .int .i64 (cn j q : Nat)) (fun _ i => 8 - (intOf i).toNat)
      case atStart => exact ⟨0, by omega, rfl, rfl⟩
      case round =>
        obtain ⟨j, hj, rfl, rfl⟩ := hrel
        have hq := cn_lt j hx32
        by_cases hj8 : j < 8
        · have HC := Lib.hid (show cn (j + 1) q = c1 (cn j q) from rfl)
          generalize cn j q = p at *
          by_cases hodd : p % 2 = 1
          · have hx1 : bits .xor .i64 ((p : Int) / 2) 2197175160 = ((c1 p : Nat) : Int) := by
              have := i64_xor (p / 2) 2197175160 (by omega) (by omega)
              rw [c1_odd hodd, ← this]; simp
            have hb1 : ((p : Int) % 2 == 1) = true := by simp; omega
            have HP := Lib.hid hodd
            clear hodd
            go_wp2
            exact ⟨⟨j + 1, by omega, by go_num, by rw [HC.out]⟩, by simp [intOf]; omega⟩
          · have he := c1_even (r := p) (by omega)
            have HE := Lib.hid he
            have hb1 : ((p : Int) % 2 == 1) = false := by simp; omega
            clear hodd he
            go_wp2
            exact ⟨⟨j + 1, by omega, by go_num, by rw [HC.out, HE.out]; go_num⟩, by simp [intOf]; omega⟩
        · obtain rfl : j = 8 := by omega
          go_wp2
          exact ⟨⟨k + 1, by omega, by go_num, by rw [hcf.out, HX.out]⟩, by simp [intOf]; omega⟩
    · obtain rfl : n = k := by omega
      have hfull : zs.take n = zs := List.take_of_length_le (by rw [HL.out]; exact Nat.le_refl _)
      rw [hfull] at hlt32 ⊢
      obtain ⟨r, hr0⟩ : ∃ r, r = cf zs := ⟨_, rfl⟩
      rw [← hr0] at hlt32 ⊢
      have Hr := Lib.hid hr0
      have hx : bits .xor .i64 (r : Int) 4294967295 = ((4294967295 - r : Nat) : Int) := by
        have := i64_xor r 4294967295 hlt32 (by omega)
        rw [xor_all hlt32] at this
        exact this
      clear hfull hr0
      go_wp2
      go_ret
      exact ⟨by rw [← Hr.out]; rfl, rfl⟩

end Go.Proofs.Yteiojpglhmikoaa.Crc

