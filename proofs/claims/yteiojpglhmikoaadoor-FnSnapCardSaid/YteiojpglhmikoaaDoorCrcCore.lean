/- Contracts of the checksum, in the program (a closure over its register): a plain function of the bytes. -/
import Derived.Test.YteiojpglhmikoaaDoorAppend
import Derived.Laws.BitsAllLaws
import Derived.Laws.BitsLemmas
import Derived.OneCell
namespace Go.Proofs.YteiojpglhmikoaaDoor.Crc
open Go.RowKit Go.Proofs.YteiojpglhmikoaaDoor.Bytes
set_option linter.unusedVariables false

/-! ### the register, as a plain function -/
def c1 (r : Nat) : Nat := if r % 2 = 1 then (r / 2) ^^^ 2197175160 else r / 2
def cn : Nat → Nat → Nat
  | 0, r => r
  | j + 1, r => c1 (cn j r)
def cb (r : Nat) (z : Int) : Nat := cn 8 (r ^^^ z.toNat)
def cf (l : List Int) : Nat := l.foldl cb 4294967295
theorem c1_lt {r : Nat} (h : r < 4294967296) : c1 r < 4294967296 := by
  unfold c1; split
  · exact Nat.xor_lt_two_pow (n := 32) (by omega) (by omega)
  · omega
theorem cn_lt (j : Nat) {r : Nat} (h : r < 4294967296) : cn j r < 4294967296 := by
  induction j with
  | zero => exact h
  | succ j ih => exact c1_lt ih
theorem xor_byte_lt {r : Nat} {z : Int} (h : r < 4294967296) (h1 : z < 256) : r ^^^ z.toNat < 4294967296 := Nat.xor_lt_two_pow (n := 32) (by omega) (by omega)
theorem cb_lt {r : Nat} {z : Int} (h : r < 4294967296) (h1 : z < 256) : cb r z < 4294967296 := cn_lt 8 (xor_byte_lt h h1)
theorem cf_snoc (l : List Int) (z : Int) : cf (l ++ [z]) = cb (cf l) z := by simp [cf, List.foldl_append]
theorem cf_lt (l : List Int) (h : ∀ z ∈ l, 0 ≤ z ∧ z < 256) : cf l < 4294967296 := by
  have key : ∀ (l : List Int) (r : Nat), r < 4294967296 → (∀ z ∈ l, 0 ≤ z ∧ z < 256) → l.foldl cb r < 4294967296 := by
    intro l
    induction l with
    | nil => intro r hr _; exact hr
    | cons z l ih => intro r hr hz; exact ih _ (cb_lt hr (hz z (by simp)).2) fun y hy => hz y (by simp [hy])
  exact key l _ (by omega) h
theorem cf_take (zs : List Int) (k : Nat) (h : k < zs.length) : cf (zs.take (k + 1)) = cb (cf (zs.take k)) (zs.getD k 0) := by
  have e : zs.getD k 0 = zs[k] := by simp only [List.getD, List.getElem?_eq_getElem h]; rfl
  rw [List.take_succ_eq_append_getElem h, cf_snoc, e]
theorem c1_odd {r : Nat} (h : r % 2 = 1) : c1 r = (r / 2) ^^^ 2197175160 := if_pos h
theorem c1_even {r : Nat} (h : r % 2 = 0) : c1 r = r / 2 := if_neg (by omega)
theorem xor_all {x : Nat} (h : x < 4294967296) : x ^^^ 4294967295 = 4294967295 - x := by
  apply Nat.eq_of_testBit_eq
  intro i
  have h1 := Nat.testBit_two_pow_sub_succ (n := 32) (x := x) (by omega) i
  have h2 := Nat.testBit_two_pow_sub_one 32 i
  rw [Nat.testBit_xor, show (4294967295 : Nat) = 2 ^ 32 - 1 by omega, h2, show (2 ^ 32 - 1 - x : Nat) = 2 ^ 32 - (x + 1) by omega, h1]
  by_cases hi : i < 32
  · simp [hi]
  · have hx : x.testBit i = false := Nat.testBit_lt_two_pow (Nat.lt_of_lt_of_le (show x < 2 ^ 32 by omega) (Nat.pow_le_pow_right (by omega) (by omega)))
    simp [hi, hx]

/-! ### the program: a closure over its register -/
theorem u32_xor' (a b : Nat) (ha : a < 4294967296) (hb : b < 4294967296) : bits .xor .u32 (a : Int) (b : Int) = ((a ^^^ b : Nat) : Int) := u32_xor_nat a b ha hb
theorem u32_and1 (a : Nat) (ha : a < 4294967296) : bits .and .u32 (a : Int) 1 = ((a % 2 : Nat) : Int) := by
  have := u32_and_nat a 1 ha (by omega)
  rw [nat_mask1] at this
  exact this

theorem not32 {r : Nat} (h : r < 4294967296) : wrap64 (bits .xor .u32 IntKind.u32.max (r : Int)) = ((4294967295 - r : Nat) : Int) := by
  have e : IntKind.u32.max = ((4294967295 : Nat) : Int) := by decide
  rw [e, u32_xor' 4294967295 r (by omega) h, Nat.xor_comm, xor_all h, IntWalk.wrap64_in _ ⟨by omega, by omega⟩]

set_option maxRecDepth 100000 in
set_option maxHeartbeats 3200000 in
theorem part_any (A : Option Addr) (n c R : Nat) (zs : List Int) (w : World) (hr : Rd w R A zs) (hg : Rng zs) (hl : zs.length = n) (hn : n ≤ 1099511627776)
    (hR : w.heap[R]? = some (.cells #[.int .u32 4294967295] 88 (0, 0))) :
    Calls Tryd.prog 45 #[.slice A n c, .pointer (some ⟨R, 0, none⟩)] w fun e w' => e = .returned (.int .i64 ((4294967295 - cf zs : Nat) : Int)) ∧ Below R w w' := by
  have HL := Lib.hid hl
  clear hl
  go_enter Tryd.func45, Tryd.ntmps45
  go_wp2
  go_loopw [5, 6, 9] (fun _ _ i wr => ∃ k : Nat, k ≤ n ∧ i = .int .i64 k ∧ wr.heap[R]? = some (.cells #[.int .u32 (cf (zs.take k) : Nat)] 88 (0, 0)) ∧ Below R w wr) (fun _ _ i _ => n - (intOf i).toNat)
  case atStart => exact ⟨0, Nat.zero_le _, rfl, hR, Below.refl _ _⟩
  case round =>
    obtain ⟨k, hk, rfl, hRr, hb⟩ := hrel
    clear hR
    have hlt32 := cf_lt (zs.take k) (fun z hz => hg z (List.mem_of_mem_take hz))
    by_cases hlt : k < n
    · obtain ⟨b, o, rfl, hB, hc0⟩ := hr.at_ (k := k) (by rw [HL.out]; exact hlt)
      have hc := (hb.cell (p := ⟨b, o + k, none⟩) hB).trans hc0
      clear hc0
      have hd := hg.at_ k
      have hcf := Lib.hid (cf_take zs k (by rw [HL.out]; exact hlt))
      generalize zs.getD k 0 = z at *
      obtain ⟨m, rfl⟩ := Int.eq_ofNat_of_zero_le hd.1
      generalize cf (zs.take k) = r at *
      have hx := u32_xor' r m hlt32 (by omega)
      have hx32 := xor_byte_lt hlt32 hd.2
      rw [Int.toNat_natCast] at hx32
      have HX := Lib.hid (show cb r (m : Int) = cn 8 (r ^^^ m) by unfold cb; rw [Int.toNat_natCast])
      generalize r ^^^ m = q at *
      have hcell := cell_of_one hRr
      have hfree := free_of_one hRr
      have HR2 := Lib.hid hRr
      have HBW := Lib.hid hb
      clear hRr hb
      go_wp2
      go_loopw [6, 17] (fun _ i wi => ∃ j : Nat, j ≤ 8 ∧ i = .int .i64 j ∧ wi.heap[R]? = some (.cells #[.int .u32 (cn j q : Nat)] 88 (0, 0)) ∧ Below R w wi) (fun _ i _ => 8 - (intOf i).toNat)
      case atStart => exact ⟨0, by omega, rfl, one_setCell HR2.out, HBW.out.setCell (Nat.le_refl _) _⟩
      case round =>
        obtain ⟨j, hj, rfl, hRi, hbi⟩ := hrel
        clear hcell hfree
        have hq := cn_lt j hx32
        have hcell := cell_of_one hRi
        have hfree := free_of_one hRi
        by_cases hj8 : j < 8
        · have HC := Lib.hid (show cn (j + 1) q = c1 (cn j q) from rfl)
          have HRi := Lib.hid hRi
          have HBi := Lib.hid hbi
          clear hRi hbi
          generalize cn j q = p at *
          by_cases hodd : p % 2 = 1
          · have hx1 : bits .xor .u32 ((p : Int) / 2) 2197175160 = ((c1 p : Nat) : Int) := by
              have := u32_xor' (p / 2) 2197175160 (by omega) (by omega)
              rw [c1_odd hodd, ← this]; simp
            have ha1 : bits .and .u32 (p : Int) 1 = 1 := by rw [u32_and1 p hq, hodd]; rfl
            have HP := Lib.hid hodd
            clear hodd
            go_wp2
            exact ⟨⟨j + 1, by omega, by go_num, by rw [HC.out]; exact one_setCell HRi.out, HBi.out.setCell (Nat.le_refl _) _⟩, by simp [intOf]; omega⟩
          · have hx1 : bits .xor .u32 ((p : Int) / 2) 0 = ((c1 p : Nat) : Int) := by
              have := u32_xor' (p / 2) 0 (by omega) (by omega)
              rw [c1_even (by omega), Nat.xor_zero] at *
              rw [← this]; simp
            have ha1 : bits .and .u32 (p : Int) 1 = 0 := by rw [u32_and1 p hq, show p % 2 = 0 by omega]; rfl
            clear hodd
            go_wp2
            exact ⟨⟨j + 1, by omega, by go_num, by rw [HC.out]; exact one_setCell HRi.out, HBi.out.setCell (Nat.le_refl _) _⟩, by simp [intOf]; omega⟩
        · obtain rfl : j = 8 := by omega
          have HRi := Lib.hid hRi
          have HBi := Lib.hid hbi
          clear hRi hbi
          go_wp2
          exact ⟨⟨k + 1, by omega, by go_num, by rw [hcf.out, HX.out]; exact HRi.out, HBi.out⟩, by simp [intOf]; omega⟩
    · obtain rfl : n = k := by omega
      have hfull : zs.take n = zs := List.take_of_length_le (by rw [HL.out]; exact Nat.le_refl _)
      rw [hfull] at hlt32 hRr
      obtain ⟨r, hr0⟩ : ∃ r, r = cf zs := ⟨_, rfl⟩
      rw [← hr0] at hlt32 hRr
      have Hr := Lib.hid hr0
      have hcell := cell_of_one hRr
      have HBi := Lib.hid hb
      clear hfull hr0 hRr hb
      go_wp2
      go_ret
      exact ⟨by rw [← Hr.out]; exact ret_int (not32 hlt32), HBi.out⟩

end Go.Proofs.YteiojpglhmikoaaDoor.Crc

