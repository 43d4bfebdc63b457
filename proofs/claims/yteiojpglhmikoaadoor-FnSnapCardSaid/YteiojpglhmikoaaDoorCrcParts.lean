/- Contracts of the checksum over several parts, in the program: the closure goes on where the part before ended. -/
import Derived.Test.YteiojpglhmikoaaDoorFramePlain
import Derived.Test.YteiojpglhmikoaaDoorCrcCore
import Derived.Laws.BitsAllLaws
import Derived.Laws.BitsLemmas
import Derived.OneCell
namespace Go.Proofs.YteiojpglhmikoaaDoor.Crc
open Go.RowKit Go.Proofs.YteiojpglhmikoaaDoor.Bytes
set_option linter.unusedVariables false
theorem cf_take_from (pre zs : List Int) (k : Nat) (h : k < zs.length) : cf (pre ++ zs.take (k + 1)) = cb (cf (pre ++ zs.take k)) (zs.getD k 0) := by
  have e : zs.getD k 0 = zs[k] := by simp only [List.getD, List.getElem?_eq_getElem h]; rfl
  rw [List.take_succ_eq_append_getElem h, ← List.append_assoc, cf_snoc, e]

set_option maxRecDepth 100000 in
set_option maxHeartbeats 3200000 in
theorem part_from (A : Option Addr) (n c R : Nat) (pre zs : List Int) (w : World) (hr : Rd w R A zs) (hg : Rng zs) (hpre : Rng pre) (hl : zs.length = n) (hn : n ≤ 1099511627776)
    (hR : w.heap[R]? = some (.cells #[.int .u32 (cf pre : Nat)] 88 (0, 0))) :
    Calls Tryd.prog 45 #[.slice A n c, .pointer (some ⟨R, 0, none⟩)] w fun e w' => e = .returned (.int .i64 ((4294967295 - cf (pre ++ zs) : Nat) : Int)) ∧ w'.heap[R]? = some (.cells #[.int .u32 (cf (pre ++ zs) : Nat)] 88 (0, 0)) ∧ Below R w w' := by
  have HL := Lib.hid hl
  clear hl
  go_enter Tryd.func45, Tryd.ntmps45
  go_wp2
  go_loopw [5, 6, 9] (fun _ _ i wr => ∃ k : Nat, k ≤ n ∧ i = .int .i64 k ∧ wr.heap[R]? = some (.cells #[.int .u32 (cf (pre ++ zs.take k) : Nat)] 88 (0, 0)) ∧ Below R w wr) (fun _ _ i _ => n - (intOf i).toNat)
  case atStart => exact ⟨0, Nat.zero_le _, rfl, by simpa using hR, Below.refl _ _⟩
  case round =>
    obtain ⟨k, hk, rfl, hRr, hb⟩ := hrel
    clear hR
    have hlt32 := cf_lt (pre ++ zs.take k) (fun z hz => (List.mem_append.1 hz).elim (hpre z) fun h => hg z (List.mem_of_mem_take h))
    by_cases hlt : k < n
    · obtain ⟨b, o, rfl, hB, hc0⟩ := hr.at_ (k := k) (by rw [HL.out]; exact hlt)
      have hc := (hb.cell (p := ⟨b, o + k, none⟩) hB).trans hc0
      clear hc0
      have hd := hg.at_ k
      have hcf := Lib.hid (cf_take_from pre zs k (by rw [HL.out]; exact hlt))
      generalize zs.getD k 0 = z at *
      obtain ⟨m, rfl⟩ := Int.eq_ofNat_of_zero_le hd.1
      generalize cf (pre ++ zs.take k) = r at *
      have hx := u32_xor' r m hlt32 (by omega)
      have hx32 := xor_byte_lt hlt32 hd.2
      rw [Int.toNat_natCast] at hx32
      have HX := Lib.hid (show cb r (m : Int) = cn 8 (r ^^^ m) by unfold cb; rw [Int.toNat_natCast])
      generalize r ^^^ m = q at *
      have hcell := cell_of_one hRr
      have hfree := free_of_one hRr
      have HR2 := Lib.hid hRr
      have HBW := Lib.hid hb
      clear hRr hb
      go_wp2
      go_loopw [6, 17] (fun _ i wi => ∃ j : Nat, j ≤ 8 ∧ i = .int .i64 j ∧ wi.heap[R]? = some (.cells #[.int .u32 (cn j q : Nat)] 88 (0, 0)) ∧ Below R w wi) (fun _ i _ => 8 - (intOf i).toNat)
      case atStart => exact ⟨0, by omega, rfl, one_setCell HR2.out, HBW.out.setCell (Nat.le_refl _) _⟩
      case round =>
        obtain ⟨j, hj, rfl, hRi, hbi⟩ := hrel
        clear hcell hfree
        have hq := cn_lt j hx32
        have hcell := cell_of_one hRi
        have hfree := free_of_one hRi
        by_cases hj8 : j < 8
        · have HC := Lib.hid (show cn (j + 1) q = c1 (cn j q) from rfl)
          have HRi := Lib.hid hRi
          have HBi := Lib.hid hbi
          clear hRi hbi
          generalize cn j q = p at *
          by_cases hodd : p % 2 = 1
          · have hx1 : bits .xor .u32 ((p : Int) / 2) 2197175160 = ((c1 p : Nat) : Int) := by
              have := u32_xor' (p / 2) 2197175160 (by omega) (by omega)
              rw [c1_odd hodd, ← this]; simp
            have ha1 : bits .and .u32 (p : Int) 1 = 1 := by rw [u32_and1 p hq, hodd]; rfl
            have HP := Lib.hid hodd
            clear hodd
            go_wp2
            exact ⟨⟨j + 1, by omega, by go_num, by rw [HC.out]; exact one_setCell HRi.out, HBi.out.setCell (Nat.le_refl _) _⟩, by simp [intOf]; omega⟩
          · have hx1 : bits .xor .u32 ((p : Int) / 2) 0 = ((c1 p : Nat) : Int) := by
              have := u32_xor' (p / 2) 0 (by omega) (by omega)
              rw [c1_even (by omega), Nat.xor_zero] at *
              rw [← this]; simp
            have ha1 : bits .and .u32 (p : Int) 1 = 0 := by rw [u32_and1 p hq, show p % 2 = 0 by omega]; rfl
            clear hodd
            go_wp2
            exact ⟨⟨j + 1, by omega, by go_num, by rw [HC.out]; exact one_setCell HRi.out, HBi.out.setCell (Nat.le_refl _) _⟩, by simp [intOf]; omega⟩
        · obtain rfl : j = 8 := by omega
          have HRi := Lib.hid hRi
          have HBi := Lib.hid hbi
          clear hRi hbi
          go_wp2
          exact ⟨⟨k + 1, by omega, by go_num, by rw [hcf.out, HX.out]; exact HRi.out, HBi.out⟩, by simp [intOf]; omega⟩
    · obtain rfl : n = k := by omega
      have hfull : zs.take n = zs := List.take_of_length_le (by rw [HL.out]; exact Nat.le_refl _)
      rw [hfull] at hlt32 hRr
      obtain ⟨r, hr0⟩ : ∃ r, r = cf (pre ++ zs) := ⟨_, rfl⟩
      rw [← hr0] at hlt32 hRr
      have Hr := Lib.hid hr0
      have hcell := cell_of_one hRr
      have HRr := Lib.hid hRr
      have HBi := Lib.hid hb
      clear hfull hr0 hRr hb
      go_wp2
      go_ret
      exact ⟨by rw [← Hr.out]; exact ret_int (not32 hlt32), by rw [← Hr.out]; exact HRr.out, HBi.out⟩

set_option maxRecDepth 100000 in
set_option maxHeartbeats 800000 in
theorem crcOfBoth_any (A A1 : Option Addr) (n c m d : Nat) (xs ys : List Int) (w : World) (hx : Rd w w.heap.size A xs) (hy : Rd w w.heap.size A1 ys) (hgx : Rng xs) (hgy : Rng ys) (hlx : xs.length = n) (hly : ys.length = m) (hn : n ≤ 1099511627776) (hm : m ≤ 1099511627776) :
    Calls Tryd.prog 38 #[.slice A n c, .slice A1 m d] w fun e w' => e = .returned (.int .i64 ((Frame.crcN (xs ++ ys) : Nat) : Int)) ∧ Below w.heap.size w w' := by
  have HLX := Lib.hid hlx
  have HLY := Lib.hid hly
  clear hlx hly
  have hb0 : Below w.heap.size w (w.alloc (.cells #[.int .u32 4294967295] 88)) := (Below.refl _ _).alloc (Nat.le_refl _) _
  have hR := heap_alloc_new w (.cells #[.int .u32 4294967295] 88)
  have HX := Lib.hid (hx.below (Nat.le_refl _) hb0)
  have HY := Lib.hid hy
  have HR := Lib.hid hR
  have HB0 := Lib.hid hb0
  clear hR hb0 hx hy
  go_enter Tryd.func38, Tryd.ntmps38
  go_wp2_with (first
    | (go_at_call 45; refine (part_from A n c w.heap.size [] xs _ HX.out hgx (by intro z hz; cases hz) HLX.out hn HR.out).mono ?_)
    | go_in)
  rintro e w1 ⟨rfl, hR1, hb1⟩
  rw [List.nil_append] at hR1
  have HB1 := Lib.hid (HB0.out.trans hb1)
  have HY1 := Lib.hid (HY.out.below (Nat.le_refl _) HB1.out)
  have HR1 := Lib.hid hR1
  clear hR1 hb1
  go_wp2_with fail
  refine (part_from A1 m d w.heap.size xs ys _ HY1.out hgy hgx HLY.out hm HR1.out).mono ?_
  rintro e w2 ⟨rfl, _, hb2⟩
  go_wp2_with fail
  go_ret
  exact ⟨rfl, HB1.out.trans hb2⟩
end Go.Proofs.YteiojpglhmikoaaDoor.Crc

