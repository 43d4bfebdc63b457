/- Texts that lay in modules of their own: GrMark, IntM, IntSz. -/
import Derived.Test.YtgnpgkkjcloghaaGreatKm2
set_option maxRecDepth 100000
set_option maxHeartbeats 3200000
set_option linter.unusedVariables false
namespace Go.Proofs.YtgnpgkkjcloghaaGreat.Gr
open Lib
open Go.RowKit Bytes Rows_ RowK
def m3 (k : Int) : Bool := k % 3 == 0
def mkC (k : Int) : CellD := ⟨k, k + 1, k + 1 + 1, m3 (k + 1 + 1 + 1), m3 (k + 1 + 1 + 1 + 1), m3 (k + 1 + 1 + 1 + 1 + 1)⟩
def mkCs (k : Int) (n : Nat) : List CellD := (List.range n).map fun i : Nat => mkC (k + 6 * (i : Int))
theorem mkCs_len (k : Int) (n : Nat) : (mkCs k n).length = n := by simp [mkCs]
theorem mkCs_succ (k : Int) (n : Nat) : mkCs k (n + 1) = mkCs k n ++ [mkC (k + 6 * (n : Int))] := by simp [mkCs, List.range_succ]
theorem mkCs_at (k : Int) (n i : Nat) (h : i < (mkCs k n).length) : (mkCs k n)[i] = mkC (k + 6 * (i : Int)) := by simp [mkCs]
theorem mkCs_now (cs : List CellD) (t : Nat) (k : Int) (ht : t < cs.length) : mkCs k t ++ cs.drop t = mkCs k t ++ [cs[t]] ++ cs.drop (t + 1) := by
  rw [List.drop_eq_getElem_cons ht, List.append_assoc]; rfl
theorem only6 {S : Nat → Prop} (w : World) (b : Nat) (h : S b) (i0 i1 i2 i3 i4 i5 : Nat) (x0 x1 x2 x3 x4 x5 : Value) :
    Only S w ((((((w.setCell ⟨b, i0, none⟩ x0).setCell ⟨b, i1, none⟩ x1).setCell ⟨b, i2, none⟩ x2).setCell ⟨b, i3, none⟩ x3).setCell ⟨b, i4, none⟩ x4).setCell ⟨b, i5, none⟩ x5) :=
  (((((Only.cell_ _ b _ _ h).trans (Only.cell_ _ b _ _ h)).trans (Only.cell_ _ b _ _ h)).trans (Only.cell_ _ b _ _ h)).trans (Only.cell_ _ b _ _ h)).trans (Only.cell_ _ b _ _ h)
theorem markCellS_any (A : Option Addr) (n c base : Nat) (cs : List CellD) (k : Int) (w : World) (ho : OwnC w base A n c cs) (hn : n ≤ 2097152) (h0 : 0 ≤ k) (h1 : k ≤ 1099511627776) :
    Calls Tryz.prog 64 #[.slice A n c, .int .i64 k] w fun e w' => e = .returned (.int .i64 (k + 6 * (n : Int))) ∧ OwnC w' base A n c (mkCs k n) ∧ Only (fun i => (Value.slice A n c).ownBlock = some i) w w' := by
  have HL := hid ho.len
  go_enter Tryz.func64, Tryz.ntmps64
  go_wp2_with fail
  go_loopw [1, 5] (fun m i wr => ∃ t : Nat, t ≤ n ∧ i = .int .i64 t ∧ m = .int .i64 (k + 6 * (t : Int)) ∧ OwnC wr base A n c (mkCs k t ++ cs.drop t) ∧ Only (fun i => (Value.slice A n c).ownBlock = some i) w wr) (fun _ i _ => n - (intOf i).toNat)
  case atStart => exact ⟨0, Nat.zero_le _, rfl, by simp, by simpa [mkCs] using ho, Only.refl _ _⟩
  case round =>
    clear ho
    obtain ⟨t, ht, rfl, rfl, ho, hon⟩ := hrel
    by_cases hlt : t < n
    · have hlt' : t < cs.length := by rw [HL.out]; exact hlt
      have HN := hid (mkCs_succ k t)
      have HP := hid (show ((mkCs k t).map cellR).length = t by rw [List.length_map, mkCs_len])
      have HLN := hid (cell_len (mkCs k t))
      rw [mkCs_now cs t k hlt'] at ho
      have HX := hid (show ∃ z0 z1 z2 z3 z4 z5, cellR cs[t] = [z0, z1, z2, z3, z4, z5] from ⟨_, _, _, _, _, _, rfl⟩)
      generalize cs[t] = x at *
      generalize hpost : cs.drop (t + 1) = post at *
      have HPO := hid hpost
      clear hpost
      obtain ⟨fb, rfl⟩ := own_addr ho (by omega)
      unfold OwnC at ho
      rw [List.map_append, List.map_append] at ho
      have HM := hid (show mkC (k + 6 * (t : Int)) = ⟨k + 6 * (t : Int), k + 6 * (t : Int) + 1, k + 6 * (t : Int) + 1 + 1, m3 (k + 6 * (t : Int) + 1 + 1 + 1), m3 (k + 6 * (t : Int) + 1 + 1 + 1 + 1), m3 (k + 6 * (t : Int) + 1 + 1 + 1 + 1 + 1)⟩ from rfl)
      have q0 : 0 ≤ k + 6 * (t : Int) := by omega
      have q1 : k + 6 * (t : Int) ≤ 1099524210688 := by omega
      have HQ := hid (show k + 6 * ((t + 1 : Nat) : Int) = k + 6 * (t : Int) + 1 + 1 + 1 + 1 + 1 + 1 by omega)
      have HK := hid (show ∃ kt, kt = k + 6 * (t : Int) from ⟨_, rfl⟩)
      generalize hpre : mkCs k t = pre at *
      have HPR := hid hpre
      clear hpre
      generalize hkt : k + 6 * (t : Int) = kt at *
      have HKT := hid hkt
      clear hkt
      have HO := hid ho
      have HON := hid hon
      obtain ⟨u0, hu0⟩ := own_there HO.out (t * 6) (by omega)
      obtain ⟨u1, hu1⟩ := own_there HO.out (t * 6 + 1) (by omega)
      obtain ⟨u2, hu2⟩ := own_there HO.out (t * 6 + 1 + 1) (by omega)
      obtain ⟨u3, hu3⟩ := own_there HO.out (t * 6 + 1 + 2) (by omega)
      obtain ⟨u4, hu4⟩ := own_there HO.out (t * 6 + 1 + 3) (by omega)
      obtain ⟨u5, hu5⟩ := own_there HO.out (t * 6 + 1 + 4) (by omega)
      have hf0 := World.ownsRow.frozenAt (h := HO.out) (t * 6)
      have hf1 := World.ownsRow.frozenAt (h := HO.out) (t * 6 + 1)
      have hf2 := World.ownsRow.frozenAt (h := HO.out) (t * 6 + 1 + 1)
      have hf3 := World.ownsRow.frozenAt (h := HO.out) (t * 6 + 1 + 2)
      have hf4 := World.ownsRow.frozenAt (h := HO.out) (t * 6 + 1 + 3)
      have hf5 := World.ownsRow.frozenAt (h := HO.out) (t * 6 + 1 + 4)
      clear ho hon
      go_wp2_with fail
      refine ⟨⟨t + 1, by omega, by go_num, ?_, ?_, ?_⟩, by simp [intOf]; omega⟩
      · rw [HQ.out]
      · have h := HO.out
        rw [HN.out, HM.out, HPO.out]
        unfold OwnC
        rw [List.map_append, List.map_append]
        exact row6 (.int .i64 kt) (.int .i64 (kt + 1)) (.int .i64 (kt + 1 + 1)) (.bool (m3 (kt + 1 + 1 + 1))) (.bool (m3 (kt + 1 + 1 + 1 + 1))) (.bool (m3 (kt + 1 + 1 + 1 + 1 + 1))) HLN.out t HP.out h
      · exact HON.out.trans (only6 (S := fun i => (Value.slice (some ⟨fb, 0, none⟩) n c).ownBlock = some i) _ fb rfl _ _ _ _ _ _ _ _ _ _ _ _)
    · obtain rfl : n = t := by omega
      have e2 : mkCs k n ++ cs.drop n = mkCs k n := by rw [List.drop_of_length_le (by rw [HL.out]; exact Nat.le_refl _), List.append_nil]
      rw [e2] at ho
      have HO := hid ho
      have HON := hid hon
      clear ho hon e2
      go_wp2_with fail
      go_ret
      exact ⟨rfl, HO.out, HON.out⟩
theorem heldCellS_any (A : Option Addr) (n c : Nat) (k : Int) (w : World) (hr : RdC w w.heap.size A (mkCs k n)) (hn : n ≤ 2097152) (h0 : 0 ≤ k) (h1 : k ≤ 1099511627776) :
    Calls Tryz.prog 65 #[.slice A n c, .int .i64 k] w fun e w' => e = .returned (.int .i64 (k + 6 * (n : Int))) ∧ w = w' := by
  have HR := hid hr
  clear hr
  go_enter Tryz.func65, Tryz.ntmps65
  go_wp2_with fail
  go_loop [1, 5] (fun m i => ∃ t : Nat, t ≤ n ∧ i = .int .i64 t ∧ m = .int .i64 (k + 6 * (t : Int))) (fun _ i => n - (intOf i).toNat)
  case atStart => exact ⟨0, Nat.zero_le _, rfl, by simp⟩
  case round =>
    obtain ⟨t, ht, rfl, rfl⟩ := hrel
    by_cases hlt : t < n
    · obtain ⟨b, o, rfl, hB, hc0, hc1, hc2, hc3, hc4, hc5⟩ := HR.out.at_ (i := t) (by rw [mkCs_len]; exact hlt)
      rw [mkCs_at] at hc0 hc1 hc2 hc3 hc4 hc5
      have q0 : 0 ≤ k + 6 * (t : Int) := by omega
      have q1 : k + 6 * (t : Int) ≤ 1099524210688 := by omega
      have HQ := hid (show k + 6 * ((t + 1 : Nat) : Int) = k + 6 * (t : Int) + 1 + 1 + 1 + 1 + 1 + 1 by omega)
      generalize hkt : k + 6 * (t : Int) = kt at *
      have HKT := hid hkt
      clear hkt
      replace hc0 : w.cell? ⟨b, o + t * 6, none⟩ = some (.int .i64 kt) := hc0
      replace hc1 : w.cell? ⟨b, o + t * 6 + 1, none⟩ = some (.int .i64 (kt + 1)) := hc1
      replace hc2 : w.cell? ⟨b, o + t * 6 + 1 + 1, none⟩ = some (.int .i64 (kt + 1 + 1)) := hc2
      replace hc3 : w.cell? ⟨b, o + t * 6 + 1 + 2, none⟩ = some (.bool ((kt + 1 + 1 + 1) % 3 == 0)) := hc3
      replace hc4 : w.cell? ⟨b, o + t * 6 + 1 + 3, none⟩ = some (.bool ((kt + 1 + 1 + 1 + 1) % 3 == 0)) := hc4
      replace hc5 : w.cell? ⟨b, o + t * 6 + 1 + 4, none⟩ = some (.bool ((kt + 1 + 1 + 1 + 1 + 1) % 3 == 0)) := hc5
      have n0 : (kt != kt) = false := by simp
      have n1 : (kt + 1 != kt + 1) = false := by simp
      have n2 : (kt + 1 + 1 != kt + 1 + 1) = false := by simp
      go_wp2_with fail
      exact ⟨⟨t + 1, by omega, by go_num, by rw [HQ.out]⟩, by simp [intOf]; omega⟩
    · obtain rfl : n = t := by omega
      go_wp2_with fail
      go_ret
      exact ⟨rfl, rfl⟩
theorem markGrid_any (gw gh : Int) (A : Option Addr) (n c base : Nat) (cs : List CellD) (k : Int) (w : World) (ho : OwnC w base A n c cs) (hn : n ≤ 2097152) (h0 : 0 ≤ k) (h1 : k ≤ 1099511627776) :
    Calls Tryz.prog 28 #[.agg #[.int .i64 gw, .int .i64 gh, .slice A n c], .int .i64 k] w fun e w' => e = .returned (.int .i64 (k + 6 * (n : Int))) ∧ OwnC w' base A n c (mkCs k n) ∧ Only (fun i => (Value.slice A n c).ownBlock = some i) w w' := by
  have HO := hid ho
  clear ho
  have hb0 := hid ((Below.refl w.heap.size w).alloc (Nat.le_refl _) (.cells #[.int .i64 gw, .int .i64 gh, .slice A n c] 34))
  go_enter Tryz.func28, Tryz.ntmps28
  go_wp2_with fail
  refine (markCellS_any A n c base cs k _ (HO.out.below (Nat.le_refl _) hb0.out) hn h0 h1).mono ?_
  rintro e v1 ⟨rfl, ho1, hon1⟩
  have HO1 := hid ho1
  have HON := hid ((Only.below (S := fun i => (Value.slice A n c).ownBlock = some i) hb0.out (Nat.le_refl _)).trans hon1)
  clear ho1 hon1
  go_wp2_with fail
  go_ret
  exact ⟨rfl, HO1.out, HON.out⟩
theorem heldGrid_any (gw gh : Int) (A : Option Addr) (n c : Nat) (k : Int) (w : World) (hr : RdC w w.heap.size A (mkCs k n)) (hn : n ≤ 2097152) (h0 : 0 ≤ k) (h1 : k ≤ 1099511627776) :
    Calls Tryz.prog 30 #[.agg #[.int .i64 gw, .int .i64 gh, .slice A n c], .int .i64 k] w fun e w' => e = .returned (.int .i64 (k + 6 * (n : Int))) ∧ Below w.heap.size w w' := by
  have HR := hid hr
  clear hr
  have hb0 := hid ((Below.refl w.heap.size w).alloc (Nat.le_refl _) (.cells #[.int .i64 gw, .int .i64 gh, .slice A n c] 34))
  have q0 : 0 ≤ k + 6 * (n : Int) := by omega
  go_enter Tryz.func30, Tryz.ntmps30
  go_wp2_with fail
  refine (heldCellS_any A n c k _ ((HR.out.below (Nat.le_refl _) hb0.out).more (by simp)) hn h0 h1).mono ?_
  rintro e v1 ⟨rfl, rfl⟩
  go_wp2_with fail
  go_ret
  exact ⟨rfl, hb0.out⟩
end Go.Proofs.YtgnpgkkjcloghaaGreat.Gr
namespace Go.Proofs.YtgnpgkkjcloghaaGreat.DOk
open Lib
open Go.RowKit Bytes
def marksN (n : Nat) (k : Int) : List Int := (List.range n).map fun i : Nat => k + (i : Int)
def mpartI (zs : List Int) (n : Nat) (k : Int) (i : Nat) : List Int := (marksN n k).take i ++ zs.drop i
theorem marksN_len (n : Nat) (k : Int) : (marksN n k).length = n := by simp [marksN]
theorem mpartI_set {zs : List Int} {n : Nat} (k : Int) {i : Nat} (hl : zs.length = n) (h : i < n) : (mpartI zs n k i).set i (k + (i : Int)) = mpartI zs n k (i + 1) := by
  have e : (marksN n k)[i]'(by rw [marksN_len]; exact h) = k + (i : Int) := by simp [marksN]
  unfold mpartI
  rw [List.set_append_right _ _ (by simp only [List.length_take]; omega), show i - (List.take i (marksN n k)).length = 0 from (by have := marksN_len n k; simp only [List.length_take, this]; omega),
    List.drop_eq_getElem_cons (by omega), List.set_cons_zero, List.take_succ_eq_append_getElem (by rw [marksN_len]; exact h), e, List.append_assoc]
  rfl
theorem mpartI_end {zs : List Int} {n : Nat} (k : Int) (hl : zs.length = n) : mpartI zs n k n = marksN n k := by
  unfold mpartI; rw [List.take_of_length_le (by rw [marksN_len]; omega), List.drop_of_length_le (by omega), List.append_nil]
theorem markIntS_own (A : Option Addr) (n c base : Nat) (zs : List Int) (k : Int) (w : World) (ho : OwnI w base A n c zs) (hn : n ≤ 2097152) (h0 : 0 ≤ k) (h1 : k ≤ 1099511627776) :
    Calls Tryz.prog 12 #[.slice A n c, .int .i64 k] w fun e w' => e = .returned (.int .i64 (k + n)) ∧ OwnI w' base A n c (marksN n k) ∧ w.grownBy w' (Value.slice A n c).ownBlock := by
  have hl := hid ho.len
  go_enter Tryz.func12, Tryz.ntmps12
  go_wp2
  go_loopw [1, 5] (fun m i wr => ∃ t : Nat, t ≤ n ∧ i = .int .i64 t ∧ m = .int .i64 (k + t) ∧ OwnI wr base A n c (mpartI zs n k t) ∧ w.grownBy wr (Value.slice A n c).ownBlock) (fun _ i _ => n - (intOf i).toNat)
  case atStart => exact ⟨0, Nat.zero_le _, rfl, by go_num, by simpa [mpartI] using ho, World.grownBy.refl _ _⟩
  case round =>
    clear ho
    obtain ⟨t, ht, rfl, rfl, ho, hg⟩ := hrel
    by_cases hlt : t < n
    · obtain ⟨g, rfl⟩ : ∃ g, A = some ⟨g, 0, none⟩ := by
        rcases ho.2 with ⟨_, h⟩ | ⟨fb, _, _, h, _⟩
        · omega
        · injection h with h _ _; exact ⟨fb, h⟩
      have hf := World.ownsRow.frozenAt (h := ho) t
      obtain ⟨u, hu⟩ : ∃ u, wr.cell? ⟨g, t, none⟩ = some u := by
        rw [World.ownsRow.cellAt (h := ho) t (by omega)]; exact ⟨_, List.getElem?_eq_getElem (by have := ho.len; simp [iv]; omega)⟩
      have hs := ho.stored t (k + (t : Int))
      rw [mpartI_set k hl.out hlt] at hs
      have HS := hid hs.1
      have HG := hid (grown_trans hg hs.2)
      clear hs hg ho
      go_wp2
      exact ⟨⟨t + 1, by omega, by go_num, by go_num, HS.out, HG.out⟩, by simp [intOf]; omega⟩
    · obtain rfl : n = t := by omega
      rw [mpartI_end k hl.out] at ho
      have HO := hid ho
      have HG := hid hg
      clear ho hg
      go_wp2
      go_ret
      exact ⟨ret_int rfl, HO.out, HG.out⟩
theorem heldIntS_any (A : Option Addr) (n c : Nat) (k : Int) (w : World) (hr : RdI w w.heap.size A (marksN n k)) (hn : n ≤ 2097152) (h0 : 0 ≤ k) (h1 : k ≤ 1099511627776) :
    Calls Tryz.prog 31 #[.slice A n c, .int .i64 k] w fun e w' => e = .returned (.int .i64 (k + n)) ∧ w = w' := by
  go_enter Tryz.func31, Tryz.ntmps31
  go_wp2
  go_loop [1, 5] (fun m i => ∃ t : Nat, t ≤ n ∧ i = .int .i64 t ∧ m = .int .i64 (k + t)) (fun _ i => n - (intOf i).toNat)
  case atStart => exact ⟨0, Nat.zero_le _, rfl, by go_num⟩
  case round =>
    obtain ⟨t, ht, rfl, rfl⟩ := hrel
    by_cases hlt : t < n
    · obtain ⟨b, o, rfl, hB, hc⟩ := hr.at_ (k := t) (by rw [marksN_len]; exact hlt)
      rw [show (marksN n k)[t]'(by rw [marksN_len]; exact hlt) = k + (t : Int) by simp [marksN]] at hc
      have hne : ((k + (t : Int)) != (k + (t : Int))) = false := by simp
      clear hr
      go_wp2
      exact ⟨⟨t + 1, by omega, by go_num, by go_num⟩, by simp [intOf]; omega⟩
    · obtain rfl : n = t := by omega
      go_wp2
      go_ret
      exact ⟨ret_int rfl, rfl⟩
theorem szIntS_any (A : Option Addr) (n c : Nat) (left : Int) (w : World) (hn : n ≤ 9223372036854775807) (h0 : 0 ≤ left) (h1 : left ≤ 1048576) :
    Calls Tryz.prog 15 #[.slice A n c, .int .i64 left] w fun e w' => e = .returned (.int .i64 (if left < (n : Int) then -1 else left - n)) ∧ w = w' := by
  by_cases h : left < (n : Int)
  · have HI := hid (if_pos h : (if left < (n : Int) then (-1 : Int) else left - n) = -1)
    have h' : left - (n : Int) < 0 := by omega
    rw [HI.out]
    go_enter Tryz.func15, Tryz.ntmps15
    go_wp2_with fail
    go_ret
    exact ⟨rfl, rfl⟩
  · have HI := hid (if_neg h : (if left < (n : Int) then (-1 : Int) else left - n) = left - n)
    have h' : 0 ≤ left - (n : Int) := by omega
    rw [HI.out]
    go_enter Tryz.func15, Tryz.ntmps15
    go_wp2_with fail
    go_ret
    exact ⟨rfl, rfl⟩
end Go.Proofs.YtgnpgkkjcloghaaGreat.DOk
