/- The laws' helpers that mark a grid's cells and find the marks. -/
import Derived.Test.YthlpchojlddnbaaGrTo
namespace Go.Proofs.Ythlpchojlddnbaa.Gr
open Go.RowKit Go.Proofs.Ythlpchojlddnbaa.Bytes Go.Proofs.Ythlpchojlddnbaa.Rows_ Go.Proofs.Ythlpchojlddnbaa.RowK
set_option linter.unusedVariables false
def m3 (k : Int) : Bool := k % 3 == 0
def mkC (k : Int) : CellD := ⟨k, k + 1, k + 1 + 1, m3 (k + 1 + 1 + 1), m3 (k + 1 + 1 + 1 + 1), m3 (k + 1 + 1 + 1 + 1 + 1)⟩
def mkCs (k : Int) (n : Nat) : List CellD := (List.range n).map fun i : Nat => mkC (k + 6 * (i : Int))
theorem mkCs_len (k : Int) (n : Nat) : (mkCs k n).length = n := by simp [mkCs]
theorem mkCs_succ (k : Int) (n : Nat) : mkCs k (n + 1) = mkCs k n ++ [mkC (k + 6 * (n : Int))] := by simp [mkCs, List.range_succ]
theorem mkCs_at (k : Int) (n i : Nat) (h : i < (mkCs k n).length) : (mkCs k n)[i] = mkC (k + 6 * (i : Int)) := by simp [mkCs]
theorem mkCs_now (cs : List CellD) (t : Nat) (k : Int) (ht : t < cs.length) : mkCs k t ++ cs.drop t = mkCs k t ++ [cs[t]] ++ cs.drop (t + 1) := by
  rw [List.drop_eq_getElem_cons ht, List.append_assoc]; rfl

theorem only6 {S : Nat → Prop} (w : World) (b : Nat) (h : S b) (i0 i1 i2 i3 i4 i5 : Nat) (x0 x1 x2 x3 x4 x5 : Value) :
    Only S w ((((((w.setCell ⟨b, i0, none⟩ x0).setCell ⟨b, i1, none⟩ x1).setCell ⟨b, i2, none⟩ x2).setCell ⟨b, i3, none⟩ x3).setCell ⟨b, i4, none⟩ x4).setCell ⟨b, i5, none⟩ x5) :=
  (((((Only.cell_ _ b _ _ h).trans (Only.cell_ _ b _ _ h)).trans (Only.cell_ _ b _ _ h)).trans (Only.cell_ _ b _ _ h)).trans (Only.cell_ _ b _ _ h)).trans (Only.cell_ _ b _ _ h)

set_option maxRecDepth 100000 in
set_option maxHeartbeats 3200000 in
theorem markCellS_any (A : Option Addr) (n c base : Nat) (cs : List CellD) (k : Int) (w : World) (ho : OwnC w base A n c cs) (hn : n ≤ 2097152) (h0 : 0 ≤ k) (h1 : k ≤ 1099511627776) :
    Calls Try.prog 50 #[.slice A n c, .int .i64 k] w fun e w' => e = .returned (.int .i64 (k + 6 * (n : Int))) ∧ OwnC w' base A n c (mkCs k n) ∧ Only (fun i => (Value.slice A n c).ownBlock = some i) w w' := by
  have HL := Lib.hid ho.len
  go_enter Try.func50, Try.ntmps50
  go_wp2_with fail
  go_loopw [1, 5] (fun m i wr => ∃ t : Nat, t ≤ n ∧ i = .int .i64 t ∧ m = .int .i64 (k + 6 * (t : Int)) ∧ OwnC wr base A n c (mkCs k t ++ cs.drop t) ∧ Only (fun i => (Value.slice A n c).ownBlock = some i) w wr) (fun _ i _ => n - (intOf i).toNat)
  case atStart => exact ⟨0, Nat.zero_le _, rfl, by simp, by simpa [mkCs] using ho, Only.refl _ _⟩
  case round =>
    clear ho
    obtain ⟨t, ht, rfl, rfl, ho, hon⟩ := hrel
    by_cases hlt : t < n
    · have hlt' : t < cs.length := by rw [HL.out]; exact hlt
      have HN := Lib.hid (mkCs_succ k t)
      have HP := Lib.hid (show ((mkCs k t).map cellR).length = t by rw [List.length_map, mkCs_len])
      have HLN := Lib.hid (cell_len (mkCs k t))
      rw [mkCs_now cs t k hlt'] at ho
      have HX := Lib.hid (show ∃ z0 z1 z2 z3 z4 z5, cellR cs[t] = [z0, z1, z2, z3, z4, z5] from ⟨_, _, _, _, _, _, rfl⟩)
      generalize cs[t] = x at *
      generalize hpost : cs.drop (t + 1) = post at *
      have HPO := Lib.hid hpost
      clear hpost
      obtain ⟨fb, rfl⟩ := own_addr ho (by omega)
      unfold OwnC at ho
      rw [List.map_append, List.map_append] at ho
      have HM := Lib.hid (show mkC (k + 6 * (t : Int)) = ⟨k + 6 * (t : Int), k + 6 * (t : Int) + 1, k + 6 * (t : Int) + 1 + 1, m3 (k + 6 * (t : Int) + 1 + 1 + 1), m3 (k + 6 * (t : Int) + 1 + 1 + 1 + 1), m3 (k + 6 * (t : Int) + 1 + 1 + 1 + 1 + 1)⟩ from rfl)
      have q0 : 0 ≤ k + 6 * (t : Int) := by omega
      have q1 : k + 6 * (t : Int) ≤ 1099524210688 := by omega
      have HQ := Lib.hid (show k + 6 * ((t + 1 : Nat) : Int) = k + 6 * (t : Int) + 1 + 1 + 1 + 1 + 1 + 1 by omega)
      have HK := Lib.hid (show ∃ kt, kt = k + 6 * (t : Int) from ⟨_, rfl⟩)
      generalize hpre : mkCs k t = pre at *
      have HPR := Lib.hid hpre
      clear hpre
      generalize hkt : k + 6 * (t : Int) = kt at *
      have HKT := Lib.hid hkt
      clear hkt
      have HO := Lib.hid ho
      have HON := Lib.hid hon
      obtain ⟨u0, hu0⟩ := own_there HO.out (t * 6) (by omega)
      obtain ⟨u1, hu1⟩ := own_there HO.out (t * 6 + 1) (by omega)
      obtain ⟨u2, hu2⟩ := own_there HO.out (t * 6 + 1 + 1) (by omega)
      obtain ⟨u3, hu3⟩ := own_there HO.out (t * 6 + 1 + 2) (by omega)
      obtain ⟨u4, hu4⟩ := own_there HO.out (t * 6 + 1 + 3) (by omega)
      obtain ⟨u5, hu5⟩ := own_there HO.out (t * 6 + 1 + 4) (by omega)
      have hf0 := World.ownsRow.frozenAt (h := HO.out) (t * 6)
      have hf1 := World.ownsRow.frozenAt (h := HO.out) (t * 6 + 1)
      have hf2 := World.ownsRow.frozenAt (h := HO.out) (t * 6 + 1 + 1)
      have hf3 := World.ownsRow.frozenAt (h := HO.out) (t * 6 + 1 + 2)
      have hf4 := World.ownsRow.frozenAt (h := HO.out) (t * 6 + 1 + 3)
      have hf5 := World.ownsRow.frozenAt (h := HO.out) (t * 6 + 1 + 4)
      clear ho hon
      go_wp2_with fail
      refine ⟨⟨t + 1, by omega, by go_num, ?_, ?_, ?_⟩, by simp [intOf]; omega⟩
      · rw [HQ.out]
      · have h := HO.out
        rw [HN.out, HM.out, HPO.out]
        unfold OwnC
        rw [List.map_append, List.map_append]
        exact row6 (.int .i64 kt) (.int .i64 (kt + 1)) (.int .i64 (kt + 1 + 1)) (.bool (m3 (kt + 1 + 1 + 1))) (.bool (m3 (kt + 1 + 1 + 1 + 1))) (.bool (m3 (kt + 1 + 1 + 1 + 1 + 1))) HLN.out t HP.out h
      · exact HON.out.trans (only6 (S := fun i => (Value.slice (some ⟨fb, 0, none⟩) n c).ownBlock = some i) _ fb rfl _ _ _ _ _ _ _ _ _ _ _ _)
    · obtain rfl : n = t := by omega
      have e2 : mkCs k n ++ cs.drop n = mkCs k n := by rw [List.drop_of_length_le (by rw [HL.out]; exact Nat.le_refl _), List.append_nil]
      rw [e2] at ho
      have HO := Lib.hid ho
      have HON := Lib.hid hon
      clear ho hon e2
      go_wp2_with fail
      go_ret
      exact ⟨rfl, HO.out, HON.out⟩

set_option maxRecDepth 100000 in
set_option maxHeartbeats 3200000 in
theorem heldCellS_any (A : Option Addr) (n c : Nat) (k : Int) (w : World) (hr : RdC w w.heap.size A (mkCs k n)) (hn : n ≤ 2097152) (h0 : 0 ≤ k) (h1 : k ≤ 1099511627776) :
    Calls Try.prog 51 #[.slice A n c, .int .i64 k] w fun e w' => e = .returned (.int .i64 (k + 6 * (n : Int))) ∧ w = w' := by
  have HR := Lib.hid hr
  clear hr
  go_enter Try.func51, Try.ntmps51
  go_wp2_with fail
  go_loop [1, 5] (fun m i => ∃ t : Nat, t ≤ n ∧ i = .int .i64 t ∧ m = .int .i64 (k + 6 * (t : Int))) (fun _ i => n - (intOf i).toNat)
  case atStart => exact ⟨0, Nat.zero_le _, rfl, by simp⟩
  case round =>
    obtain ⟨t, ht, rfl, rfl⟩ := hrel
    by_cases hlt : t < n
    · obtain ⟨b, o, rfl, hB, hc0, hc1, hc2, hc3, hc4, hc5⟩ := HR.out.at_ (i := t) (by rw [mkCs_len]; exact hlt)
      rw [mkCs_at] at hc0 hc1 hc2 hc3 hc4 hc5
      have q0 : 0 ≤ k + 6 * (t : Int) := by omega
      have q1 : k + 6 * (t : Int) ≤ 1099524210688 := by omega
      have HQ := Lib.hid (show k + 6 * ((t + 1 : Nat) : Int) = k + 6 * (t : Int) + 1 + 1 + 1 + 1 + 1 + 1 by omega)
      generalize hkt : k + 6 * (t : Int) = kt at *
      have HKT := Lib.hid hkt
      clear hkt
      replace hc0 : w.cell? ⟨b, o + t * 6, none⟩ = some (.int .i64 kt) := hc0
      replace hc1 : w.cell? ⟨b, o + t * 6 + 1, none⟩ = some (.int .i64 (kt + 1)) := hc1
      replace hc2 : w.cell? ⟨b, o + t * 6 + 1 + 1, none⟩ = some (.int .i64 (kt + 1 + 1)) := hc2
      replace hc3 : w.cell? ⟨b, o + t * 6 + 1 + 2, none⟩ = some (.bool ((kt + 1 + 1 + 1) % 3 == 0)) := hc3
      replace hc4 : w.cell? ⟨b, o + t * 6 + 1 + 3, none⟩ = some (.bool ((kt + 1 + 1 + 1 + 1) % 3 == 0)) := hc4
      replace hc5 : w.cell? ⟨b, o + t * 6 + 1 + 4, none⟩ = some (.bool ((kt + 1 + 1 + 1 + 1 + 1) % 3 == 0)) := hc5
      have n0 : (kt != kt) = false := by simp
      have n1 : (kt + 1 != kt + 1) = false := by simp
      have n2 : (kt + 1 + 1 != kt + 1 + 1) = false := by simp
      go_wp2_with fail
      exact ⟨⟨t + 1, by omega, by go_num, by rw [HQ.out]⟩, by simp [intOf]; omega⟩
    · obtain rfl : n = t := by omega
      go_wp2_with fail
      go_ret
      exact ⟨rfl, rfl⟩

set_option maxRecDepth 100000 in
set_option maxHeartbeats 1600000 in
theorem markGrid_any (gw gh : Int) (A : Option Addr) (n c base : Nat) (cs : List CellD) (k : Int) (w : World) (ho : OwnC w base A n c cs) (hn : n ≤ 2097152) (h0 : 0 ≤ k) (h1 : k ≤ 1099511627776) :
    Calls Try.prog 16 #[.agg #[.int .i64 gw, .int .i64 gh, .slice A n c], .int .i64 k] w fun e w' => e = .returned (.int .i64 (k + 6 * (n : Int))) ∧ OwnC w' base A n c (mkCs k n) ∧ Only (fun i => (Value.slice A n c).ownBlock = some i) w w' := by
  have HO := Lib.hid ho
  clear ho
  have hb0 := Lib.hid ((Below.refl w.heap.size w).alloc (Nat.le_refl _) (.cells #[.int .i64 gw, .int .i64 gh, .slice A n c] 32))
  go_enter Try.func16, Try.ntmps16
  go_wp2_with fail
  refine (markCellS_any A n c base cs k _ (HO.out.below (Nat.le_refl _) hb0.out) hn h0 h1).mono ?_
  rintro e v1 ⟨rfl, ho1, hon1⟩
  have HO1 := Lib.hid ho1
  have HON := Lib.hid ((Only.below (S := fun i => (Value.slice A n c).ownBlock = some i) hb0.out (Nat.le_refl _)).trans hon1)
  clear ho1 hon1
  go_wp2_with fail
  go_ret
  exact ⟨rfl, HO1.out, HON.out⟩

set_option maxRecDepth 100000 in
set_option maxHeartbeats 1600000 in
theorem heldGrid_any (gw gh : Int) (A : Option Addr) (n c : Nat) (k : Int) (w : World) (hr : RdC w w.heap.size A (mkCs k n)) (hn : n ≤ 2097152) (h0 : 0 ≤ k) (h1 : k ≤ 1099511627776) :
    Calls Try.prog 17 #[.agg #[.int .i64 gw, .int .i64 gh, .slice A n c], .int .i64 k] w fun e w' => e = .returned (.int .i64 (k + 6 * (n : Int))) ∧ Below w.heap.size w w' := by
  have HR := Lib.hid hr
  clear hr
  have hb0 := Lib.hid ((Below.refl w.heap.size w).alloc (Nat.le_refl _) (.cells #[.int .i64 gw, .int .i64 gh, .slice A n c] 32))
  have q0 : 0 ≤ k + 6 * (n : Int) := by omega
  go_enter Try.func17, Try.ntmps17
  go_wp2_with fail
  refine (heldCellS_any A n c k _ ((HR.out.below (Nat.le_refl _) hb0.out).more (by simp)) hn h0 h1).mono ?_
  rintro e v1 ⟨rfl, rfl⟩
  go_wp2_with fail
  go_ret
  exact ⟨rfl, hb0.out⟩
end Go.Proofs.Ythlpchojlddnbaa.Gr

