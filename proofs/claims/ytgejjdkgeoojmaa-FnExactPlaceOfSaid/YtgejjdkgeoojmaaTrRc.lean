/- The laws' helpers over rectangles: the comparison of equals, marks. -/
import Derived.Test.YtgejjdkgeoojmaaTrTo
namespace Go.Proofs.Ytgejjdkgeoojmaa.Tr
open Go.RowKit Go.Proofs.Ytgejjdkgeoojmaa.Bytes Go.Proofs.Ytgejjdkgeoojmaa.Rows_ Go.Proofs.Ytgejjdkgeoojmaa.RowK
set_option linter.unusedVariables false
attribute [local go_sem ↓] Go.wp_at_zero Go.wp_at_succ
set_option maxRecDepth 100000 in
set_option maxHeartbeats 1600000 in
theorem eqRect_yes (x0 : Int) (x1 : Int) (x2 : Int) (x3 : Int) (x4 : Int) (w : World) :
    Calls Try.prog 49 #[.agg #[.int .i64 x0, .int .i64 x1, .int .i64 x2, .int .i64 x3, .int .i64 x4], .agg #[.int .i64 x0, .int .i64 x1, .int .i64 x2, .int .i64 x3, .int .i64 x4]] w fun e w' => e = .returned (.bool true) ∧ Below w.heap.size w w' := by
  have e0 : (x0 != x0) = false := by simp
  have e1 : (x1 != x1) = false := by simp
  have e2 : (x2 != x2) = false := by simp
  have e3 : (x3 != x3) = false := by simp
  have e4 : (x4 != x4) = false := by simp
  go_enter Try.func49, Try.ntmps49
  go_wp2_with fail
  go_ret
  refine ⟨rfl, ?_⟩
  repeat (first | refine Below.setCell ?_ (by simp <;> omega) _ | refine Below.alloc ?_ (by simp <;> omega) _)
  exact Below.refl _ _
set_option maxRecDepth 100000 in
set_option maxHeartbeats 1600000 in
theorem eqRectS_yes (F G : Option Addr) (n c c' : Nat) (cs : List RectD) (w : World) (hf : RdR w w.heap.size F cs) (hg : RdR w w.heap.size G cs) (hl : cs.length = n) (hn : n ≤ 1099511627776) :
    Calls Try.prog 44 #[.slice F n c, .slice G n c'] w fun e w' => e = .returned (.bool true) ∧ Below w.heap.size w w' := by
  have HF := Lib.hid hf
  have HG := Lib.hid hg
  have HL := Lib.hid hl
  have hnn : (n != n) = false := by simp
  clear hf hg hl
  go_enter Try.func44, Try.ntmps44
  go_wp2_with fail
  go_loopw [5] (fun i wr => ∃ k : Nat, k ≤ n ∧ i = .int .i64 k ∧ Below w.heap.size w wr) (fun i _ => n - (intOf i).toNat)
  case atStart => exact ⟨0, Nat.zero_le _, rfl, Below.refl _ _⟩
  case round =>
    obtain ⟨k, hk, rfl, hb⟩ := hrel
    have hz : w.heap.size ≤ wr.heap.size := hb.size
    by_cases hlt : k < n
    · have hlf : k < cs.length := by rw [HL.out]; exact hlt
      obtain ⟨b, o, rfl, hB, hc0, hc1, hc2, hc3, hc4⟩ := (HF.out.below (Nat.le_refl _) hb).at_ hlf
      obtain ⟨b', o', rfl, hB', hd0, hd1, hd2, hd3, hd4⟩ := (HG.out.below (Nat.le_refl _) hb).at_ hlf
      have HB := Lib.hid hb
      clear hb
      generalize cs[k].pane = x0 at *
      generalize cs[k].x = x1 at *
      generalize cs[k].y = x2 at *
      generalize cs[k].w = x3 at *
      generalize cs[k].h = x4 at *
      go_wp2_with fail
      go_region_with ((go_at_call 49; refine (eqRect_yes x0 x1 x2 x3 x4 _).mono ?_; rintro e v1 ⟨rfl, hb1'⟩; have hb1 : Below wr.heap.size wr v1 := undrew hb1'; clear hb1'))
      all_goals
        have HB1 := Lib.hid (HB.out.trans (hb1.mono hz))
        clear hb1
        go_wp2_with fail
        exact ⟨⟨k + 1, by omega, by go_num, HB1.out⟩, by simp [intOf]; omega⟩
    · obtain rfl : n = k := by omega
      go_wp2_with fail
      go_ret
      exact ⟨rfl, hb⟩
def mkR (k : Int) : RectD := ⟨k, k + 1, k + 1 + 1, k + 1 + 1 + 1, k + 1 + 1 + 1 + 1⟩
def mksR (k : Int) (n : Nat) : List RectD := (List.range n).map fun i : Nat => mkR (k + 5 * (i : Int))
theorem mksR_len (k : Int) (n : Nat) : (mksR k n).length = n := by simp [mksR]
theorem mksR_succ (k : Int) (n : Nat) : mksR k (n + 1) = mksR k n ++ [mkR (k + 5 * (n : Int))] := by simp [mksR, List.range_succ]
theorem mksR_at (k : Int) (n i : Nat) (h : i < (mksR k n).length) : (mksR k n)[i] = mkR (k + 5 * (i : Int)) := by simp [mksR]
theorem mksR_now (cs : List RectD) (t : Nat) (k : Int) (ht : t < cs.length) : mksR k t ++ cs.drop t = mksR k t ++ [cs[t]] ++ cs.drop (t + 1) := by
  rw [List.drop_eq_getElem_cons ht, List.append_assoc]; rfl
set_option maxRecDepth 100000 in
set_option maxHeartbeats 3200000 in
theorem markRectS_any (A : Option Addr) (n c base : Nat) (cs : List RectD) (k : Int) (w : World) (ho : OwnR w base A n c cs) (hn : n ≤ 2097152) (h0 : 0 ≤ k) (h1 : k ≤ 1099511627776) :
    Calls Try.prog 45 #[.slice A n c, .int .i64 k] w fun e w' => e = .returned (.int .i64 (k + 5 * (n : Int))) ∧ OwnR w' base A n c (mksR k n) ∧ Only (fun i => (Value.slice A n c).ownBlock = some i) w w' := by
  have HL := Lib.hid ho.len
  go_enter Try.func45, Try.ntmps45
  go_wp2_with fail
  go_loopw [1, 5] (fun m i wr => ∃ t : Nat, t ≤ n ∧ i = .int .i64 t ∧ m = .int .i64 (k + 5 * (t : Int)) ∧ OwnR wr base A n c (mksR k t ++ cs.drop t) ∧ Only (fun i => (Value.slice A n c).ownBlock = some i) w wr) (fun _ i _ => n - (intOf i).toNat)
  case atStart => exact ⟨0, Nat.zero_le _, rfl, by simp, by simpa [mksR] using ho, Only.refl _ _⟩
  case round =>
    clear ho
    obtain ⟨t, ht, rfl, rfl, ho, hon⟩ := hrel
    by_cases hlt : t < n
    · have hlt' : t < cs.length := by rw [HL.out]; exact hlt
      have HN := Lib.hid (mksR_succ k t)
      have HP := Lib.hid (show ((mksR k t).map rectR).length = t by rw [List.length_map, mksR_len])
      have HLN := Lib.hid (lenR (mksR k t))
      rw [mksR_now cs t k hlt'] at ho
      have HX := Lib.hid (show ∃ z0 z1 z2 z3 z4, rectR cs[t] = [z0, z1, z2, z3, z4] from ⟨_, _, _, _, _, rfl⟩)
      generalize cs[t] = x at *
      generalize hpost : cs.drop (t + 1) = post at *
      have HPO := Lib.hid hpost
      clear hpost
      obtain ⟨fb, rfl⟩ := own_addr ho (by omega)
      unfold OwnR at ho
      rw [List.map_append, List.map_append] at ho
      have HM := Lib.hid (show mkR (k + 5 * (t : Int)) = ⟨k + 5 * (t : Int), k + 5 * (t : Int) + 1, k + 5 * (t : Int) + 1 + 1, k + 5 * (t : Int) + 1 + 1 + 1, k + 5 * (t : Int) + 1 + 1 + 1 + 1⟩ from rfl)
      have q0 : 0 ≤ k + 5 * (t : Int) := by omega
      have q1 : k + 5 * (t : Int) ≤ 1099524210688 := by omega
      have HQ := Lib.hid (show k + 5 * ((t + 1 : Nat) : Int) = k + 5 * (t : Int) + 1 + 1 + 1 + 1 + 1 by omega)
      generalize hpre : mksR k t = pre at *
      have HPR := Lib.hid hpre
      clear hpre
      generalize hkt : k + 5 * (t : Int) = kt at *
      have HKT := Lib.hid hkt
      clear hkt
      have HO := Lib.hid ho
      have HON := Lib.hid hon
      obtain ⟨u0, hu0⟩ := own_there HO.out (t * 5) (by omega)
      have hf0 := World.ownsRow.frozenAt (h := HO.out) (t * 5)
      obtain ⟨u1, hu1⟩ := own_there HO.out (t * 5 + 1) (by omega)
      have hf1 := World.ownsRow.frozenAt (h := HO.out) (t * 5 + 1)
      obtain ⟨u2, hu2⟩ := own_there HO.out (t * 5 + 1 + 1) (by omega)
      have hf2 := World.ownsRow.frozenAt (h := HO.out) (t * 5 + 1 + 1)
      obtain ⟨u3, hu3⟩ := own_there HO.out (t * 5 + 1 + 2) (by omega)
      have hf3 := World.ownsRow.frozenAt (h := HO.out) (t * 5 + 1 + 2)
      obtain ⟨u4, hu4⟩ := own_there HO.out (t * 5 + 1 + 3) (by omega)
      have hf4 := World.ownsRow.frozenAt (h := HO.out) (t * 5 + 1 + 3)
      clear ho hon
      go_wp2_with fail
      refine ⟨⟨t + 1, by omega, by go_num, ?_, ?_, ?_⟩, by simp [intOf]; omega⟩
      · rw [HQ.out]
      · have h := HO.out
        rw [HN.out, HM.out, HPO.out]
        unfold OwnR
        rw [List.map_append, List.map_append]
        exact rowR (.int .i64 (kt)) (.int .i64 (kt + 1)) (.int .i64 (kt + 1 + 1)) (.int .i64 (kt + 1 + 1 + 1)) (.int .i64 (kt + 1 + 1 + 1 + 1)) HLN.out t HP.out h
      · exact HON.out.trans (((((Only.cell_ (S := fun i => (Value.slice (some ⟨fb, 0, none⟩) n c).ownBlock = some i) _ fb _ _ rfl).trans (Only.cell_ (S := fun i => (Value.slice (some ⟨fb, 0, none⟩) n c).ownBlock = some i) _ fb _ _ rfl)).trans (Only.cell_ (S := fun i => (Value.slice (some ⟨fb, 0, none⟩) n c).ownBlock = some i) _ fb _ _ rfl)).trans (Only.cell_ (S := fun i => (Value.slice (some ⟨fb, 0, none⟩) n c).ownBlock = some i) _ fb _ _ rfl)).trans (Only.cell_ (S := fun i => (Value.slice (some ⟨fb, 0, none⟩) n c).ownBlock = some i) _ fb _ _ rfl))
    · obtain rfl : n = t := by omega
      have e2 : mksR k n ++ cs.drop n = mksR k n := by rw [List.drop_of_length_le (by rw [HL.out]; exact Nat.le_refl _), List.append_nil]
      rw [e2] at ho
      have HO := Lib.hid ho
      have HON := Lib.hid hon
      clear ho hon e2
      go_wp2_with fail
      go_ret
      exact ⟨rfl, HO.out, HON.out⟩
set_option maxRecDepth 100000 in
set_option maxHeartbeats 3200000 in
theorem heldRectS_any (A : Option Addr) (n c : Nat) (k : Int) (w : World) (hr : RdR w w.heap.size A (mksR k n)) (hn : n ≤ 2097152) (h0 : 0 ≤ k) (h1 : k ≤ 1099511627776) :
    Calls Try.prog 46 #[.slice A n c, .int .i64 k] w fun e w' => e = .returned (.int .i64 (k + 5 * (n : Int))) ∧ w = w' := by
  have HR := Lib.hid hr
  clear hr
  go_enter Try.func46, Try.ntmps46
  go_wp2_with fail
  go_loop [1, 5] (fun m i => ∃ t : Nat, t ≤ n ∧ i = .int .i64 t ∧ m = .int .i64 (k + 5 * (t : Int))) (fun _ i => n - (intOf i).toNat)
  case atStart => exact ⟨0, Nat.zero_le _, rfl, by simp⟩
  case round =>
    obtain ⟨t, ht, rfl, rfl⟩ := hrel
    by_cases hlt : t < n
    · obtain ⟨b, o, rfl, hB, hc0, hc1, hc2, hc3, hc4⟩ := HR.out.at_ (i := t) (by rw [mksR_len]; exact hlt)
      rw [mksR_at] at hc0 hc1 hc2 hc3 hc4
      have q0 : 0 ≤ k + 5 * (t : Int) := by omega
      have q1 : k + 5 * (t : Int) ≤ 1099524210688 := by omega
      have HQ := Lib.hid (show k + 5 * ((t + 1 : Nat) : Int) = k + 5 * (t : Int) + 1 + 1 + 1 + 1 + 1 by omega)
      generalize hkt : k + 5 * (t : Int) = kt at *
      have HKT := Lib.hid hkt
      clear hkt
      replace hc0 : w.cell? ⟨b, o + t * 5, none⟩ = some (.int .i64 (kt)) := hc0
      replace hc1 : w.cell? ⟨b, o + t * 5 + 1, none⟩ = some (.int .i64 (kt + 1)) := hc1
      replace hc2 : w.cell? ⟨b, o + t * 5 + 1 + 1, none⟩ = some (.int .i64 (kt + 1 + 1)) := hc2
      replace hc3 : w.cell? ⟨b, o + t * 5 + 1 + 2, none⟩ = some (.int .i64 (kt + 1 + 1 + 1)) := hc3
      replace hc4 : w.cell? ⟨b, o + t * 5 + 1 + 3, none⟩ = some (.int .i64 (kt + 1 + 1 + 1 + 1)) := hc4
      have n0 : (kt != kt) = false := by simp
      have n1 : (kt + 1 != kt + 1) = false := by simp
      have n2 : (kt + 1 + 1 != kt + 1 + 1) = false := by simp
      have n3 : (kt + 1 + 1 + 1 != kt + 1 + 1 + 1) = false := by simp
      have n4 : (kt + 1 + 1 + 1 + 1 != kt + 1 + 1 + 1 + 1) = false := by simp
      go_wp2_with fail
      exact ⟨⟨t + 1, by omega, by go_num, by rw [HQ.out]⟩, by simp [intOf]; omega⟩
    · obtain rfl : n = t := by omega
      go_wp2_with fail
      go_ret
      exact ⟨rfl, rfl⟩
end Go.Proofs.Ytgejjdkgeoojmaa.Tr

