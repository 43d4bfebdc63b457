/- The laws' helpers that mark nodes and find the marks. -/
import Derived.Test.YtgejjdkgeoojmaaTrTo
namespace Go.Proofs.Ytgejjdkgeoojmaa.Tr
open Go.RowKit Go.Proofs.Ytgejjdkgeoojmaa.Bytes Go.Proofs.Ytgejjdkgeoojmaa.Rows_ Go.Proofs.Ytgejjdkgeoojmaa.RowK
set_option linter.unusedVariables false
def m3 (k : Int) : Bool := k % 3 == 0
def mkN (k : Int) : NodeD := ⟨k, m3 (k + 1), k + 1 + 1⟩
def mksN (k : Int) (n : Nat) : List NodeD := (List.range n).map fun i : Nat => mkN (k + 3 * (i : Int))
theorem mksN_len (k : Int) (n : Nat) : (mksN k n).length = n := by simp [mksN]
theorem mksN_succ (k : Int) (n : Nat) : mksN k (n + 1) = mksN k n ++ [mkN (k + 3 * (n : Int))] := by simp [mksN, List.range_succ]
theorem mksN_at (k : Int) (n i : Nat) (h : i < (mksN k n).length) : (mksN k n)[i] = mkN (k + 3 * (i : Int)) := by simp [mksN]
theorem mksN_now (cs : List NodeD) (t : Nat) (k : Int) (ht : t < cs.length) : mksN k t ++ cs.drop t = mksN k t ++ [cs[t]] ++ cs.drop (t + 1) := by
  rw [List.drop_eq_getElem_cons ht, List.append_assoc]; rfl
set_option maxRecDepth 100000 in
set_option maxHeartbeats 3200000 in
theorem markNodeS_any (A : Option Addr) (n c base : Nat) (cs : List NodeD) (k : Int) (w : World) (ho : OwnN w base A n c cs) (hn : n ≤ 2097152) (h0 : 0 ≤ k) (h1 : k ≤ 1099511627776) :
    Calls Try.prog 39 #[.slice A n c, .int .i64 k] w fun e w' => e = .returned (.int .i64 (k + 3 * (n : Int))) ∧ OwnN w' base A n c (mksN k n) ∧ Only (fun i => (Value.slice A n c).ownBlock = some i) w w' := by
  have HL := Lib.hid ho.len
  go_enter Try.func39, Try.ntmps39
  go_wp2_with fail
  go_loopw [1, 5] (fun m i wr => ∃ t : Nat, t ≤ n ∧ i = .int .i64 t ∧ m = .int .i64 (k + 3 * (t : Int)) ∧ OwnN wr base A n c (mksN k t ++ cs.drop t) ∧ Only (fun i => (Value.slice A n c).ownBlock = some i) w wr) (fun _ i _ => n - (intOf i).toNat)
  case atStart => exact ⟨0, Nat.zero_le _, rfl, by simp, by simpa [mksN] using ho, Only.refl _ _⟩
  case round =>
    clear ho
    obtain ⟨t, ht, rfl, rfl, ho, hon⟩ := hrel
    by_cases hlt : t < n
    · have hlt' : t < cs.length := by rw [HL.out]; exact hlt
      have HN := Lib.hid (mksN_succ k t)
      have HP := Lib.hid (show ((mksN k t).map nodeR).length = t by rw [List.length_map, mksN_len])
      have HLN := Lib.hid (lenN (mksN k t))
      rw [mksN_now cs t k hlt'] at ho
      have HX := Lib.hid (show ∃ z0 z1 z2, nodeR cs[t] = [z0, z1, z2] from ⟨_, _, _, rfl⟩)
      generalize cs[t] = x at *
      generalize hpost : cs.drop (t + 1) = post at *
      have HPO := Lib.hid hpost
      clear hpost
      obtain ⟨fb, rfl⟩ := own_addr ho (by omega)
      unfold OwnN at ho
      rw [List.map_append, List.map_append] at ho
      have HM := Lib.hid (show mkN (k + 3 * (t : Int)) = ⟨k + 3 * (t : Int), m3 (k + 3 * (t : Int) + 1), k + 3 * (t : Int) + 1 + 1⟩ from rfl)
      have q0 : 0 ≤ k + 3 * (t : Int) := by omega
      have q1 : k + 3 * (t : Int) ≤ 1099524210688 := by omega
      have HQ := Lib.hid (show k + 3 * ((t + 1 : Nat) : Int) = k + 3 * (t : Int) + 1 + 1 + 1 by omega)
      generalize hpre : mksN k t = pre at *
      have HPR := Lib.hid hpre
      clear hpre
      generalize hkt : k + 3 * (t : Int) = kt at *
      have HKT := Lib.hid hkt
      clear hkt
      have HO := Lib.hid ho
      have HON := Lib.hid hon
      obtain ⟨u0, hu0⟩ := own_there HO.out (t * 3) (by omega)
      have hf0 := World.ownsRow.frozenAt (h := HO.out) (t * 3)
      obtain ⟨u1, hu1⟩ := own_there HO.out (t * 3 + 1) (by omega)
      have hf1 := World.ownsRow.frozenAt (h := HO.out) (t * 3 + 1)
      obtain ⟨u2, hu2⟩ := own_there HO.out (t * 3 + 1 + 1) (by omega)
      have hf2 := World.ownsRow.frozenAt (h := HO.out) (t * 3 + 1 + 1)
      clear ho hon
      go_wp2_with fail
      refine ⟨⟨t + 1, by omega, by go_num, ?_, ?_, ?_⟩, by simp [intOf]; omega⟩
      · rw [HQ.out]
      · have h := HO.out
        rw [HN.out, HM.out, HPO.out]
        unfold OwnN
        rw [List.map_append, List.map_append]
        exact rowN (.int .i64 (kt)) (.bool (m3 (kt + 1))) (.int .i64 (kt + 1 + 1)) HLN.out t HP.out h
      · exact HON.out.trans (((Only.cell_ (S := fun i => (Value.slice (some ⟨fb, 0, none⟩) n c).ownBlock = some i) _ fb _ _ rfl).trans (Only.cell_ (S := fun i => (Value.slice (some ⟨fb, 0, none⟩) n c).ownBlock = some i) _ fb _ _ rfl)).trans (Only.cell_ (S := fun i => (Value.slice (some ⟨fb, 0, none⟩) n c).ownBlock = some i) _ fb _ _ rfl))
    · obtain rfl : n = t := by omega
      have e2 : mksN k n ++ cs.drop n = mksN k n := by rw [List.drop_of_length_le (by rw [HL.out]; exact Nat.le_refl _), List.append_nil]
      rw [e2] at ho
      have HO := Lib.hid ho
      have HON := Lib.hid hon
      clear ho hon e2
      go_wp2_with fail
      go_ret
      exact ⟨rfl, HO.out, HON.out⟩
set_option maxRecDepth 100000 in
set_option maxHeartbeats 3200000 in
theorem heldNodeS_any (A : Option Addr) (n c : Nat) (k : Int) (w : World) (hr : RdN w w.heap.size A (mksN k n)) (hn : n ≤ 2097152) (h0 : 0 ≤ k) (h1 : k ≤ 1099511627776) :
    Calls Try.prog 52 #[.slice A n c, .int .i64 k] w fun e w' => e = .returned (.int .i64 (k + 3 * (n : Int))) ∧ w = w' := by
  have HR := Lib.hid hr
  clear hr
  go_enter Try.func52, Try.ntmps52
  go_wp2_with fail
  go_loop [1, 5] (fun m i => ∃ t : Nat, t ≤ n ∧ i = .int .i64 t ∧ m = .int .i64 (k + 3 * (t : Int))) (fun _ i => n - (intOf i).toNat)
  case atStart => exact ⟨0, Nat.zero_le _, rfl, by simp⟩
  case round =>
    obtain ⟨t, ht, rfl, rfl⟩ := hrel
    by_cases hlt : t < n
    · obtain ⟨b, o, rfl, hB, hc0, hc1, hc2⟩ := HR.out.at_ (i := t) (by rw [mksN_len]; exact hlt)
      rw [mksN_at] at hc0 hc1 hc2
      have q0 : 0 ≤ k + 3 * (t : Int) := by omega
      have q1 : k + 3 * (t : Int) ≤ 1099524210688 := by omega
      have HQ := Lib.hid (show k + 3 * ((t + 1 : Nat) : Int) = k + 3 * (t : Int) + 1 + 1 + 1 by omega)
      generalize hkt : k + 3 * (t : Int) = kt at *
      have HKT := Lib.hid hkt
      clear hkt
      replace hc0 : w.cell? ⟨b, o + t * 3, none⟩ = some (.int .i64 (kt)) := hc0
      replace hc1 : w.cell? ⟨b, o + t * 3 + 1, none⟩ = some (.bool ((kt + 1) % 3 == 0)) := hc1
      replace hc2 : w.cell? ⟨b, o + t * 3 + 1 + 1, none⟩ = some (.int .i64 (kt + 1 + 1)) := hc2
      have n0 : (kt != kt) = false := by simp
      have n2 : (kt + 1 + 1 != kt + 1 + 1) = false := by simp
      have n1 : (((kt + 1) % 3 == 0) != ((kt + 1) % 3 == 0)) = false := by simp
      go_wp2_with fail
      exact ⟨⟨t + 1, by omega, by go_num, by rw [HQ.out]⟩, by simp [intOf]; omega⟩
    · obtain rfl : n = t := by omega
      go_wp2_with fail
      go_ret
      exact ⟨rfl, rfl⟩
end Go.Proofs.Ytgejjdkgeoojmaa.Tr

