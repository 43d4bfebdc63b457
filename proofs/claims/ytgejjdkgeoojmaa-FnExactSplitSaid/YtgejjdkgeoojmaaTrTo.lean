/- The laws' helpers over rows of nodes: the copy, the size, the comparison of equals. -/
import Derived.Test.YtgejjdkgeoojmaaTrB
import Derived.Deep.RegionWith
import Derived.Deep.DrawnRows
namespace Go.Proofs.Ytgejjdkgeoojmaa.Tr
open Go.RowKit Go.Proofs.Ytgejjdkgeoojmaa.Bytes Go.Proofs.Ytgejjdkgeoojmaa.Rows_ Go.Proofs.Ytgejjdkgeoojmaa.RowK
set_option linter.unusedVariables false
attribute [local go_sem ↓] Go.wp_at_zero Go.wp_at_succ
set_option maxRecDepth 100000 in
set_option maxHeartbeats 1600000 in
theorem toNode_any (x0 : Int) (x1 : Bool) (x2 : Int) (w : World) :
    Calls Try.prog 76 #[.agg #[.int .i64 x0, .bool x1, .int .i64 x2]] w fun e w' => e = .returned (.agg #[.int .i64 x0, .bool x1, .int .i64 x2]) ∧ Below w.heap.size w w' := by
  go_enter Try.func76, Try.ntmps76
  go_wp2_with fail
  refine bodyPost_ret (v := .agg #[.int .i64 x0, .bool x1, .int .i64 x2]) (by simp [results, Try.results76, go_sem]) rfl ⟨rfl, ?_⟩
  repeat (first | refine Below.setCell ?_ (by simp <;> omega) _ | refine Below.alloc ?_ (by simp <;> omega) _)
  exact Below.refl _ _
set_option maxRecDepth 100000 in
set_option maxHeartbeats 1600000 in
theorem toNodeS_any (F : Option Addr) (n c : Nat) (cs : List NodeD) (w : World) (hr : RdN w w.heap.size F cs) (hl : cs.length = n) (hn : n ≤ 2097152) :
    Calls Try.prog 33 #[.slice F n c] w fun e w' => ∃ A' c', e = .returned (.slice A' n c') ∧ OwnN w' w.heap.size A' n c' cs ∧ Below w.heap.size w w' := by
  obtain ⟨i0, hi, hz0, hz1, hz2⟩ := info_parts infoN
  have hm : n ≤ maxLen := by unfold maxLen; omega
  have HL := Lib.hid hl
  have HR := Lib.hid hr
  clear hl hr
  go_enter Try.func33, Try.ntmps33
  go_wp2_with (at_make; refine wpList_make_full _ rfl _ _ 49 rfl w.heap.size 90 i0 (.agg #[.int .i64 0, .bool false, .int .i64 0]) 3 Try.underlying49 hi hz0 hz1 _ _ _ _ n rfl rfl rfl rfl ?c1 hm (Nat.le_refl _) ?_)
  case c1 => rw [hz2]; omega
  intro w1 hown hgrow
  have hown' : w1.ownsRow w.heap.size 90 3 (.slice (some ⟨w.heap.size, 0, none⟩) n n) n (partN cs n 0) := by
    rw [made_flat _ 3 n rfl (by omega)] at hown
    exact hown
  have hb1 : Below w.heap.size w w1 := (Below.refl _ _).grown hgrow (Nat.le_refl _) (by simp)
  clear hown hgrow
  go_wp2_with fail
  go_loopw [4] (fun i wr => ∃ k : Nat, k ≤ n ∧ i = .int .i64 k ∧ wr.ownsRow w.heap.size 90 3 (.slice (some ⟨w.heap.size, 0, none⟩) n n) n (partN cs n k) ∧ Below w.heap.size w wr) (fun i _ => n - (intOf i).toNat)
  case atStart => exact ⟨0, Nat.zero_le _, rfl, hown', hb1⟩
  case round =>
    obtain ⟨k, hk, rfl, ho, hb⟩ := hrel
    clear hown' hb1
    have hz : w.heap.size ≤ wr.heap.size := hb.size
    by_cases hlt : k < n
    · have hlt' : k < cs.length := by rw [HL.out]; exact hlt
      obtain ⟨b, o, rfl, hB, hc0, hc1, hc2⟩ := (HR.out.below (Nat.le_refl _) hb).at_ hlt'
      have HB := Lib.hid hb
      have HPN := Lib.hid (show partN cs n (k + 1) = ((cs.take k).map nodeR ++ [[Value.int .i64 cs[k].pane, Value.bool cs[k].down, Value.int .i64 cs[k].first]] ++ List.replicate (n - (k + 1)) zN).flatten by
        unfold partN; rw [List.take_succ_eq_append_getElem hlt', List.map_append]; rfl)
      have HPO := Lib.hid (show partN cs n k = ((cs.take k).map nodeR ++ [[Value.int .i64 0, Value.bool false, Value.int .i64 0]] ++ List.replicate (n - (k + 1)) zN).flatten by
        unfold partN; rw [rep_flat zN n k hlt, ← List.append_assoc]; rfl)
      have HKL := Lib.hid (show ((cs.take k).map nodeR).length = k by rw [List.length_map, List.length_take]; omega)
      have HO := Lib.hid ho
      clear hb ho
      generalize cs[k].pane = x0 at *
      generalize cs[k].down = x1 at *
      generalize cs[k].first = x2 at *
      go_wp2_with fail
      refine (toNode_any x0 x1 x2 _).mono ?_
      rintro e v ⟨rfl, hb1⟩
      have HOv := Lib.hid (own_belowK HO.out (Nat.le_refl _) hb1)
      have HBv := Lib.hid (HB.out.trans (hb1.mono hz))
      obtain ⟨u0, hu0⟩ := own_there HOv.out (k * 3) (by omega)
      have hf0 := World.ownsRow.frozenAt (h := HOv.out) (k * 3)
      obtain ⟨u1, hu1⟩ := own_there HOv.out (k * 3 + 1) (by omega)
      have hf1 := World.ownsRow.frozenAt (h := HOv.out) (k * 3 + 1)
      obtain ⟨u2, hu2⟩ := own_there HOv.out (k * 3 + 2) (by omega)
      have hf2 := World.ownsRow.frozenAt (h := HOv.out) (k * 3 + 2)
      have HN := Lib.hid (show (((v.setCell ⟨w.heap.size, k * 3, none⟩ (.int .i64 x0)).setCell ⟨w.heap.size, k * 3 + 1, none⟩ (.bool x1)).setCell ⟨w.heap.size, k * 3 + 2, none⟩ (.int .i64 x2)).ownsRow w.heap.size 90 3 (.slice (some ⟨w.heap.size, 0, none⟩) n n) n (partN cs n (k + 1)) by
        rw [HPN.out]; have h := HOv.out; rw [HPO.out] at h; exact rowN _ _ _ (lenN _) k HKL.out h)
      clear hb1
      go_wp2_with fail
      exact ⟨⟨k + 1, by omega, by go_num, HN.out, ((HBv.out.setCell (Nat.le_refl _) _).setCell (Nat.le_refl _) _).setCell (Nat.le_refl _) _⟩, by simp [intOf]; omega⟩
    · obtain rfl : n = k := by omega
      have e : partN cs n n = (cs.map nodeR).flatten := by
        unfold partN; rw [List.take_of_length_le (by rw [HL.out]; exact Nat.le_refl _)]; simp
      rw [e] at ho
      go_wp2_with fail
      go_ret
      exact ⟨_, _, rfl, ho, hb⟩
set_option maxRecDepth 100000 in
set_option maxHeartbeats 1600000 in
theorem szNodeS_any (A : Option Addr) (n c : Nat) (left : Int) (w : World) (hn : n ≤ 9223372036854775807) (h0 : 0 ≤ left) (h1 : left ≤ 1048576) :
    Calls Try.prog 31 #[.slice A n c, .int .i64 left] w fun e w' => e = .returned (.int .i64 (if left < (n : Int) then -1 else left - n)) ∧ w = w' := by
  by_cases h : left < (n : Int)
  · rw [if_pos h]
    have h2 : left - (n : Int) < 0 := by omega
    go_enter Try.func31, Try.ntmps31
    go_wp2_with fail
    go_ret
    exact ⟨rfl, rfl⟩
  · rw [if_neg h]
    have h2 : 0 ≤ left - (n : Int) := by omega
    go_enter Try.func31, Try.ntmps31
    go_wp2_with fail
    go_ret
    exact ⟨rfl, rfl⟩
set_option maxRecDepth 100000 in
set_option maxHeartbeats 1600000 in
theorem eqNode_yes (x0 : Int) (x1 : Bool) (x2 : Int) (w : World) :
    Calls Try.prog 78 #[.agg #[.int .i64 x0, .bool x1, .int .i64 x2], .agg #[.int .i64 x0, .bool x1, .int .i64 x2]] w fun e w' => e = .returned (.bool true) ∧ Below w.heap.size w w' := by
  have e0 : (x0 != x0) = false := by simp
  have e1 : (x1 != x1) = false := by simp
  have e2 : (x2 != x2) = false := by simp
  go_enter Try.func78, Try.ntmps78
  go_wp2_with fail
  go_ret
  refine ⟨rfl, ?_⟩
  repeat (first | refine Below.setCell ?_ (by simp <;> omega) _ | refine Below.alloc ?_ (by simp <;> omega) _)
  exact Below.refl _ _
set_option maxRecDepth 100000 in
set_option maxHeartbeats 1600000 in
theorem eqNodeS_yes (F G : Option Addr) (n c c' : Nat) (cs : List NodeD) (w : World) (hf : RdN w w.heap.size F cs) (hg : RdN w w.heap.size G cs) (hl : cs.length = n) (hn : n ≤ 1099511627776) :
    Calls Try.prog 35 #[.slice F n c, .slice G n c'] w fun e w' => e = .returned (.bool true) ∧ Below w.heap.size w w' := by
  have HF := Lib.hid hf
  have HG := Lib.hid hg
  have HL := Lib.hid hl
  have hnn : (n != n) = false := by simp
  clear hf hg hl
  go_enter Try.func35, Try.ntmps35
  go_wp2_with fail
  go_loopw [5] (fun i wr => ∃ k : Nat, k ≤ n ∧ i = .int .i64 k ∧ Below w.heap.size w wr) (fun i _ => n - (intOf i).toNat)
  case atStart => exact ⟨0, Nat.zero_le _, rfl, Below.refl _ _⟩
  case round =>
    obtain ⟨k, hk, rfl, hb⟩ := hrel
    have hz : w.heap.size ≤ wr.heap.size := hb.size
    by_cases hlt : k < n
    · have hlf : k < cs.length := by rw [HL.out]; exact hlt
      obtain ⟨b, o, rfl, hB, hc0, hc1, hc2⟩ := (HF.out.below (Nat.le_refl _) hb).at_ hlf
      obtain ⟨b', o', rfl, hB', hd0, hd1, hd2⟩ := (HG.out.below (Nat.le_refl _) hb).at_ hlf
      have HB := Lib.hid hb
      clear hb
      generalize cs[k].pane = x0 at *
      generalize cs[k].down = x1 at *
      generalize cs[k].first = x2 at *
      go_wp2_with fail
      go_region_with ((go_at_call 78; refine (eqNode_yes x0 x1 x2 _).mono ?_; rintro e v1 ⟨rfl, hb1'⟩; have hb1 : Below wr.heap.size wr v1 := undrew hb1'; clear hb1'))
      all_goals
        have HB1 := Lib.hid (HB.out.trans (hb1.mono hz))
        clear hb1
        go_wp2_with fail
        exact ⟨⟨k + 1, by omega, by go_num, HB1.out⟩, by simp [intOf]; omega⟩
    · obtain rfl : n = k := by omega
      go_wp2_with fail
      go_ret
      exact ⟨rfl, hb⟩
end Go.Proofs.Ytgejjdkgeoojmaa.Tr

