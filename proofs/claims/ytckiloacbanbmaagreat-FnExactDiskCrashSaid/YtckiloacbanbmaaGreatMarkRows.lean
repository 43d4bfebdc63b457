/- The laws' helpers that mark links and turns. -/
import Derived.Test.YtckiloacbanbmaaGreatMarkDisk
import Derived.Test.YtckiloacbanbmaaGreatMarkText
namespace Go.Proofs.YtckiloacbanbmaaGreat.DOk
open Go.RowKit Go.Proofs.YtckiloacbanbmaaGreat.Bytes Go.Proofs.YtckiloacbanbmaaGreat.Rows_
open Go.Proofs.YtckiloacbanbmaaGreat.Mt (mt mark_text)
set_option linter.unusedVariables false

theorem Only.below {S : Nat → Prop} {w w' : World} {B : Nat} (h : Below B w w') (hB : w.heap.size ≤ B) : Only S w w' := ⟨h.os, h.tape, h.output, h.size, fun i hi _ => h.block i (Nat.lt_of_lt_of_le hi hB)⟩
theorem rowJ {w : World} {base g n c K : Nat} {E : TypeId} {pre post : List (List Value)} {z : List Value} (hz : z.length = K) (hpre : ∀ r ∈ pre, r.length = K) (k : Nat) (hk : pre.length = k) (j : Nat) (hj : j < K) (v : Value)
    (h : w.ownsRow base E K (.slice (some ⟨g, 0, none⟩) n c) n (pre ++ [z] ++ post).flatten) : (w.setCell ⟨g, k * K + j, none⟩ v).ownsRow base E K (.slice (some ⟨g, 0, none⟩) n c) n (pre ++ [z.set j v] ++ post).flatten := by
  have hl : pre.flatten.length = k * K := by rw [flat_len K pre hpre, hk]
  have h1 := (World.ownsRow.stored (h := h) (k * K + j) v).1
  rw [flat3, set_mid _ _ _ _ j hl (by rw [hz]; exact hj)] at h1
  rw [flat3]; exact h1
def SK (A : Option Addr) (n c : Nat) (i : Nat) : Prop := (Value.slice A n c).ownBlock = some i
theorem own_addr {w : World} {base K n c : Nat} {E : TypeId} {A : Option Addr} {xs : List Value} (h : w.ownsRow base E K (.slice A n c) n xs) (hn : 0 < n) : ∃ g, A = some ⟨g, 0, none⟩ := by
  rcases h.2 with ⟨_, h⟩ | ⟨fb, _, _, h, _⟩
  · omega
  · injection h with h; exact ⟨fb, h⟩

/-! ### links -/
def markL : Nat → List LinkD → List LinkD
  | _, [] => []
  | k, _ :: ks => (mt k, ((k + 1 : Nat) : Int)) :: markL (k + 2) ks
theorem markL_len : ∀ (ks : List LinkD) (k : Nat), (markL k ks).length = ks.length
  | [], _ => rfl
  | x :: ks, k => by simp [markL, markL_len ks]
theorem markL_snoc : ∀ (l : List LinkD) (k : Nat) (x : LinkD), markL k (l ++ [x]) = markL k l ++ [(mt (k + 2 * l.length), ((k + 2 * l.length + 1 : Nat) : Int))]
  | [], k, x => rfl
  | y :: l, k, x => by
    rw [List.cons_append, markL, markL_snoc l, markL, List.length_cons, show k + 2 + 2 * l.length = k + 2 * (l.length + 1) by omega]; rfl
def partK (k : Nat) (ks : List LinkD) (t : Nat) : List LinkD := markL k (ks.take t) ++ ks.drop t
theorem partK_now (k : Nat) (ks : List LinkD) (t : Nat) (ht : t < ks.length) : partK k ks t = markL k (ks.take t) ++ [ks[t]] ++ ks.drop (t + 1) := by
  unfold partK; rw [List.drop_eq_getElem_cons ht, List.append_assoc]; rfl
theorem partK_next (k : Nat) (ks : List LinkD) (t : Nat) (ht : t < ks.length) : partK k ks (t + 1) = markL k (ks.take t) ++ [(mt (k + 2 * t), ((k + 2 * t + 1 : Nat) : Int))] ++ ks.drop (t + 1) := by
  unfold partK; rw [List.take_succ_eq_append_getElem ht, markL_snoc, List.length_take, Nat.min_eq_left (Nat.le_of_lt ht)]

set_option maxRecDepth 100000 in
set_option maxHeartbeats 3200000 in
theorem markLinkS_any (A : Option Addr) (n c base : Nat) (ks : List LinkD) (k : Nat) (w : World) (ho : OwnL w base A n c ks) (hl : ks.length = n) (h0 : 1 ≤ k) (h1 : k + 2 * n ≤ 1099511627776) :
    Calls Tryz.prog 49 #[.slice A n c, .int .i64 k] w fun e w' => e = .returned (.int .i64 ((k + 2 * n : Nat) : Int)) ∧ OwnL w' base A n c (markL k ks) ∧ Only (SK A n c) w w' := by
  have HL := Lib.hid hl
  clear hl
  go_enter Tryz.func49, Tryz.ntmps49
  go_wp2_with fail
  go_loopw [1, 5] (fun m i wr => ∃ t : Nat, t ≤ n ∧ i = .int .i64 t ∧ m = .int .i64 ((k + 2 * t : Nat) : Int) ∧ OwnL wr base A n c (partK k ks t) ∧ Only (SK A n c) w wr) (fun _ i _ => n - (intOf i).toNat)
  case atStart => exact ⟨0, Nat.zero_le _, rfl, rfl, by simpa [partK, markL] using ho, Only.refl _ _⟩
  case round =>
    clear ho
    obtain ⟨t, ht, rfl, rfl, ho, hon⟩ := hrel
    by_cases hlt : t < n
    · have hlt' : t < ks.length := by rw [HL.out]; exact hlt
      have HN := Lib.hid (partK_next k ks t hlt')
      have HP := Lib.hid (show ((markL k (ks.take t)).map linkR).length = t by rw [List.length_map, markL_len, List.length_take]; omega)
      have HLN := Lib.hid (link_len (markL k (ks.take t)))
      rw [partK_now k ks t hlt'] at ho
      generalize ks[t] = x at *
      generalize markL k (ks.take t) = pre at *
      generalize ks.drop (t + 1) = post at *
      obtain ⟨fb, rfl⟩ := own_addr ho (by omega)
      unfold OwnL at ho
      rw [List.map_append, List.map_append] at ho
      have HO := Lib.hid ho
      have HON := Lib.hid hon
      clear ho hon
      have HM := Lib.hid (fun W => mark_text (k + 2 * t) W (by omega) (by omega))
      have q1 : k + 2 * t + 2 ≤ 1099511627776 := by omega
      have HQ := Lib.hid (show ((k + 2 * t + 1 : Nat) : Int) = ((k + 2 * t : Nat) : Int) + 1 by omega)
      have HQ2 := Lib.hid (show ((k + 2 * (t + 1) : Nat) : Int) = ((k + 2 * t : Nat) : Int) + 1 + 1 by omega)
      generalize k + 2 * t = kt at *
      generalize mt kt = y at *
      go_wp2_with fail
      refine (HM.out _).mono ?_
      rintro e v ⟨rfl, hb⟩
      have HO1 := Lib.hid (own_belowK HO.out (Nat.le_refl _) hb)
      have HON1 := Lib.hid (HON.out.trans (Only.below (S := SK (some ⟨fb, 0, none⟩) n c) hb (Nat.le_refl _)))
      clear hb
      obtain ⟨u0, hu0⟩ := own_there HO1.out (t * 2) (by omega)
      obtain ⟨u1, hu1⟩ := own_there HO1.out (t * 2 + 1) (by omega)
      have hf0 := World.ownsRow.frozenAt (h := HO1.out) (t * 2)
      have hf1 := World.ownsRow.frozenAt (h := HO1.out) (t * 2 + 1)
      go_wp2_with fail
      refine ⟨⟨t + 1, by omega, by go_num, ?_, ?_, ?_⟩, by simp [intOf]; omega⟩
      · rw [HQ2.out]
      · have h := row2 (.string y) (.int .i64 ((kt : Int) + 1)) HLN.out t HP.out HO1.out
        rw [HN.out, HQ.out]
        unfold OwnL
        rw [List.map_append, List.map_append]
        exact h
      · exact HON1.out.trans (Only.trans (Only.grown (Go.Lib.grownBy_setCell v fb (t * 2) _) (fun i hi => hi)) (Only.grown (Go.Lib.grownBy_setCell _ fb (t * 2 + 1) _) (fun i hi => hi)))
    · obtain rfl : n = t := by omega
      have e2 : partK k ks n = markL k ks := by unfold partK; rw [List.take_of_length_le (by rw [HL.out]; exact Nat.le_refl _), List.drop_of_length_le (by rw [HL.out]; exact Nat.le_refl _), List.append_nil]
      rw [e2] at ho
      have HO := Lib.hid ho
      have HON := Lib.hid hon
      clear ho hon e2
      go_wp2_with fail
      go_ret
      exact ⟨rfl, HO.out, HON.out⟩

/-! ### turns -/
def mkT (k : Nat) : TurnD := ⟨(k : Int), mt (k + 1), mt (k + 2), ((k + 3 : Nat) : Int)⟩
def markT : Nat → List TurnD → List TurnD
  | _, [] => []
  | k, _ :: ts => mkT k :: markT (k + 4) ts
theorem markT_len : ∀ (ts : List TurnD) (k : Nat), (markT k ts).length = ts.length
  | [], _ => rfl
  | x :: ts, k => by simp [markT, markT_len ts]
theorem markT_snoc : ∀ (l : List TurnD) (k : Nat) (x : TurnD), markT k (l ++ [x]) = markT k l ++ [mkT (k + 4 * l.length)]
  | [], k, x => rfl
  | y :: l, k, x => by
    rw [List.cons_append, markT, markT_snoc l, markT, List.length_cons, show k + 4 + 4 * l.length = k + 4 * (l.length + 1) by omega]; rfl
def partTM (k : Nat) (ts : List TurnD) (t : Nat) : List TurnD := markT k (ts.take t) ++ ts.drop t
theorem partTM_now (k : Nat) (ts : List TurnD) (t : Nat) (ht : t < ts.length) : partTM k ts t = markT k (ts.take t) ++ [ts[t]] ++ ts.drop (t + 1) := by
  unfold partTM; rw [List.drop_eq_getElem_cons ht, List.append_assoc]; rfl
theorem partTM_next (k : Nat) (ts : List TurnD) (t : Nat) (ht : t < ts.length) : partTM k ts (t + 1) = markT k (ts.take t) ++ [mkT (k + 4 * t)] ++ ts.drop (t + 1) := by
  unfold partTM; rw [List.take_succ_eq_append_getElem ht, markT_snoc, List.length_take, Nat.min_eq_left (Nat.le_of_lt ht)]

set_option maxRecDepth 100000 in
set_option maxHeartbeats 3200000 in
theorem markTurnS_any (A : Option Addr) (n c base : Nat) (ts : List TurnD) (k : Nat) (w : World) (ho : OwnT w base A n c ts) (hl : ts.length = n) (h0 : 1 ≤ k) (h1 : k + 4 * n ≤ 1099511627776) :
    Calls Tryz.prog 50 #[.slice A n c, .int .i64 k] w fun e w' => e = .returned (.int .i64 ((k + 4 * n : Nat) : Int)) ∧ OwnT w' base A n c (markT k ts) ∧ Only (SK A n c) w w' := by
  have HL := Lib.hid hl
  clear hl
  go_enter Tryz.func50, Tryz.ntmps50
  go_wp2_with fail
  go_loopw [1, 5] (fun m i wr => ∃ t : Nat, t ≤ n ∧ i = .int .i64 t ∧ m = .int .i64 ((k + 4 * t : Nat) : Int) ∧ OwnT wr base A n c (partTM k ts t) ∧ Only (SK A n c) w wr) (fun _ i _ => n - (intOf i).toNat)
  case atStart => exact ⟨0, Nat.zero_le _, rfl, rfl, by simpa [partTM, markT] using ho, Only.refl _ _⟩
  case round =>
    clear ho
    obtain ⟨t, ht, rfl, rfl, ho, hon⟩ := hrel
    by_cases hlt : t < n
    · have hlt' : t < ts.length := by rw [HL.out]; exact hlt
      have HN := Lib.hid (partTM_next k ts t hlt')
      have HP := Lib.hid (show ((markT k (ts.take t)).map turnR).length = t by rw [List.length_map, markT_len, List.length_take]; omega)
      have HLN := Lib.hid (turn_len (markT k (ts.take t)))
      rw [partTM_now k ts t hlt'] at ho
      generalize ts[t] = x at *
      generalize markT k (ts.take t) = pre at *
      generalize ts.drop (t + 1) = post at *
      obtain ⟨fb, rfl⟩ := own_addr ho (by omega)
      unfold OwnT at ho
      rw [List.map_append, List.map_append] at ho
      have HM1 := Lib.hid (fun W => mark_text (k + 4 * t + 1) W (by omega) (by omega))
      have HM2 := Lib.hid (fun W => mark_text (k + 4 * t + 2) W (by omega) (by omega))
      have q1 : k + 4 * t + 4 ≤ 1099511627776 := by omega
      have HQ2 := Lib.hid (show ((k + 4 * (t + 1) : Nat) : Int) = ((k + 4 * t : Nat) : Int) + 1 + 1 + 1 + 1 by omega)
      generalize k + 4 * t = kt at *
      have HMk := Lib.hid (show mkT kt = ⟨(kt : Int), mt (kt + 1), mt (kt + 2), (kt : Int) + 1 + 1 + 1⟩ by unfold mkT; congr 1)
      rw [show ((kt + 1 : Nat) : Int) = (kt : Int) + 1 by omega] at HM1
      rw [show ((kt + 2 : Nat) : Int) = (kt : Int) + 1 + 1 by omega] at HM2
      generalize mt (kt + 1) = y1 at *
      generalize mt (kt + 2) = y2 at *
      obtain ⟨u0, hu0⟩ := own_there ho (t * 4) (by omega)
      have hf0 := World.ownsRow.frozenAt (h := ho) (t * 4)
      have HO1 := Lib.hid (rowJ (K := 4) rfl HLN.out t HP.out 0 (by omega) (.int .i64 kt) ho)
      have HON := Lib.hid hon
      clear ho hon
      go_wp2_with fail
      refine (HM1.out _).mono ?_
      rintro e v1 ⟨rfl, hb1⟩
      have HO2 := Lib.hid (own_belowK HO1.out (Nat.le_refl _) hb1)
      have HON1 := Lib.hid (Only.below (S := SK (some ⟨fb, 0, none⟩) n c) hb1 (Nat.le_refl _))
      clear hb1
      obtain ⟨u1, hu1⟩ := own_there HO2.out (t * 4 + 1) (by omega)
      have hf1 := World.ownsRow.frozenAt (h := HO2.out) (t * 4 + 1)
      have HO3 := Lib.hid (rowJ (K := 4) rfl HLN.out t HP.out 1 (by omega) (.string y1) HO2.out)
      go_wp2_with fail
      refine (HM2.out _).mono ?_
      rintro e v2 ⟨rfl, hb2⟩
      have HO4 := Lib.hid (own_belowK HO3.out (Nat.le_refl _) hb2)
      have HON2 := Lib.hid (Only.below (S := SK (some ⟨fb, 0, none⟩) n c) hb2 (Nat.le_refl _))
      clear hb2
      obtain ⟨u2, hu2⟩ := own_there HO4.out (t * 4 + 2) (by omega)
      have hf2 := World.ownsRow.frozenAt (h := HO4.out) (t * 4 + 2)
      obtain ⟨u3, hu3⟩ := own_there HO4.out (t * 4 + 3) (by omega)
      have hf3 := World.ownsRow.frozenAt (h := HO4.out) (t * 4 + 3)
      go_wp2_with fail
      refine ⟨⟨t + 1, by omega, by go_num, ?_, ?_, ?_⟩, by simp [intOf]; omega⟩
      · rw [HQ2.out]
      · have h := rowJ (K := 4) rfl HLN.out t HP.out 3 (by omega) (.int .i64 ((kt : Int) + 1 + 1 + 1)) (rowJ (K := 4) rfl HLN.out t HP.out 2 (by omega) (.string y2) HO4.out)
        rw [HN.out, HMk.out]
        unfold OwnT
        rw [List.map_append, List.map_append]
        exact h
      · exact HON.out.trans (Only.trans (Only.grown (Go.Lib.grownBy_setCell _ fb (t * 4) _) (fun i hi => hi)) (HON1.out.trans (Only.trans (Only.grown (Go.Lib.grownBy_setCell _ fb (t * 4 + 1) _) (fun i hi => hi)) (HON2.out.trans (Only.trans (Only.grown (Go.Lib.grownBy_setCell _ fb (t * 4 + 2) _) (fun i hi => hi)) (Only.grown (Go.Lib.grownBy_setCell _ fb (t * 4 + 3) _) (fun i hi => hi)))))))
    · obtain rfl : n = t := by omega
      have e2 : partTM k ts n = markT k ts := by unfold partTM; rw [List.take_of_length_le (by rw [HL.out]; exact Nat.le_refl _), List.drop_of_length_le (by rw [HL.out]; exact Nat.le_refl _), List.append_nil]
      rw [e2] at ho
      have HO := Lib.hid ho
      have HON := Lib.hid hon
      clear ho hon e2
      go_wp2_with fail
      go_ret
      exact ⟨rfl, HO.out, HON.out⟩
end Go.Proofs.YtckiloacbanbmaaGreat.DOk
