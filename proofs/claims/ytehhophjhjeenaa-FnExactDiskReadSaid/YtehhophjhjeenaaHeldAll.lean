/- The laws' helpers that find the marks of turns, and of a whole disk, again. -/
import Derived.Test.YtehhophjhjeenaaHeldRows
namespace Go.Proofs.Ytehhophjhjeenaa.DOk
open Go.RowKit Go.Proofs.Ytehhophjhjeenaa.Bytes Go.Proofs.Ytehhophjhjeenaa.Rows_
open Go.Proofs.Ytehhophjhjeenaa.Mt (mt mark_text)
set_option linter.unusedVariables false

theorem markT_at : ∀ (ts : List TurnD) (k : Nat) (t : Nat) (h : t < ts.length), (markT k ts)[t]? = some (mkT (k + 4 * t))
  | x :: ts, k, 0, h => rfl
  | x :: ts, k, t + 1, h => by
    have := markT_at ts (k + 4) t (by simpa using h)
    rw [markT, List.getElem?_cons_succ, this, show k + 4 + 4 * t = k + 4 * (t + 1) by omega]
theorem markT_get (ts : List TurnD) (k : Nat) (t : Nat) (h : t < ts.length) (h' : t < (markT k ts).length) : (markT k ts)[t] = mkT (k + 4 * t) := by
  have := markT_at ts k t h
  rw [List.getElem?_eq_getElem h'] at this
  exact Option.some.inj this

set_option maxRecDepth 100000 in
set_option maxHeartbeats 6400000 in
theorem heldTurnS_any (A : Option Addr) (n c : Nat) (ts : List TurnD) (k : Nat) (w : World) (hr : RdT w w.heap.size A (markT k ts)) (hl : ts.length = n) (h0 : 1 ≤ k) (h1 : k + 4 * n ≤ 1099511627776) :
    Calls Try.prog 87 #[.slice A n c, .int .i64 k] w fun e w' => e = .returned (.int .i64 ((k + 4 * n : Nat) : Int)) ∧ Below w.heap.size w w' := by
  have HL := Lib.hid hl
  have HR := Lib.hid hr
  clear hl hr
  go_enter Try.func87, Try.ntmps87
  go_wp2_with fail
  go_loopw [1, 5] (fun m i wr => ∃ t : Nat, t ≤ n ∧ i = .int .i64 t ∧ m = .int .i64 ((k + 4 * t : Nat) : Int) ∧ Below w.heap.size w wr) (fun _ i _ => n - (intOf i).toNat)
  case atStart => exact ⟨0, Nat.zero_le _, rfl, rfl, Below.refl _ _⟩
  case round =>
    obtain ⟨t, ht, rfl, rfl, hb⟩ := hrel
    by_cases hlt : t < n
    · have hlt' : t < ts.length := by rw [HL.out]; exact hlt
      have hlm : t < (markT k ts).length := by rw [markT_len]; exact hlt'
      have hbs := hb.size
      obtain ⟨b, o, rfl, hB, hc0, hc1, hc2, hc3⟩ := (HR.out.below (Nat.le_refl _) hb).at_ hlm
      rw [markT_get ts k t hlt' hlm] at hc0 hc1 hc2 hc3
      simp only [mkT] at hc0 hc1 hc2 hc3
      have hB2 : b < wr.heap.size := by omega
      have HM1 := Lib.hid (fun W => mark_text (k + 4 * t + 1) W (by omega) (by omega))
      have HM2 := Lib.hid (fun W => mark_text (k + 4 * t + 2) W (by omega) (by omega))
      have HB := Lib.hid hb
      have HQ2 := Lib.hid (show ((k + 4 * (t + 1) : Nat) : Int) = ((k + 4 * t : Nat) : Int) + 1 + 1 + 1 + 1 by omega)
      rw [show ((k + 4 * t + 3 : Nat) : Int) = ((k + 4 * t : Nat) : Int) + 1 + 1 + 1 by omega] at hc3
      have ht0 : (0 : Int) ≤ (t : Int) := by omega
      have ht1 : (t : Int) < (n : Int) := by omega
      have q1 : k + 4 * t + 4 ≤ 1099511627776 := by omega
      generalize k + 4 * t = kt at *
      rw [show ((kt + 1 : Nat) : Int) = (kt : Int) + 1 by omega] at HM1
      rw [show ((kt + 2 : Nat) : Int) = (kt : Int) + 1 + 1 by omega] at HM2
      generalize mt (kt + 1) = y1 at *
      generalize mt (kt + 2) = y2 at *
      have e0 : ((kt : Int) != (kt : Int)) = false := by simp
      have e3 : ((kt : Int) + 1 + 1 + 1 != (kt : Int) + 1 + 1 + 1) = false := by simp
      clear hb
      go_wp2_with fail
      go_region_with ((go_at_call 94; refine (HM1.out _).mono ?_; rintro e v1 ⟨rfl, hb1⟩; have hd1 : v1.cell? ⟨b, o + t * 4 + 1, none⟩ = some (.string y1) := (hb1.cell (p := ⟨b, o + t * 4 + 1, none⟩) hB2).trans hc1; have hd2 : v1.cell? ⟨b, o + t * 4 + 2, none⟩ = some (.string y2) := (hb1.cell (p := ⟨b, o + t * 4 + 2, none⟩) hB2).trans hc2; have hd3 : v1.cell? ⟨b, o + t * 4 + 3, none⟩ = some (.int .i64 ((kt : Int) + 1 + 1 + 1)) := (hb1.cell (p := ⟨b, o + t * 4 + 3, none⟩) hB2).trans hc3; have s1 : wr.heap.size ≤ v1.heap.size := hb1.size))
      all_goals
        have HB1 := Lib.hid (HB.out.trans ((((Below.refl wr.heap.size wr).drew.trans (show Below wr.heap.size wr.drew _ from hb1))).mono hbs))
        have hB3 : b < v1.heap.size := by omega
        clear hb1 hc0 hc1 hc2 hc3
        go_wp2_with fail
        go_region_with ((go_at_call 94; refine (HM2.out _).mono ?_; rintro e v2 ⟨rfl, hb2⟩; have hg2 : v2.cell? ⟨b, o + t * 4 + 2, none⟩ = some (.string y2) := (hb2.cell (p := ⟨b, o + t * 4 + 2, none⟩) hB3).trans hd2; have hg3 : v2.cell? ⟨b, o + t * 4 + 3, none⟩ = some (.int .i64 ((kt : Int) + 1 + 1 + 1)) := (hb2.cell (p := ⟨b, o + t * 4 + 3, none⟩) hB3).trans hd3))
        all_goals
          have HB2 := Lib.hid (HB1.out.trans ((((Below.refl v1.heap.size v1).drew.trans (show Below v1.heap.size v1.drew _ from hb2))).mono (Nat.le_trans hbs s1)))
          clear hb2 hd1 hd2 hd3
          go_wp2_with fail
          refine ⟨⟨t + 1, by omega, by go_num, ?_, HB2.out⟩, by simp [intOf]; omega⟩
          rw [HQ2.out]
    · obtain rfl : n = t := by omega
      go_wp2_with fail
      go_ret
      exact ⟨rfl, hb⟩

set_option maxRecDepth 100000 in
set_option maxHeartbeats 3200000 in
theorem heldDisk_any (room fuse next : Int) (F : Option Addr) (nf cf : Nat) (K : Option Addr) (nk ck : Nat) (T : Option Addr) (nt ct : Nat) (gs : List FileD) (ks : List LinkD) (ts : List TurnD) (k : Nat) (w : World)
    (hF : RdF w w.heap.size F (markF k gs)) (hB : RdB w w.heap.size (markF k gs)) (hK : RdL w w.heap.size K (markL (k + 2 * nf + usedD gs) ks)) (hT : RdT w w.heap.size T (markT (k + 2 * nf + usedD gs + 2 * nk) ts))
    (hf : gs.length = nf) (hk : ks.length = nk) (ht : ts.length = nt) (h0 : 1 ≤ k) (h1 : k + 2 * nf + usedD gs + 2 * nk + 4 * nt ≤ 1099511627776) :
    Calls Try.prog 42 #[.agg #[.int .i64 room, .int .i64 fuse, .int .i64 next, .slice F nf cf, .slice K nk ck, .slice T nt ct], .int .i64 k] w
      fun e w' => e = .returned (.int .i64 ((k + 2 * nf + usedD gs + 2 * nk + 4 * nt : Nat) : Int)) ∧ Below w.heap.size w w' := by
  have HE := Lib.hid (show endF k gs = ((k + 2 * nf + usedD gs : Nat) : Int) by unfold endF; rw [hf]; omega)
  have hb0 := Lib.hid ((Below.refl w.heap.size w).alloc (Nat.le_refl _) (.cells #[.int .i64 room, .int .i64 fuse, .int .i64 next, .slice F nf cf, .slice K nk ck, .slice T nt ct] 51))
  have HC := Lib.hid (show ∀ j v, #[Value.int .i64 room, .int .i64 fuse, .int .i64 next, .slice F nf cf, .slice K nk ck, .slice T nt ct][j]? = some v → (w.alloc (.cells #[.int .i64 room, .int .i64 fuse, .int .i64 next, .slice F nf cf, .slice K nk ck, .slice T nt ct] 51)).cell? ⟨w.heap.size, j, none⟩ = some v from fun j v h => by rw [World.cell?_alloc_at _ _ _ _ rfl]; exact h)
  have HF := Lib.hid (fun W (h : Below w.heap.size w W) => heldFileS_any F nf cf gs k W ((hF.below (Nat.le_refl _) h).more h.size) ((hB.below (Nat.le_refl _) h).more h.size) hf (by omega) (by rw [HE.out]; omega))
  generalize hk1 : k + 2 * nf + usedD gs = k1 at *
  generalize hk2 : k1 + 2 * nk = k2 at *
  have HK := Lib.hid (fun W (h : Below w.heap.size w W) => heldLinkS_any K nk ck ks k1 W ((hK.below (Nat.le_refl _) h).more h.size) hk (by omega) (by omega))
  have HT := Lib.hid (fun W (h : Below w.heap.size w W) => heldTurnS_any T nt ct ts k2 W ((hT.below (Nat.le_refl _) h).more h.size) ht (by omega) (by omega))
  rw [hk2] at HK
  clear hF hB hK hT
  go_enter Try.func42, Try.ntmps42
  go_wp2_with fail
  refine (HF.out _ hb0.out).mono ?_
  rintro e v1 ⟨rfl, rfl⟩
  rw [HE.out]
  have c4 := HC.out 4 _ rfl
  have c5 := HC.out 5 _ rfl
  go_wp2_with fail
  refine (HK.out _ hb0.out).mono ?_
  rintro e v2 ⟨rfl, hb2⟩
  have HB2 := Lib.hid (hb0.out.trans (hb2.mono (by simp)))
  have d5 := (hb2.cell (p := ⟨w.heap.size, 5, none⟩) (by simp)).trans c5
  clear hb2 c4 c5
  go_wp2_with fail
  refine (HT.out _ HB2.out).mono ?_
  rintro e v3 ⟨rfl, hb3⟩
  have HB3 := Lib.hid (HB2.out.trans (hb3.mono HB2.out.size))
  clear hb3 d5
  go_wp2_with fail
  go_ret
  exact ⟨ret_int (by omega), HB3.out⟩
end Go.Proofs.Ytehhophjhjeenaa.DOk
