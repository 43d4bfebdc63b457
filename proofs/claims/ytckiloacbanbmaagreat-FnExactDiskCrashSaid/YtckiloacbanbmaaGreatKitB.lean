/- Texts that lay in modules of their own: Held, HeldLink, HeldAll, SzDisk, DiskLawB, IntS, CrashOwn. -/
import Derived.Test.YtckiloacbanbmaaGreatMarkAll
import Derived.Deep.RegionHeld3
import Derived.Test.YtckiloacbanbmaaGreatInts
import Derived.Test.YtckiloacbanbmaaGreatSzB
import Derived.Test.YtckiloacbanbmaaGreatKitA
import Derived.Test.YtckiloacbanbmaaGreatSetBase
import Derived.Test.YtckiloacbanbmaaGreatCrashImpl
import Derived.Test.YtckiloacbanbmaaGreatCrashSpec
namespace Go.Proofs.YtckiloacbanbmaaGreat.DOk
open Go.RowKit Go.Proofs.YtckiloacbanbmaaGreat.Bytes Go.Proofs.YtckiloacbanbmaaGreat.Rows_
set_option linter.unusedVariables false

theorem markF_at : ∀ (gs : List FileD) (k : Int) (t : Nat) (h : t < gs.length), (markF k gs)[t]? = some (mkF (endF k (gs.take t)) gs[t])
  | g :: gs, k, 0, h => by simp [markF, endF, usedD]
  | g :: gs, k, t + 1, h => by
    have := markF_at gs (k + 2 + g.n) t (by simpa using h)
    rw [markF, List.getElem?_cons_succ, this, List.take_succ_cons, endF_cons]; rfl
theorem markF_get (gs : List FileD) (k : Int) (t : Nat) (h : t < gs.length) (h' : t < (markF k gs).length) : (markF k gs)[t] = mkF (endF k (gs.take t)) gs[t] := by
  have := markF_at gs k t h
  rw [List.getElem?_eq_getElem h'] at this
  exact Option.some.inj this

set_option maxRecDepth 100000 in
set_option maxHeartbeats 3200000 in
theorem heldFileS_any (F : Option Addr) (n c : Nat) (gs : List FileD) (k : Int) (w : World) (hr : RdF w w.heap.size F (markF k gs)) (hb : RdB w w.heap.size (markF k gs)) (hl : gs.length = n) (h0 : 0 ≤ k) (h1 : endF k gs ≤ 1099511627776) :
    Calls Tryz.prog 52 #[.slice F n c, .int .i64 k] w fun e w' => e = .returned (.int .i64 (endF k gs)) ∧ w = w' := by
  have HL := Lib.hid hl
  have HLE := Lib.hid (endF_le k gs)
  have hn : n ≤ 1099511627776 := by unfold endF at h1; omega
  have H1 := Lib.hid h1
  have HR := Lib.hid hr
  have HB := Lib.hid hb
  clear hl h1 hr hb
  go_enter Tryz.func52, Tryz.ntmps52
  go_wp2_with fail
  go_loop [1, 5] (fun m i => ∃ t : Nat, t ≤ n ∧ i = .int .i64 t ∧ m = .int .i64 (endF k (gs.take t))) (fun _ i => n - (intOf i).toNat)
  case atStart => exact ⟨0, Nat.zero_le _, rfl, by simp [endF, usedD]⟩
  case round =>
    obtain ⟨t, ht, rfl, rfl⟩ := hrel
    by_cases hlt : t < n
    · have hlt' : t < gs.length := by rw [HL.out]; exact hlt
      have hlm : t < (markF k gs).length := by rw [markF_len]; exact hlt'
      obtain ⟨l1, l2⟩ := HLE.out t hlt'
      have l3 := H1.out
      have HE := Lib.hid (show endF k (gs.take (t + 1)) = endF k (gs.take t) + 2 + gs[t].n by rw [List.take_succ_eq_append_getElem hlt', endF_snoc])
      obtain ⟨b, o, rfl, hB, hc0, hc1, hc2⟩ := HR.out.at_ hlm
      have hbd := (HB.out _ (List.getElem_mem hlm)).1
      rw [markF_get gs k t hlt' hlm] at hc0 hc1 hc2 hbd
      simp only [mkF] at hc0 hc1 hc2 hbd
      generalize gs[t] = g at *
      have l4 : endF k (gs.take t) + 2 + g.n ≤ 1099511627776 := by omega
      have l5 : 0 ≤ endF k (gs.take t) := by omega
      generalize endF k (gs.take t) = kt at *
      have e1 : (kt != kt) = false := by simp
      have e2 : ((kt + 1 + (g.n : Int)) != (kt + 1 + (g.n : Int))) = false := by simp
      have HM := Lib.hid (heldByteS_any g.A g.n g.c (kt + 1) w hbd (by omega) (by omega) (by omega))
      clear hbd
      go_wp2_with fail
      refine HM.out.mono ?_
      rintro e v ⟨rfl, rfl⟩
      go_wp2_with fail
      refine ⟨⟨t + 1, by omega, by go_num, ?_⟩, by simp [intOf]; omega⟩
      rw [HE.out]; go_num
    · obtain rfl : n = t := by omega
      have e : gs.take n = gs := List.take_of_length_le (by rw [HL.out]; exact Nat.le_refl _)
      rw [e]
      go_wp2_with fail
      go_ret
      exact ⟨rfl, rfl⟩
end Go.Proofs.YtckiloacbanbmaaGreat.DOk
namespace Go.Proofs.YtckiloacbanbmaaGreat.DOk
open Go.RowKit Go.Proofs.YtckiloacbanbmaaGreat.Bytes Go.Proofs.YtckiloacbanbmaaGreat.Rows_
open Go.Proofs.YtckiloacbanbmaaGreat.Mt (mt mark_text)
set_option linter.unusedVariables false

theorem markL_at : ∀ (ks : List LinkD) (k : Nat) (t : Nat) (h : t < ks.length), (markL k ks)[t]? = some (mt (k + 2 * t), ((k + 2 * t + 1 : Nat) : Int))
  | x :: ks, k, 0, h => rfl
  | x :: ks, k, t + 1, h => by
    have := markL_at ks (k + 2) t (by simpa using h)
    rw [markL, List.getElem?_cons_succ, this, show k + 2 + 2 * t = k + 2 * (t + 1) by omega]
theorem markL_get (ks : List LinkD) (k : Nat) (t : Nat) (h : t < ks.length) (h' : t < (markL k ks).length) : (markL k ks)[t] = (mt (k + 2 * t), ((k + 2 * t + 1 : Nat) : Int)) := by
  have := markL_at ks k t h
  rw [List.getElem?_eq_getElem h'] at this
  exact Option.some.inj this

set_option maxRecDepth 100000 in
set_option maxHeartbeats 3200000 in
theorem heldLinkS_any (A : Option Addr) (n c : Nat) (ks : List LinkD) (k : Nat) (w : World) (hr : RdL w w.heap.size A (markL k ks)) (hl : ks.length = n) (h0 : 1 ≤ k) (h1 : k + 2 * n ≤ 1099511627776) :
    Calls Tryz.prog 53 #[.slice A n c, .int .i64 k] w fun e w' => e = .returned (.int .i64 ((k + 2 * n : Nat) : Int)) ∧ Below w.heap.size w w' := by
  have HL := Lib.hid hl
  have HR := Lib.hid hr
  clear hl hr
  go_enter Tryz.func53, Tryz.ntmps53
  go_wp2_with fail
  go_loopw [1, 5] (fun m i wr => ∃ t : Nat, t ≤ n ∧ i = .int .i64 t ∧ m = .int .i64 ((k + 2 * t : Nat) : Int) ∧ Below w.heap.size w wr) (fun _ i _ => n - (intOf i).toNat)
  case atStart => exact ⟨0, Nat.zero_le _, rfl, rfl, Below.refl _ _⟩
  case round =>
    obtain ⟨t, ht, rfl, rfl, hb⟩ := hrel
    by_cases hlt : t < n
    · have hlt' : t < ks.length := by rw [HL.out]; exact hlt
      have hlm : t < (markL k ks).length := by rw [markL_len]; exact hlt'
      have hbs := hb.size
      obtain ⟨b, o, rfl, hB, hc0, hc1⟩ := (HR.out.below (Nat.le_refl _) hb).at_ hlm
      rw [markL_get ks k t hlt' hlm] at hc0 hc1
      simp only at hc0 hc1
      have hB2 : b < wr.heap.size := by omega
      have HM := Lib.hid (fun W => mark_text (k + 2 * t) W (by omega) (by omega))
      have HB := Lib.hid hb
      have HQ2 := Lib.hid (show ((k + 2 * (t + 1) : Nat) : Int) = ((k + 2 * t : Nat) : Int) + 1 + 1 by omega)
      rw [show ((k + 2 * t + 1 : Nat) : Int) = ((k + 2 * t : Nat) : Int) + 1 by omega] at hc1
      have ht0 : (0 : Int) ≤ (t : Int) := by omega
      have ht1 : (t : Int) < (n : Int) := by omega
      have q1 : k + 2 * t + 2 ≤ 1099511627776 := by omega
      generalize k + 2 * t = kt at *
      generalize mt kt = y at *
      have e1 : ((kt : Int) + 1 != (kt : Int) + 1) = false := by simp
      clear hb
      go_wp2_with fail
      go_region_with ((go_at_call 86; refine (HM.out _).mono ?_; rintro e w' ⟨rfl, hb⟩; have hcc : w'.cell? ⟨b, o + t * 2, none⟩ = some (.string y) := (hb.cell (p := ⟨b, o + t * 2, none⟩) hB2).trans hc0; have hcd : w'.cell? ⟨b, o + t * 2 + 1, none⟩ = some (.int .i64 ((kt : Int) + 1)) := (hb.cell (p := ⟨b, o + t * 2 + 1, none⟩) hB2).trans hc1))
      all_goals
        have HBB := Lib.hid (HB.out.trans ((((Below.refl wr.heap.size wr).drew.trans (show Below wr.heap.size wr.drew _ from hb))).mono hbs))
        clear hb hc0 hc1
        go_wp2_with fail
        refine ⟨⟨t + 1, by omega, by go_num, ?_, HBB.out⟩, by simp [intOf]; omega⟩
        rw [HQ2.out]
    · obtain rfl : n = t := by omega
      go_wp2_with fail
      go_ret
      exact ⟨rfl, hb⟩
end Go.Proofs.YtckiloacbanbmaaGreat.DOk
namespace Go.Proofs.YtckiloacbanbmaaGreat.DOk
open Go.RowKit Go.Proofs.YtckiloacbanbmaaGreat.Bytes Go.Proofs.YtckiloacbanbmaaGreat.Rows_
open Go.Proofs.YtckiloacbanbmaaGreat.Mt (mt mark_text)
set_option linter.unusedVariables false

theorem markT_at : ∀ (ts : List TurnD) (k : Nat) (t : Nat) (h : t < ts.length), (markT k ts)[t]? = some (mkT (k + 4 * t))
  | x :: ts, k, 0, h => rfl
  | x :: ts, k, t + 1, h => by
    have := markT_at ts (k + 4) t (by simpa using h)
    rw [markT, List.getElem?_cons_succ, this, show k + 4 + 4 * t = k + 4 * (t + 1) by omega]
theorem markT_get (ts : List TurnD) (k : Nat) (t : Nat) (h : t < ts.length) (h' : t < (markT k ts).length) : (markT k ts)[t] = mkT (k + 4 * t) := by
  have := markT_at ts k t h
  rw [List.getElem?_eq_getElem h'] at this
  exact Option.some.inj this

set_option maxRecDepth 100000 in
set_option maxHeartbeats 6400000 in
theorem heldTurnS_any (A : Option Addr) (n c : Nat) (ts : List TurnD) (k : Nat) (w : World) (hr : RdT w w.heap.size A (markT k ts)) (hl : ts.length = n) (h0 : 1 ≤ k) (h1 : k + 4 * n ≤ 1099511627776) :
    Calls Tryz.prog 54 #[.slice A n c, .int .i64 k] w fun e w' => e = .returned (.int .i64 ((k + 4 * n : Nat) : Int)) ∧ Below w.heap.size w w' := by
  have HL := Lib.hid hl
  have HR := Lib.hid hr
  clear hl hr
  go_enter Tryz.func54, Tryz.ntmps54
  go_wp2_with fail
  go_loopw [1, 5] (fun m i wr => ∃ t : Nat, t ≤ n ∧ i = .int .i64 t ∧ m = .int .i64 ((k + 4 * t : Nat) : Int) ∧ Below w.heap.size w wr) (fun _ i _ => n - (intOf i).toNat)
  case atStart => exact ⟨0, Nat.zero_le _, rfl, rfl, Below.refl _ _⟩
  case round =>
    obtain ⟨t, ht, rfl, rfl, hb⟩ := hrel
    by_cases hlt : t < n
    · have hlt' : t < ts.length := by rw [HL.out]; exact hlt
      have hlm : t < (markT k ts).length := by rw [markT_len]; exact hlt'
      have hbs := hb.size
      obtain ⟨b, o, rfl, hB, hc0, hc1, hc2, hc3⟩ := (HR.out.below (Nat.le_refl _) hb).at_ hlm
      rw [markT_get ts k t hlt' hlm] at hc0 hc1 hc2 hc3
      simp only [mkT] at hc0 hc1 hc2 hc3
      have hB2 : b < wr.heap.size := by omega
      have HM1 := Lib.hid (fun W => mark_text (k + 4 * t + 1) W (by omega) (by omega))
      have HM2 := Lib.hid (fun W => mark_text (k + 4 * t + 2) W (by omega) (by omega))
      have HB := Lib.hid hb
      have HQ2 := Lib.hid (show ((k + 4 * (t + 1) : Nat) : Int) = ((k + 4 * t : Nat) : Int) + 1 + 1 + 1 + 1 by omega)
      rw [show ((k + 4 * t + 3 : Nat) : Int) = ((k + 4 * t : Nat) : Int) + 1 + 1 + 1 by omega] at hc3
      have ht0 : (0 : Int) ≤ (t : Int) := by omega
      have ht1 : (t : Int) < (n : Int) := by omega
      have q1 : k + 4 * t + 4 ≤ 1099511627776 := by omega
      generalize k + 4 * t = kt at *
      rw [show ((kt + 1 : Nat) : Int) = (kt : Int) + 1 by omega] at HM1
      rw [show ((kt + 2 : Nat) : Int) = (kt : Int) + 1 + 1 by omega] at HM2
      generalize mt (kt + 1) = y1 at *
      generalize mt (kt + 2) = y2 at *
      have e0 : ((kt : Int) != (kt : Int)) = false := by simp
      have e3 : ((kt : Int) + 1 + 1 + 1 != (kt : Int) + 1 + 1 + 1) = false := by simp
      clear hb
      go_wp2_with fail
      go_region_with ((go_at_call 86; refine (HM1.out _).mono ?_; rintro e v1 ⟨rfl, hb1⟩; have hd1 : v1.cell? ⟨b, o + t * 4 + 1, none⟩ = some (.string y1) := (hb1.cell (p := ⟨b, o + t * 4 + 1, none⟩) hB2).trans hc1; have hd2 : v1.cell? ⟨b, o + t * 4 + 2, none⟩ = some (.string y2) := (hb1.cell (p := ⟨b, o + t * 4 + 2, none⟩) hB2).trans hc2; have hd3 : v1.cell? ⟨b, o + t * 4 + 3, none⟩ = some (.int .i64 ((kt : Int) + 1 + 1 + 1)) := (hb1.cell (p := ⟨b, o + t * 4 + 3, none⟩) hB2).trans hc3; have s1 : wr.heap.size ≤ v1.heap.size := hb1.size))
      all_goals
        have HB1 := Lib.hid (HB.out.trans ((((Below.refl wr.heap.size wr).drew.trans (show Below wr.heap.size wr.drew _ from hb1))).mono hbs))
        have hB3 : b < v1.heap.size := by omega
        clear hb1 hc0 hc1 hc2 hc3
        go_wp2_with fail
        go_region_with ((go_at_call 86; refine (HM2.out _).mono ?_; rintro e v2 ⟨rfl, hb2⟩; have hg2 : v2.cell? ⟨b, o + t * 4 + 2, none⟩ = some (.string y2) := (hb2.cell (p := ⟨b, o + t * 4 + 2, none⟩) hB3).trans hd2; have hg3 : v2.cell? ⟨b, o + t * 4 + 3, none⟩ = some (.int .i64 ((kt : Int) + 1 + 1 + 1)) := (hb2.cell (p := ⟨b, o + t * 4 + 3, none⟩) hB3).trans hd3))
        all_goals
          have HB2 := Lib.hid (HB1.out.trans ((((Below.refl v1.heap.size v1).drew.trans (show Below v1.heap.size v1.drew _ from hb2))).mono (Nat.le_trans hbs s1)))
          clear hb2 hd1 hd2 hd3
          go_wp2_with fail
          refine ⟨⟨t + 1, by omega, by go_num, ?_, HB2.out⟩, by simp [intOf]; omega⟩
          rw [HQ2.out]
    · obtain rfl : n = t := by omega
      go_wp2_with fail
      go_ret
      exact ⟨rfl, hb⟩

set_option maxRecDepth 100000 in
set_option maxHeartbeats 3200000 in
theorem heldDisk_any (room fuse next : Int) (F : Option Addr) (nf cf : Nat) (K : Option Addr) (nk ck : Nat) (T : Option Addr) (nt ct : Nat) (gs : List FileD) (ks : List LinkD) (ts : List TurnD) (k : Nat) (w : World)
    (hF : RdF w w.heap.size F (markF k gs)) (hB : RdB w w.heap.size (markF k gs)) (hK : RdL w w.heap.size K (markL (k + 2 * nf + usedD gs) ks)) (hT : RdT w w.heap.size T (markT (k + 2 * nf + usedD gs + 2 * nk) ts))
    (hf : gs.length = nf) (hk : ks.length = nk) (ht : ts.length = nt) (h0 : 1 ≤ k) (h1 : k + 2 * nf + usedD gs + 2 * nk + 4 * nt ≤ 1099511627776) :
    Calls Tryz.prog 15 #[.agg #[.int .i64 room, .int .i64 fuse, .int .i64 next, .slice F nf cf, .slice K nk ck, .slice T nt ct], .int .i64 k] w
      fun e w' => e = .returned (.int .i64 ((k + 2 * nf + usedD gs + 2 * nk + 4 * nt : Nat) : Int)) ∧ Below w.heap.size w w' := by
  have HE := Lib.hid (show endF k gs = ((k + 2 * nf + usedD gs : Nat) : Int) by unfold endF; rw [hf]; omega)
  have hb0 := Lib.hid ((Below.refl w.heap.size w).alloc (Nat.le_refl _) (.cells #[.int .i64 room, .int .i64 fuse, .int .i64 next, .slice F nf cf, .slice K nk ck, .slice T nt ct] 36))
  have HC := Lib.hid (show ∀ j v, #[Value.int .i64 room, .int .i64 fuse, .int .i64 next, .slice F nf cf, .slice K nk ck, .slice T nt ct][j]? = some v → (w.alloc (.cells #[.int .i64 room, .int .i64 fuse, .int .i64 next, .slice F nf cf, .slice K nk ck, .slice T nt ct] 36)).cell? ⟨w.heap.size, j, none⟩ = some v from fun j v h => by rw [World.cell?_alloc_at _ _ _ _ rfl]; exact h)
  have HF := Lib.hid (fun W (h : Below w.heap.size w W) => heldFileS_any F nf cf gs k W ((hF.below (Nat.le_refl _) h).more h.size) ((hB.below (Nat.le_refl _) h).more h.size) hf (by omega) (by rw [HE.out]; omega))
  generalize hk1 : k + 2 * nf + usedD gs = k1 at *
  generalize hk2 : k1 + 2 * nk = k2 at *
  have HK := Lib.hid (fun W (h : Below w.heap.size w W) => heldLinkS_any K nk ck ks k1 W ((hK.below (Nat.le_refl _) h).more h.size) hk (by omega) (by omega))
  have HT := Lib.hid (fun W (h : Below w.heap.size w W) => heldTurnS_any T nt ct ts k2 W ((hT.below (Nat.le_refl _) h).more h.size) ht (by omega) (by omega))
  rw [hk2] at HK
  clear hF hB hK hT
  go_enter Tryz.func15, Tryz.ntmps15
  go_wp2_with fail
  refine (HF.out _ hb0.out).mono ?_
  rintro e v1 ⟨rfl, rfl⟩
  rw [HE.out]
  have c4 := HC.out 4 _ rfl
  have c5 := HC.out 5 _ rfl
  go_wp2_with fail
  refine (HK.out _ hb0.out).mono ?_
  rintro e v2 ⟨rfl, hb2⟩
  have HB2 := Lib.hid (hb0.out.trans (hb2.mono (by simp)))
  have d5 := (hb2.cell (p := ⟨w.heap.size, 5, none⟩) (by simp)).trans c5
  clear hb2 c4 c5
  go_wp2_with fail
  refine (HT.out _ HB2.out).mono ?_
  rintro e v3 ⟨rfl, hb3⟩
  have HB3 := Lib.hid (HB2.out.trans (hb3.mono HB2.out.size))
  clear hb3 d5
  go_wp2_with fail
  go_ret
  exact ⟨ret_int (by omega), HB3.out⟩
end Go.Proofs.YtckiloacbanbmaaGreat.DOk
namespace Go.Proofs.YtckiloacbanbmaaGreat.DOk
open Go.RowKit Go.Proofs.YtckiloacbanbmaaGreat.Bytes Go.Proofs.YtckiloacbanbmaaGreat.Rows_
set_option linter.unusedVariables false

/-- what a size helper answers: -1, or what is left, which P says of -/
def Sz (P : Int → Prop) (B : Nat) (w : World) (e : Ending) (w' : World) : Prop := ∃ r, e = .returned (.int .i64 r) ∧ (r = -1 ∨ (0 ≤ r ∧ P r)) ∧ Below B w w'
theorem sz_no {P : Int → Prop} {B : Nat} {w w' : World} (hb : Below B w w') : Sz P B w (.returned (.int .i64 (-1))) w' := ⟨-1, rfl, .inl rfl, hb⟩
theorem sz_yes {P : Int → Prop} {B : Nat} {w w' : World} {r : Int} (h0 : 0 ≤ r) (h : P r) (hb : Below B w w') : Sz P B w (.returned (.int .i64 r)) w' := ⟨r, rfl, .inr ⟨h0, h⟩, hb⟩

set_option maxRecDepth 100000 in
set_option maxHeartbeats 800000 in
theorem szFile_any (id : Int) (A : Option Addr) (n c : Nat) (safe left : Int) (w : World) (hn : n ≤ 9223372036854775807) (h0 : 0 ≤ left) (h1 : left ≤ 1048576) :
    Calls Tryz.prog 59 #[.agg #[.int .i64 id, .slice A n c, .int .i64 safe], .int .i64 left] w (Sz (fun r => r = left - n) w.heap.size w) := by
  have hS := Lib.hid (fun W => OpOk.szByteS_any A n c left W hn h0 h1)
  have hb0 := Lib.hid ((Below.refl w.heap.size w).alloc (Nat.le_refl _) (.cells #[.int .i64 id, .slice A n c, .int .i64 safe] 91))
  by_cases h : left < n
  · rw [if_pos h] at hS
    go_enter Tryz.func59, Tryz.ntmps59
    go_wp2_with fail
    refine (hS.out _).mono ?_
    rintro e w' ⟨rfl, rfl⟩
    go_wp2_with fail
    go_ret
    exact sz_no hb0.out
  · rw [if_neg h] at hS
    have h2 : 0 ≤ left - n := by omega
    go_enter Tryz.func59, Tryz.ntmps59
    go_wp2_with fail
    refine (hS.out _).mono ?_
    rintro e w' ⟨rfl, rfl⟩
    go_wp2_with fail
    go_ret
    exact sz_yes h2 rfl hb0.out

set_option maxRecDepth 100000 in
set_option maxHeartbeats 800000 in
theorem szLink_any (nm : ByteArray) (id left : Int) (w : World) (hn : nm.size ≤ 9223372036854775807) (h0 : 0 ≤ left) (h1 : left ≤ 1048576) :
    Calls Tryz.prog 60 #[.agg #[.string nm, .int .i64 id], .int .i64 left] w (Sz (fun r => r ≤ left) w.heap.size w) := by
  have hb0 := Lib.hid ((Below.refl w.heap.size w).alloc (Nat.le_refl _) (.cells #[.string nm, .int .i64 id] 94))
  by_cases h : left - (nm.size : Int) < 0
  · go_enter Tryz.func60, Tryz.ntmps60
    go_wp2_with fail
    go_ret
    exact sz_no hb0.out
  · have h2 : 0 ≤ left - (nm.size : Int) := by omega
    go_enter Tryz.func60, Tryz.ntmps60
    go_wp2_with fail
    go_ret
    exact sz_yes h2 (by omega) hb0.out

set_option maxRecDepth 100000 in
set_option maxHeartbeats 800000 in
theorem szTurn_any (kind : Int) (nm to_ : ByteArray) (id left : Int) (w : World) (hn : nm.size ≤ 9223372036854775807) (hn2 : to_.size ≤ 9223372036854775807) (h0 : 0 ≤ left) (h1 : left ≤ 1048576) :
    Calls Tryz.prog 61 #[.agg #[.int .i64 kind, .string nm, .string to_, .int .i64 id], .int .i64 left] w (Sz (fun r => r ≤ left) w.heap.size w) := by
  have hb0 := Lib.hid ((Below.refl w.heap.size w).alloc (Nat.le_refl _) (.cells #[.int .i64 kind, .string nm, .string to_, .int .i64 id] 96))
  by_cases h : left - (nm.size : Int) < 0
  · go_enter Tryz.func61, Tryz.ntmps61
    go_wp2_with fail
    go_ret
    exact sz_no hb0.out
  · have h2 : 0 ≤ left - (nm.size : Int) := by omega
    by_cases h' : left - (nm.size : Int) - (to_.size : Int) < 0
    · go_enter Tryz.func61, Tryz.ntmps61
      go_wp2_with fail
      go_ret
      exact sz_no hb0.out
    · have h3 : 0 ≤ left - (nm.size : Int) - (to_.size : Int) := by omega
      go_enter Tryz.func61, Tryz.ntmps61
      go_wp2_with fail
      go_ret
      exact sz_yes h3 (by omega) hb0.out

set_option maxRecDepth 100000 in
set_option maxHeartbeats 1600000 in
theorem szFileS_any (F : Option Addr) (nf cf : Nat) (fs : List FileD) (left : Int) (w : World) (hf : RdF w w.heap.size F fs) (hfl : fs.length = nf) (hfn : nf ≤ 9223372036854775807) (hfs : ∀ x ∈ fs, x.n ≤ 9223372036854775807) (h0 : 0 ≤ left) (h1 : left ≤ 1048576) :
    Calls Tryz.prog 21 #[.slice F nf cf, .int .i64 left] w (Sz (fun r => r = left - nf - (usedD fs : Nat)) w.heap.size w) := by
  have HF := Lib.hid hf
  have HFL := Lib.hid hfl
  have HFS := Lib.hid hfs
  clear hf hfl hfs
  by_cases hneg : left - (nf : Int) < 0
  · go_enter Tryz.func21, Tryz.ntmps21
    go_wp2_with fail
    go_ret
    exact sz_no (Below.refl _ _)
  · have hpos : 0 ≤ left - (nf : Int) := by omega
    go_enter Tryz.func21, Tryz.ntmps21
    go_wp2_with fail
    go_loopw [1, 5] (fun l i wr => ∃ (k : Nat) (L : Int), k ≤ nf ∧ i = .int .i64 k ∧ l = .int .i64 L ∧ 0 ≤ L ∧ L ≤ 1048576 ∧ Hid (L = left - nf - (usedD (fs.take k) : Nat)) ∧ Below w.heap.size w wr) (fun _ i _ => nf - (intOf i).toNat)
    case atStart => exact ⟨0, _, Nat.zero_le _, rfl, rfl, hpos, by omega, Lib.hid (by have : usedD (fs.take 0) = 0 := rfl; omega), Below.refl _ _⟩
    case round =>
      obtain ⟨k, L, hk, rfl, rfl, hL0, hL1, HL, hb⟩ := hrel
      have hz : w.heap.size ≤ wr.heap.size := hb.size
      by_cases hlt : k < nf
      · have hlt' : k < fs.length := by rw [HFL.out]; exact hlt
        obtain ⟨b, o, rfl, hB, hc0, hc1, hc2⟩ := (HF.out.below (Nat.le_refl _) hb).at_ hlt'
        have HB := Lib.hid hb
        have HS := Lib.hid (used_snoc fs k hlt')
        have hSz := Lib.hid (fun W => szFile_any fs[k].id fs[k].A fs[k].n fs[k].c fs[k].safe L W (HFS.out _ (List.getElem_mem hlt')) hL0 hL1)
        clear hb
        generalize fs[k].id = x0 at *
        generalize fs[k].A = x1 at *
        generalize fs[k].n = x2 at *
        generalize fs[k].c = x3 at *
        generalize fs[k].safe = x4 at *
        go_wp2_with fail
        refine (hSz.out _).mono ?_
        rintro e v ⟨r, rfl, hr, hb1⟩
        have HB1 := Lib.hid (HB.out.trans (hb1.mono hz))
        clear hb1
        rcases hr with rfl | ⟨hr0, hr1⟩
        · go_wp2_with fail
          go_ret
          exact sz_no HB1.out
        · have HR1 := Lib.hid (show r = left - nf - (usedD (fs.take (k + 1)) : Nat) by rw [hr1, HL.out, HS.out]; omega)
          have hr2 : r ≤ 1048576 := by omega
          clear hr1
          go_wp2_with fail
          exact ⟨⟨k + 1, r, by omega, by go_num, rfl, hr0, hr2, HR1, HB1.out⟩, by simp [intOf]; omega⟩
      · obtain rfl : nf = k := by omega
        have e : fs.take nf = fs := List.take_of_length_le (by rw [HFL.out]; exact Nat.le_refl _)
        rw [e] at HL
        have HB := Lib.hid hb
        clear hb
        go_wp2_with fail
        go_ret
        exact sz_yes hL0 HL.out HB.out

set_option maxRecDepth 100000 in
set_option maxHeartbeats 1600000 in
theorem szLinkS_any (K : Option Addr) (nk ck : Nat) (ks : List LinkD) (left : Int) (w : World) (hk : RdL w w.heap.size K ks) (hkl : ks.length = nk) (hkn : nk ≤ 9223372036854775807) (hks : ∀ x ∈ ks, x.1.size ≤ 9223372036854775807) (h0 : 0 ≤ left) (h1 : left ≤ 1048576) :
    Calls Tryz.prog 22 #[.slice K nk ck, .int .i64 left] w (Sz (fun r => r ≤ left - nk) w.heap.size w) := by
  have HF := Lib.hid hk
  have HFL := Lib.hid hkl
  have HFS := Lib.hid hks
  clear hk hkl hks
  by_cases hneg : left - (nk : Int) < 0
  · go_enter Tryz.func22, Tryz.ntmps22
    go_wp2_with fail
    go_ret
    exact sz_no (Below.refl _ _)
  · have hpos : 0 ≤ left - (nk : Int) := by omega
    go_enter Tryz.func22, Tryz.ntmps22
    go_wp2_with fail
    go_loopw [1, 5] (fun l i wr => ∃ (k : Nat) (L : Int), k ≤ nk ∧ i = .int .i64 k ∧ l = .int .i64 L ∧ 0 ≤ L ∧ L ≤ left - nk ∧ Below w.heap.size w wr) (fun _ i _ => nk - (intOf i).toNat)
    case atStart => exact ⟨0, _, Nat.zero_le _, rfl, rfl, hpos, Int.le_refl _, Below.refl _ _⟩
    case round =>
      obtain ⟨k, L, hk, rfl, rfl, hL0, hL1, hb⟩ := hrel
      have hz : w.heap.size ≤ wr.heap.size := hb.size
      by_cases hlt : k < nk
      · have hlt' : k < ks.length := by rw [HFL.out]; exact hlt
        obtain ⟨b, o, rfl, hB, hc0, hc1⟩ := (HF.out.below (Nat.le_refl _) hb).at_ hlt'
        have HB := Lib.hid hb
        have hSz := Lib.hid (fun W => szLink_any ks[k].1 ks[k].2 L W (HFS.out _ (List.getElem_mem hlt')) hL0 (by omega))
        clear hb
        generalize ks[k].1 = x0 at *
        generalize ks[k].2 = x1 at *
        go_wp2_with fail
        refine (hSz.out _).mono ?_
        rintro e v ⟨r, rfl, hr, hb1⟩
        have HB1 := Lib.hid (HB.out.trans (hb1.mono hz))
        clear hb1
        rcases hr with rfl | ⟨hr0, hr1⟩
        · go_wp2_with fail
          go_ret
          exact sz_no HB1.out
        · have hr2 : r ≤ left - nk := by omega
          go_wp2_with fail
          exact ⟨⟨k + 1, r, by omega, by go_num, rfl, hr0, hr2, HB1.out⟩, by simp [intOf]; omega⟩
      · obtain rfl : nk = k := by omega
        have HB := Lib.hid hb
        clear hb
        go_wp2_with fail
        go_ret
        exact sz_yes hL0 hL1 HB.out

set_option maxRecDepth 100000 in
set_option maxHeartbeats 1600000 in
theorem szTurnS_any (T : Option Addr) (nt ct : Nat) (ts : List TurnD) (left : Int) (w : World) (hk : RdT w w.heap.size T ts) (hkl : ts.length = nt) (hkn : nt ≤ 9223372036854775807) (hks : ∀ x ∈ ts, x.name.size ≤ 9223372036854775807 ∧ x.to_.size ≤ 9223372036854775807) (h0 : 0 ≤ left) (h1 : left ≤ 1048576) :
    Calls Tryz.prog 23 #[.slice T nt ct, .int .i64 left] w (Sz (fun r => r ≤ left - nt) w.heap.size w) := by
  have HF := Lib.hid hk
  have HFL := Lib.hid hkl
  have HFS := Lib.hid hks
  clear hk hkl hks
  by_cases hneg : left - (nt : Int) < 0
  · go_enter Tryz.func23, Tryz.ntmps23
    go_wp2_with fail
    go_ret
    exact sz_no (Below.refl _ _)
  · have hpos : 0 ≤ left - (nt : Int) := by omega
    go_enter Tryz.func23, Tryz.ntmps23
    go_wp2_with fail
    go_loopw [1, 5] (fun l i wr => ∃ (k : Nat) (L : Int), k ≤ nt ∧ i = .int .i64 k ∧ l = .int .i64 L ∧ 0 ≤ L ∧ L ≤ left - nt ∧ Below w.heap.size w wr) (fun _ i _ => nt - (intOf i).toNat)
    case atStart => exact ⟨0, _, Nat.zero_le _, rfl, rfl, hpos, Int.le_refl _, Below.refl _ _⟩
    case round =>
      obtain ⟨k, L, hk, rfl, rfl, hL0, hL1, hb⟩ := hrel
      have hz : w.heap.size ≤ wr.heap.size := hb.size
      by_cases hlt : k < nt
      · have hlt' : k < ts.length := by rw [HFL.out]; exact hlt
        obtain ⟨b, o, rfl, hB, hc0, hc1, hc2, hc3⟩ := (HF.out.below (Nat.le_refl _) hb).at_ hlt'
        have HB := Lib.hid hb
        have hSz := Lib.hid (fun W => szTurn_any ts[k].kind ts[k].name ts[k].to_ ts[k].id L W (HFS.out _ (List.getElem_mem hlt')).1 (HFS.out _ (List.getElem_mem hlt')).2 hL0 (by omega))
        clear hb
        generalize ts[k].kind = x0 at *
        generalize ts[k].name = x1 at *
        generalize ts[k].to_ = x2 at *
        generalize ts[k].id = x3 at *
        go_wp2_with fail
        refine (hSz.out _).mono ?_
        rintro e v ⟨r, rfl, hr, hb1⟩
        have HB1 := Lib.hid (HB.out.trans (hb1.mono hz))
        clear hb1
        rcases hr with rfl | ⟨hr0, hr1⟩
        · go_wp2_with fail
          go_ret
          exact sz_no HB1.out
        · have hr2 : r ≤ left - nt := by omega
          go_wp2_with fail
          exact ⟨⟨k + 1, r, by omega, by go_num, rfl, hr0, hr2, HB1.out⟩, by simp [intOf]; omega⟩
      · obtain rfl : nt = k := by omega
        have HB := Lib.hid hb
        clear hb
        go_wp2_with fail
        go_ret
        exact sz_yes hL0 hL1 HB.out

set_option maxRecDepth 100000 in
set_option maxHeartbeats 1600000 in
theorem szDisk_any (room fuse next : Int) (F : Option Addr) (nf cf : Nat) (K : Option Addr) (nk ck : Nat) (T : Option Addr) (nt ct : Nat) (fs : List FileD) (ks : List LinkD) (ts : List TurnD) (left : Int) (w : World)
    (hf : RdF w w.heap.size F fs) (hfl : fs.length = nf) (hfn : nf ≤ 9223372036854775807) (hfs : ∀ x ∈ fs, x.n ≤ 9223372036854775807)
    (hk : RdL w w.heap.size K ks) (hkl : ks.length = nk) (hkn : nk ≤ 9223372036854775807) (hks : ∀ x ∈ ks, x.1.size ≤ 9223372036854775807)
    (ht : RdT w w.heap.size T ts) (htl : ts.length = nt) (htn : nt ≤ 9223372036854775807) (hts : ∀ x ∈ ts, x.name.size ≤ 9223372036854775807 ∧ x.to_.size ≤ 9223372036854775807) (h0 : 0 ≤ left) (h1 : left ≤ 1048576) :
    Calls Tryz.prog 5 #[.agg #[.int .i64 room, .int .i64 fuse, .int .i64 next, .slice F nf cf, .slice K nk ck, .slice T nt ct], .int .i64 left] w (Sz (fun r => r ≤ left - nf - (usedD fs : Nat) - nk - nt) w.heap.size w) := by
  have hb0 := Lib.hid ((Below.refl w.heap.size w).alloc (Nat.le_refl _) (.cells #[.int .i64 room, .int .i64 fuse, .int .i64 next, .slice F nf cf, .slice K nk ck, .slice T nt ct] 26))
  have hbC := Lib.hid (show ∀ j v, #[Value.int .i64 room, .int .i64 fuse, .int .i64 next, .slice F nf cf, .slice K nk ck, .slice T nt ct][j]? = some v → (w.alloc (.cells #[.int .i64 room, .int .i64 fuse, .int .i64 next, .slice F nf cf, .slice K nk ck, .slice T nt ct] 26)).cell? ⟨w.heap.size, j, none⟩ = some v from fun j v h => by rw [World.cell?_alloc_at _ _ _ _ rfl]; exact h)
  have RF := Lib.hid (fun W (h : Below w.heap.size w W) => (hf.below (Nat.le_refl _) h).more h.size)
  have RL := Lib.hid (fun W (h : Below w.heap.size w W) => (hk.below (Nat.le_refl _) h).more h.size)
  have RT := Lib.hid (fun W (h : Below w.heap.size w W) => (ht.below (Nat.le_refl _) h).more h.size)
  have HF := Lib.hid (fun W (h : RdF W W.heap.size F fs) => szFileS_any F nf cf fs left W h hfl hfn hfs h0 h1)
  have HL := Lib.hid (fun W (l : Int) (h : RdL W W.heap.size K ks) (a : 0 ≤ l) (b : l ≤ 1048576) => szLinkS_any K nk ck ks l W h hkl hkn hks a b)
  have HT := Lib.hid (fun W (l : Int) (h : RdT W W.heap.size T ts) (a : 0 ≤ l) (b : l ≤ 1048576) => szTurnS_any T nt ct ts l W h htl htn hts a b)
  clear hf hfl hfs hk hkl hks ht htl hts
  go_enter Tryz.func5, Tryz.ntmps5
  go_wp2_with fail
  refine (HF.out _ (RF.out _ hb0.out)).mono ?_
  rintro e v1 ⟨r1, rfl, hr1, hb1⟩
  have hbm1 : Below (w.heap.size + 1) _ v1 := hb1.mono (by simp)
  have p4 : v1.cell? ⟨w.heap.size, 4, none⟩ = some (.slice K nk ck) := (hbm1.cell (p := ⟨w.heap.size, 4, none⟩) (by show w.heap.size < w.heap.size + 1; omega)).trans (hbC.out 4 _ rfl)
  have p5 : v1.cell? ⟨w.heap.size, 5, none⟩ = some (.slice T nt ct) := (hbm1.cell (p := ⟨w.heap.size, 5, none⟩) (by show w.heap.size < w.heap.size + 1; omega)).trans (hbC.out 5 _ rfl)
  have BW1 := Lib.hid (hb0.out.trans (hbm1.mono (by omega)))
  have hz1 : w.heap.size < v1.heap.size := by have := hb1.size; simp at this; omega
  clear hb1 hbm1
  rcases hr1 with rfl | ⟨hr1, he1⟩
  · go_wp2_with fail
    go_ret
    exact sz_no BW1.out
  · have hle1 : r1 ≤ left - nf - (usedD fs : Nat) := by omega
    have hle0 : r1 ≤ 1048576 := by omega
    have HU := Lib.hid (show ∀ r : Int, r ≤ r1 - nk - nt → r ≤ left - nf - (usedD fs : Nat) - nk - nt from fun r h => by omega)
    clear he1 hle1
    go_wp2_with fail
    refine (HL.out _ r1 (RL.out _ BW1.out) hr1 hle0).mono ?_
    rintro e v2 ⟨r2, rfl, hr2, hb2⟩
    have q5 : v2.cell? ⟨w.heap.size, 5, none⟩ = some (.slice T nt ct) := (hb2.cell (p := ⟨w.heap.size, 5, none⟩) hz1).trans p5
    have BW2 := Lib.hid (BW1.out.trans (hb2.mono (by omega)))
    clear hb2 p4 p5
    rcases hr2 with rfl | ⟨hr2, he2⟩
    · go_wp2_with fail
      go_ret
      exact sz_no BW2.out
    · go_wp2_with fail
      refine (HT.out _ r2 (RT.out _ BW2.out) hr2 (by omega)).mono ?_
      rintro e v3 ⟨r3, rfl, hr3, hb3⟩
      have hz2 : w.heap.size ≤ v2.heap.size := BW2.out.size
      have BW3 := Lib.hid (BW2.out.trans (hb3.mono (by omega)))
      clear hb3 q5
      rcases hr3 with rfl | ⟨hr3, he3⟩
      · go_wp2_with fail
        go_ret
        exact sz_no BW3.out
      · go_wp2_with fail
        go_ret
        exact sz_yes hr3 (HU.out _ (by omega)) BW3.out
end Go.Proofs.YtckiloacbanbmaaGreat.DOk
namespace Go.Proofs.YtckiloacbanbmaaGreat.DOk
open Go.RowKit Go.Proofs.YtckiloacbanbmaaGreat.Bytes Go.Proofs.YtckiloacbanbmaaGreat.Rows_
set_option linter.unusedVariables false
theorem heldD {w : World} {base : Nat} (room fuse next : Int) {F : Option Addr} {nf cf : Nat} {K : Option Addr} {nk ck : Nat} {T : Option Addr} {nt ct : Nat} (gs : List FileD) (ks : List LinkD) (ts : List TurnD) (k : Nat)
    (h : OwnD w base F nf cf (markF k gs) K nk ck (markL (k + 2 * nf + usedD gs) ks) T nt ct (markT (k + 2 * nf + usedD gs + 2 * nk) ts)) (hf : gs.length = nf) (hk : ks.length = nk) (ht : ts.length = nt) (h0 : 1 ≤ k) (h1 : k + 2 * nf + usedD gs + 2 * nk + 4 * nt ≤ 1099511627776) :
    Calls Tryz.prog 15 #[.agg #[.int .i64 room, .int .i64 fuse, .int .i64 next, .slice F nf cf, .slice K nk ck, .slice T nt ct], .int .i64 k] w
      fun e w' => e = .returned (.int .i64 ((k + 2 * nf + usedD gs + 2 * nk + 4 * nt : Nat) : Int)) ∧ Below w.heap.size w w' :=
  heldDisk_any room fuse next F nf cf K nk ck T nt ct gs ks ts k w h.f.rd h.b.rdB h.l.rd h.t.rd hf hk ht h0 h1
theorem AnsDisk.mono {D E : Int → Int → Int → List FileD → List LinkD → List TurnD → Value → Prop} {w w' : World} {e : Ending} (h : AnsDisk D w e w') (hi : ∀ r f x gs k t o, D r f x gs k t o → E r f x gs k t o) : AnsDisk E w e w' := by
  obtain ⟨r, f, x, F, nf, cf, gs, K, nk, ck, ks, T, nt, ct, ts, o, h1, h2, h3, h4⟩ := h
  exact ⟨r, f, x, F, nf, cf, gs, K, nk, ck, ks, T, nt, ct, ts, o, h1, h2, hi _ _ _ _ _ _ _ h3, h4⟩
end Go.Proofs.YtckiloacbanbmaaGreat.DOk
namespace Go.Proofs.YtckiloacbanbmaaGreat.DOk
open Go.RowKit Go.Proofs.YtckiloacbanbmaaGreat.Bytes Go.Proofs.YtckiloacbanbmaaGreat.Rows_
set_option linter.unusedVariables false

def partI (zs : List Int) (n k : Nat) : List Int := zs.take k ++ List.replicate (n - k) 0
theorem partI_set {zs : List Int} {n k : Nat} (hl : zs.length = n) (hk : k < n) : (partI zs n k).set k (zs[k]'(by omega)) = partI zs n (k + 1) := by
  unfold partI
  rw [List.set_append_right _ _ (by rw [List.length_take]; omega), List.length_take, show k - min k zs.length = 0 by omega, show n - k = (n - (k + 1)) + 1 by omega, List.replicate_succ, List.set_cons_zero, List.take_succ_eq_append_getElem (by omega), List.append_assoc]
  rfl
theorem partI_end {zs : List Int} {n : Nat} (hl : zs.length = n) : partI zs n n = zs := by
  unfold partI; rw [Nat.sub_self, List.replicate_zero, List.append_nil, List.take_of_length_le (by omega)]
theorem partI_len {zs : List Int} {n k : Nat} (hl : zs.length = n) (hk : k ≤ n) : (partI zs n k).length = n := by
  unfold partI; rw [List.length_append, List.length_take, List.length_replicate]; omega
theorem iv_set (zs : List Int) (k : Nat) (z : Int) : (iv zs).set k (.int .i64 z) = iv (zs.set k z) := by simp [iv]
theorem OwnI.stored {w : World} {base g n c : Nat} {zs : List Int} (h : OwnI w base (some ⟨g, 0, none⟩) n c zs) (k : Nat) (z : Int) :
    OwnI (w.setCell ⟨g, k, none⟩ (.int .i64 z)) base (some ⟨g, 0, none⟩) n c (zs.set k z) ∧ w.grownBy (w.setCell ⟨g, k, none⟩ (.int .i64 z)) (some g) := by
  have hs := World.ownsRow.stored (h := h) k (.int .i64 z)
  refine ⟨?_, hs.2⟩
  have e : iv (zs.set k z) = (iv zs).set k (.int .i64 z) := by simp [iv]
  unfold OwnI; rw [e]; exact hs.1
set_option maxRecDepth 100000 in
set_option maxHeartbeats 800000 in
theorem toIntS_any (A : Option Addr) (n c : Nat) (zs : List Int) (w : World) (hr : RdI w w.heap.size A zs) (hl : zs.length = n) (hn : n ≤ 2097152) :
    Calls Tryz.prog 17 #[.slice A n c] w fun e w' => ∃ A' c', e = .returned (.slice A' n c') ∧ OwnI w' w.heap.size A' n c' zs ∧ Below w.heap.size w w' := by
  obtain ⟨i0, hi, hz0, hz1, hz2⟩ := info_parts intInfo
  have hm : n ≤ maxLen := by unfold maxLen; omega
  have HL := Lib.hid hl
  have HR := Lib.hid hr
  clear hl hr
  go_enter Tryz.func17, Tryz.ntmps17
  go_wp2_with (at_make; refine wpList_make_full _ rfl _ _ 47 rfl w.heap.size 3 i0 (.int .i64 0) 1 Tryz.underlying47 hi hz0 hz1 _ _ _ _ n rfl rfl rfl rfl ?c1 hm (Nat.le_refl _) ?_)
  case c1 => rw [hz2]; omega
  intro w1 hown hgrow
  have hown' : OwnI w1 w.heap.size (some ⟨w.heap.size, 0, none⟩) n n (partI zs n 0) := by
    unfold OwnI
    have e : iv (partI zs n 0) = (madeCells #[Value.int .i64 0] n).toList := by
      simp [iv, partI, toList_madeCells_one]
    rw [e]; exact hown
  have hb1 : Below w.heap.size w w1 := (Below.refl _ _).grown hgrow (Nat.le_refl _) (by simp)
  clear hown hgrow
  go_wp2
  go_loopw [4] (fun i wr => ∃ k : Nat, k ≤ n ∧ i = .int .i64 k ∧ OwnI wr w.heap.size (some ⟨w.heap.size, 0, none⟩) n n (partI zs n k) ∧ Below w.heap.size w wr) (fun i _ => n - (intOf i).toNat)
  case atStart => exact ⟨0, Nat.zero_le _, rfl, hown', hb1⟩
  case round =>
    obtain ⟨k, hk, rfl, ho, hb⟩ := hrel
    clear hown' hb1
    by_cases hlt : k < n
    · have hlt' : k < zs.length := by rw [HL.out]; exact hlt
      obtain ⟨b, o, rfl, hB, hc⟩ := (HR.out.below (Nat.le_refl _) hb).at_ hlt'
      have hf := World.ownsRow.frozenAt (h := ho) k
      obtain ⟨u, hu⟩ : ∃ u, wr.cell? ⟨w.heap.size, k, none⟩ = some u := by
        rw [World.ownsRow.cellAt (h := ho) k (by omega)]; exact ⟨_, List.getElem?_eq_getElem (by have := partI_len HL.out (Nat.le_of_lt hlt); simp [iv]; omega)⟩
      have hs := ho.stored k zs[k]
      rw [partI_set HL.out hlt] at hs
      have HS := Lib.hid hs.1
      have HB := Lib.hid hb
      clear hs ho hb
      generalize zs[k] = z at *
      go_wp2
      go_roundw
      case rel => exact ⟨k + 1, by omega, by go_num, HS.out, HB.out.setCell (by simp) _⟩
      case measure => simp [intOf]; omega
    · obtain rfl : n = k := by omega
      rw [partI_end HL.out] at ho
      have HO := Lib.hid ho
      have HB := Lib.hid hb
      clear ho hb
      go_wp2
      go_ret
      exact ⟨_, _, rfl, HO.out, HB.out⟩

set_option maxRecDepth 100000 in
set_option maxHeartbeats 800000 in
theorem eqIntS_yes (A A' : Option Addr) (n c c' : Nat) (xs : List Int) (w : World) (hx : RdI w w.heap.size A xs) (hy : RdI w w.heap.size A' xs) (hl : xs.length = n) (hn : n ≤ 2097152) :
    Calls Tryz.prog 19 #[.slice A n c, .slice A' n c'] w fun e w' => e = .returned (.bool true) ∧ Below w.heap.size w w' := by
  have HL := Lib.hid hl
  have HX := Lib.hid hx
  have HY := Lib.hid hy
  clear hl hx hy
  go_enter Tryz.func19, Tryz.ntmps19
  go_wp2
  go_loopw [5] (fun i wr => ∃ k j : Nat, k ≤ n ∧ i = .int .i64 k ∧ wr = w.drewN j) (fun i _ => n - (intOf i).toNat)
  case atStart => exact ⟨0, 0, Nat.zero_le _, rfl, rfl⟩
  case round =>
    obtain ⟨k, j, hk, rfl, rfl⟩ := hrel
    by_cases hlt : k < n
    · have hlt' : k < xs.length := by rw [HL.out]; exact hlt
      obtain ⟨b, o, rfl, hB, hc⟩ := HX.out.at_ hlt'
      obtain ⟨b', o', rfl, hB', hc'⟩ := HY.out.at_ hlt'
      generalize xs[k] = z at *
      have hne : (z != z) = false := by simp
      go_wp2
      go_quiet (fail)
      go_wp2
      exact ⟨⟨k + 1, _, by omega, by go_num, rfl⟩, by simp [intOf]; omega⟩
    · obtain rfl : n = k := by omega
      go_wp2
      go_ret
      exact ⟨rfl, below_drewN (Below.refl _ _) j⟩

def marksI (n : Nat) (k : Int) : List Int := (List.range n).map fun i : Nat => k + (i : Int)
set_option maxRecDepth 100000 in
set_option maxHeartbeats 800000 in
theorem markIntS_any (A : Option Addr) (n c base : Nat) (zs : List Int) (k : Int) (w : World) (ho : OwnI w base A n c zs) (hn : n ≤ 2097152) (h0 : 0 ≤ k) (h1 : k ≤ 1099511627776) :
    Calls Tryz.prog 20 #[.slice A n c, .int .i64 k] w fun e w' => e = .returned (.int .i64 (k + n)) ∧ w.grownBy w' (Value.slice A n c).ownBlock := by
  go_enter Tryz.func20, Tryz.ntmps20
  go_wp2
  go_loopw [1, 5] (fun m i wr => ∃ (t : Nat) (ys : List Int), t ≤ n ∧ i = .int .i64 t ∧ m = .int .i64 (k + t) ∧ OwnI wr base A n c ys ∧ w.grownBy wr (Value.slice A n c).ownBlock) (fun _ i _ => n - (intOf i).toNat)
  case atStart => exact ⟨0, zs, Nat.zero_le _, rfl, by go_num, ho, World.grownBy.refl _ _⟩
  case round =>
    clear ho
    obtain ⟨t, ys, ht, rfl, rfl, ho, hg⟩ := hrel
    by_cases hlt : t < n
    · obtain ⟨g, rfl⟩ : ∃ g, A = some ⟨g, 0, none⟩ := by
        rcases ho.2 with ⟨_, h⟩ | ⟨fb, _, _, h, _⟩
        · omega
        · injection h with h _ _; exact ⟨fb, h⟩
      have hf := World.ownsRow.frozenAt (h := ho) t
      obtain ⟨u, hu⟩ : ∃ u, wr.cell? ⟨g, t, none⟩ = some u := by
        rw [World.ownsRow.cellAt (h := ho) t (by omega)]; exact ⟨_, List.getElem?_eq_getElem (by have := ho.len; simp [iv]; omega)⟩
      have hs := ho.stored t (k + (t : Int))
      have HS := Lib.hid hs.1
      have HG := Lib.hid (grown_trans hg hs.2)
      clear hs hg ho
      go_wp2
      exact ⟨⟨t + 1, _, by omega, by go_num, by go_num, HS.out, HG.out⟩, by simp [intOf]; omega⟩
    · obtain rfl : n = t := by omega
      have HG := Lib.hid hg
      clear ho hg
      go_wp2
      go_ret
      exact ⟨ret_int rfl, HG.out⟩
end Go.Proofs.YtckiloacbanbmaaGreat.DOk
namespace Go.Proofs.YtckiloacbanbmaaGreat.DOk
open Go.RowKit Go.Proofs.YtckiloacbanbmaaGreat.Bytes Go.Proofs.YtckiloacbanbmaaGreat.Rows_
set_option linter.unusedVariables false
theorem OwnI.only {S : Nat → Prop} {w w' : World} {base : Nat} {A : Option Addr} {n c : Nat} {zs : List Int} (h : OwnI w base A n c zs) (on : Only S w w') (hd : ∀ i, (Value.slice A n c).ownBlock = some i → ¬ S i) : OwnI w' base A n c zs := Only.own h on hd
theorem CrashD.same {P : Prop} {room next : Int} {fs : List FileD} {ks : List LinkD} {ts : List TurnD} {m : Nat} {cs : List Int} {r f x r' f' x' : Int} {gs gs' : List FileD} {k k' : List LinkD} {t t' : List TurnD} {o o' : Value} (h : CrashD P room next fs ks ts m cs r f x gs k t o) (h' : CrashD P room next fs ks ts m cs r' f' x' gs' k' t' o') :
    r' = r ∧ f' = f ∧ x' = x ∧ gs'.map keyF = gs.map keyF ∧ k' = k ∧ t' = t ∧ o' = o := by
  rcases h with ⟨p, rfl, rfl, rfl, rfl, h1, rfl, rfl⟩ | ⟨p, rfl, rfl, rfl, rfl, rfl, rfl, rfl⟩ <;> rcases h' with ⟨p', rfl, rfl, rfl, rfl, h1', rfl, rfl⟩ | ⟨p', rfl, rfl, rfl, rfl, rfl, rfl, rfl⟩
  · exact ⟨rfl, rfl, rfl, h1'.trans h1.symm, rfl, rfl, rfl⟩
  · exact absurd p p'
  · exact absurd p' p
  · exact ⟨rfl, rfl, rfl, rfl, rfl, rfl, rfl⟩
theorem CrashD.congr {P Q : Prop} (h : P ↔ Q) {room next : Int} {fs : List FileD} {ks : List LinkD} {ts : List TurnD} {m : Nat} {cs : List Int} {r f x : Int} {gs : List FileD} {k : List LinkD} {t : List TurnD} {o : Value} {fs' : List FileD} (hk : fs.map keyF = fs'.map keyF) (hs : CrashD P room next fs ks ts m cs r f x gs k t o) : CrashD Q room next fs' ks ts m cs r f x gs k t o := by
  rcases hs with ⟨p, h1, h2, h3, h4, h5, h6⟩ | ⟨p, h1⟩
  · exact .inl ⟨h.1 p, h1, h2, h3, h4, h5.trans (cutAll_keys cs _ _ 0 (kept_keys _ _ _ hk)), h6⟩
  · exact .inr ⟨fun q => p (h.2 q), h1⟩
theorem CrashD.bool {P : Prop} {room next : Int} {fs : List FileD} {ks : List LinkD} {ts : List TurnD} {m : Nat} {cs : List Int} {r f x : Int} {gs : List FileD} {k : List LinkD} {t : List TurnD} {o : Value} (h : CrashD P room next fs ks ts m cs r f x gs k t o) : ∃ b, o = .bool b := by
  rcases h with ⟨_, h, _⟩ | ⟨_, h, _⟩
  · exact ⟨_, h⟩
  · exact ⟨_, h⟩
theorem dirAt_le (ks : List LinkD) (ts : List TurnD) : ∀ j, j ≤ ts.length → (dirAt ks (ts.take j)).length ≤ ks.length + j
  | 0, _ => Nat.le_refl _
  | j + 1, h => by
    have ih := dirAt_le ks ts j (by omega)
    rw [dirAt_snoc ks ts j (by omega)]
    have := turnD_le (dirAt ks (ts.take j)) ts[j]
    omega
theorem used_kept (ids : List Int) : ∀ (fs : List FileD), usedD (keptF ids fs) ≤ usedD fs
  | [] => Nat.le_refl _
  | x :: r => by
    have ih := used_kept ids r
    have e : ∀ (a : FileD) (l : List FileD), usedD (a :: l) = a.n + usedD l := fun a l => by unfold usedD; simp
    unfold keptF at ih ⊢
    rw [e]
    by_cases h : hasI ids x.id = true
    · rw [List.filter_cons_of_pos (by simpa using h), e]; omega
    · rw [List.filter_cons_of_neg (by simpa using h)]; omega
theorem used_cut (cs : List Int) : ∀ (fs : List FileD) (i : Nat), (∀ f ∈ fs, Safe f) → usedD (cutAll cs i fs) ≤ usedD fs
  | [], _, _ => Nat.le_refl _
  | x :: r, i, h => by
    have ih := used_cut cs r (i + 1) (fun f hf => h f (List.mem_cons_of_mem _ hf))
    have e : ∀ (a : FileD) (l : List FileD), usedD (a :: l) = a.n + usedD l := fun a l => by unfold usedD; simp
    rw [cutAll, e, e]
    have := (cutN_le (k := kAt cs i) (h x (List.mem_cons_self ..))).1
    have e2 : (cutF (kAt cs i) x).n = cutN (kAt cs i) x := rfl
    omega
theorem CrashD.size {room fuse next : Int} {fs : List FileD} {ks : List LinkD} {ts : List TurnD} {m : Nat} {cs : List Int} {r f x : Int} {gs : List FileD} {k : List LinkD} {t : List TurnD} {o : Value} (hm : m ≤ ts.length) (h : CrashD (OkS room fuse next fs ks ts) room next fs ks ts m cs r f x gs k t o) : usedD gs + gs.length + k.length + t.length ≤ usedD fs + fs.length + ks.length + ts.length := by
  rcases h with ⟨p, _, _, _, _, h, rfl, rfl⟩ | ⟨p, _, _, _, _, rfl, rfl, rfl⟩
  · have h1 := keys_len h
    have h2 := keys_used h
    rw [cutAll_len] at h1
    have h3 := kept_len ((dirAt ks (ts.take m)).map (·.2)) fs
    have h4 := used_kept ((dirAt ks (ts.take m)).map (·.2)) fs
    have h5 := used_cut cs (keptF ((dirAt ks (ts.take m)).map (·.2)) fs) 0 (fun f hf => okS_safe p f (kept_mem hf))
    have h6 := dirAt_le ks ts m hm
    simp only [List.length_nil]
    omega
  · simp [usedD]
theorem specC_own (room fuse next : Int) {nf nk nt nc cc : Nat} {fs : List FileD} {ks : List LinkD} {ts : List TurnD} (a1 : Int) {m : Nat} {cs : List Int} {W : World} {B B2 : Nat} {F1 : Option Addr} {cf1 : Nat} {K1 : Option Addr} {ck1 : Nat} {T1 : Option Addr} {ct1 : Nat} {C1 : Option Addr} {gs : List FileD}
    (hm : clampD a1 (nt : Int) = (m : Int)) (hmn : m ≤ nt) (h : OwnD W B F1 nf cf1 gs K1 nk ck1 ks T1 nt ct1 ts) (hc : OwnI W B2 C1 nc cc cs) (hcn : nc ≤ 2097152) (hk : gs.map keyF = fs.map keyF) (hn : nf + usedD fs + nk + nt ≤ 1048576) (hids : ∀ x ∈ fs, (Lit.int .i64 x.id).wf = true) (hks : ∀ x ∈ ks, x.1.size ≤ maxLen ∧ (Lit.int .i64 x.2).wf = true) (hts : ∀ x ∈ ts, x.name.size ≤ maxLen ∧ x.to_.size ≤ maxLen ∧ (Lit.int .i64 x.id).wf = true) :
    Calls Tryz.prog 16 #[.agg #[.int .i64 room, .int .i64 fuse, .int .i64 next, .slice F1 nf cf1, .slice K1 nk ck1, .slice T1 nt ct1], .int .i64 a1, .slice C1 nc cc] W (AnsDisk (CrashD (OkS room fuse next fs ks ts) room next fs ks ts m cs) W) :=
  (spec_DiskCrash_any room fuse next F1 nf cf1 K1 nk ck1 T1 nt ct1 gs ks ts a1 C1 nc cc cs m W h.f.rd h.lenF (by omega) (own_noneK h.f) h.b.rdB (fun f hf => own_none (h.b.1 f hf)) (keys_mem hk (P := fun f => (Lit.int .i64 f.id).wf = true) (fun f g e h => by show (Lit.int .i64 g.id).wf = true; rw [key_id e]; exact h) hids) (by rw [keys_used hk]; omega)
    h.l.rd h.lenL (by omega) (own_noneK h.l) hks h.t.rd h.lenT (by omega) (own_noneK h.t) hts hm hmn hc.rd hc.len hcn).mono fun e w' ha => AnsDisk.mono ha fun r f x gs' k t o hs => hs.congr (okS_iff hk) hk
theorem own_capK {w : World} {base K n c : Nat} {E : TypeId} {A : Option Addr} {xs : List Value} (h : w.ownsRow base E K (.slice A n c) n xs) : n ≤ c ∧ ((A = none ∧ n = 0 ∧ c = 0) ∨ ∃ g, A = some ⟨g, 0, none⟩) := by
  rcases h.2 with ⟨hv, h0⟩ | ⟨g, cap, cur, hv, _, _, hnc, _⟩
  · injection hv with e1 e2 e3
    exact ⟨by omega, .inl ⟨e1, by omega, by omega⟩⟩
  · injection hv with e1 e2 e3
    exact ⟨by omega, .inr ⟨g, e1⟩⟩
theorem implC_own (room fuse next : Int) {nf nk nt nc cc : Nat} {fs : List FileD} {ks : List LinkD} {ts : List TurnD} (a1 : Int) {m : Nat} {cs : List Int} {W : World} {B B2 : Nat} {F1 : Option Addr} {cf1 : Nat} {K1 : Option Addr} {ck1 : Nat} {T1 : Option Addr} {ct1 : Nat} {C1 : Option Addr} {gs : List FileD}
    (hm : clampD a1 (nt : Int) = (m : Int)) (hmn : m ≤ nt) (h : OwnD W B F1 nf cf1 gs K1 nk ck1 ks T1 nt ct1 ts) (hc : OwnI W B2 C1 nc cc cs) (hcn : nc ≤ 2097152) (hk : gs.map keyF = fs.map keyF) (hn : nf + usedD fs + nk + nt ≤ 1048576) (hids : ∀ x ∈ fs, (Lit.int .i64 x.id).wf = true) (hks : ∀ x ∈ ks, x.1.size ≤ maxLen ∧ (Lit.int .i64 x.2).wf = true) (hts : ∀ x ∈ ts, x.name.size ≤ maxLen ∧ x.to_.size ≤ maxLen ∧ (Lit.int .i64 x.id).wf = true) :
    Calls Tryz.prog 18 #[.agg #[.int .i64 room, .int .i64 fuse, .int .i64 next, .slice F1 nf cf1, .slice K1 nk ck1, .slice T1 nt ct1], .int .i64 a1, .slice C1 nc cc] W (AnsDisk (CrashD (OkS room fuse next fs ks ts) room next fs ks ts m cs) W) :=
  (impl_DiskCrash_any room fuse next F1 nf cf1 K1 nk ck1 T1 nt ct1 gs ks ts a1 C1 nc cc cs m W h.f.rd h.lenF (by omega) (own_noneK h.f) h.b.rdB (fun f hf => own_none (h.b.1 f hf)) (keys_mem hk (P := fun f => (Lit.int .i64 f.id).wf = true) (fun f g e h => by show (Lit.int .i64 g.id).wf = true; rw [key_id e]; exact h) hids) (by rw [keys_used hk]; omega)
    h.l.rd h.lenL (by omega) (own_noneK h.l) hks h.t.rd h.lenT (by omega) (own_noneK h.t) hts hm hmn (own_capK h.t).1 (own_capK h.t).2 hc.rd hc.len hcn).mono fun e w' ha => AnsDisk.mono ha fun r f x gs' k t o hs => hs.congr (okS_iff hk) hk
end Go.Proofs.YtckiloacbanbmaaGreat.DOk
