/- Texts that lay in modules of their own: HeldAll, SzDisk, DiskLawB, DoOwn, DoRel, OpHelp, DoMark. -/
import Derived.Test.YtfkdfabbpebljaaGreatKitL
import Derived.Test.YtfkdfabbpebljaaGreatKitA
import Derived.Test.YtfkdfabbpebljaaGreatKitF
import Derived.Test.YtfkdfabbpebljaaGreatKitE
import Derived.Test.YtfkdfabbpebljaaGreatKitI
import Derived.Test.YtfkdfabbpebljaaGreatKitB
import Derived.Lib.BufferWrite
import Derived.Outline
import Derived.Below
namespace Go.Proofs.YtfkdfabbpebljaaGreat.DOk
open Go.RowKit Go.Proofs.YtfkdfabbpebljaaGreat.Bytes Go.Proofs.YtfkdfabbpebljaaGreat.Rows_
open Go.Proofs.YtfkdfabbpebljaaGreat.Mt (mt mark_text)
set_option linter.unusedVariables false

theorem markT_at : ∀ (ts : List TurnD) (k : Nat) (t : Nat) (h : t < ts.length), (markT k ts)[t]? = some (mkT (k + 4 * t))
  | x :: ts, k, 0, h => rfl
  | x :: ts, k, t + 1, h => by
    have := markT_at ts (k + 4) t (by simpa using h)
    rw [markT, List.getElem?_cons_succ, this, show k + 4 + 4 * t = k + 4 * (t + 1) by omega]
theorem markT_get (ts : List TurnD) (k : Nat) (t : Nat) (h : t < ts.length) (h' : t < (markT k ts).length) : (markT k ts)[t] = mkT (k + 4 * t) := by
  have := markT_at ts k t h
  rw [List.getElem?_eq_getElem h'] at this
  exact Option.some.inj this

set_option maxRecDepth 100000 in
set_option maxHeartbeats 6400000 in
theorem heldTurnS_any (A : Option Addr) (n c : Nat) (ts : List TurnD) (k : Nat) (w : World) (hr : RdT w w.heap.size A (markT k ts)) (hl : ts.length = n) (h0 : 1 ≤ k) (h1 : k + 4 * n ≤ 1099511627776) :
    Calls Tryz.prog 48 #[.slice A n c, .int .i64 k] w fun e w' => e = .returned (.int .i64 ((k + 4 * n : Nat) : Int)) ∧ Below w.heap.size w w' := by
  have HL := Lib.hid hl
  have HR := Lib.hid hr
  clear hl hr
  go_enter Tryz.func48, Tryz.ntmps48
  go_wp2_with fail
  go_loopw [1, 5] (fun m i wr => ∃ t : Nat, t ≤ n ∧ i = .int .i64 t ∧ m = .int .i64 ((k + 4 * t : Nat) : Int) ∧ Below w.heap.size w wr) (fun _ i _ => n - (intOf i).toNat)
  case atStart => exact ⟨0, Nat.zero_le _, rfl, rfl, Below.refl _ _⟩
  case round =>
    obtain ⟨t, ht, rfl, rfl, hb⟩ := hrel
    by_cases hlt : t < n
    · have hlt' : t < ts.length := by rw [HL.out]; exact hlt
      have hlm : t < (markT k ts).length := by rw [markT_len]; exact hlt'
      have hbs := hb.size
      obtain ⟨b, o, rfl, hB, hc0, hc1, hc2, hc3⟩ := (HR.out.below (Nat.le_refl _) hb).at_ hlm
      rw [markT_get ts k t hlt' hlm] at hc0 hc1 hc2 hc3
      simp only [mkT] at hc0 hc1 hc2 hc3
      have hB2 : b < wr.heap.size := by omega
      have HM1 := Lib.hid (fun W => mark_text (k + 4 * t + 1) W (by omega) (by omega))
      have HM2 := Lib.hid (fun W => mark_text (k + 4 * t + 2) W (by omega) (by omega))
      have HB := Lib.hid hb
      have HQ2 := Lib.hid (show ((k + 4 * (t + 1) : Nat) : Int) = ((k + 4 * t : Nat) : Int) + 1 + 1 + 1 + 1 by omega)
      rw [show ((k + 4 * t + 3 : Nat) : Int) = ((k + 4 * t : Nat) : Int) + 1 + 1 + 1 by omega] at hc3
      have ht0 : (0 : Int) ≤ (t : Int) := by omega
      have ht1 : (t : Int) < (n : Int) := by omega
      have q1 : k + 4 * t + 4 ≤ 1099511627776 := by omega
      generalize k + 4 * t = kt at *
      rw [show ((kt + 1 : Nat) : Int) = (kt : Int) + 1 by omega] at HM1
      rw [show ((kt + 2 : Nat) : Int) = (kt : Int) + 1 + 1 by omega] at HM2
      generalize mt (kt + 1) = y1 at *
      generalize mt (kt + 2) = y2 at *
      have e0 : ((kt : Int) != (kt : Int)) = false := by simp
      have e3 : ((kt : Int) + 1 + 1 + 1 != (kt : Int) + 1 + 1 + 1) = false := by simp
      clear hb
      go_wp2_with fail
      go_region_with ((go_at_call 78; refine (HM1.out _).mono ?_; rintro e v1 ⟨rfl, hb1⟩; have hd1 : v1.cell? ⟨b, o + t * 4 + 1, none⟩ = some (.string y1) := (hb1.cell (p := ⟨b, o + t * 4 + 1, none⟩) hB2).trans hc1; have hd2 : v1.cell? ⟨b, o + t * 4 + 2, none⟩ = some (.string y2) := (hb1.cell (p := ⟨b, o + t * 4 + 2, none⟩) hB2).trans hc2; have hd3 : v1.cell? ⟨b, o + t * 4 + 3, none⟩ = some (.int .i64 ((kt : Int) + 1 + 1 + 1)) := (hb1.cell (p := ⟨b, o + t * 4 + 3, none⟩) hB2).trans hc3; have s1 : wr.heap.size ≤ v1.heap.size := hb1.size))
      all_goals
        have HB1 := Lib.hid (HB.out.trans ((((Below.refl wr.heap.size wr).drew.trans (show Below wr.heap.size wr.drew _ from hb1))).mono hbs))
        have hB3 : b < v1.heap.size := by omega
        clear hb1 hc0 hc1 hc2 hc3
        go_wp2_with fail
        go_region_with ((go_at_call 78; refine (HM2.out _).mono ?_; rintro e v2 ⟨rfl, hb2⟩; have hg2 : v2.cell? ⟨b, o + t * 4 + 2, none⟩ = some (.string y2) := (hb2.cell (p := ⟨b, o + t * 4 + 2, none⟩) hB3).trans hd2; have hg3 : v2.cell? ⟨b, o + t * 4 + 3, none⟩ = some (.int .i64 ((kt : Int) + 1 + 1 + 1)) := (hb2.cell (p := ⟨b, o + t * 4 + 3, none⟩) hB3).trans hd3))
        all_goals
          have HB2 := Lib.hid (HB1.out.trans ((((Below.refl v1.heap.size v1).drew.trans (show Below v1.heap.size v1.drew _ from hb2))).mono (Nat.le_trans hbs s1)))
          clear hb2 hd1 hd2 hd3
          go_wp2_with fail
          refine ⟨⟨t + 1, by omega, by go_num, ?_, HB2.out⟩, by simp [intOf]; omega⟩
          rw [HQ2.out]
    · obtain rfl : n = t := by omega
      go_wp2_with fail
      go_ret
      exact ⟨rfl, hb⟩

set_option maxRecDepth 100000 in
set_option maxHeartbeats 3200000 in
theorem heldDisk_any (room fuse next : Int) (F : Option Addr) (nf cf : Nat) (K : Option Addr) (nk ck : Nat) (T : Option Addr) (nt ct : Nat) (gs : List FileD) (ks : List LinkD) (ts : List TurnD) (k : Nat) (w : World)
    (hF : RdF w w.heap.size F (markF k gs)) (hB : RdB w w.heap.size (markF k gs)) (hK : RdL w w.heap.size K (markL (k + 2 * nf + usedD gs) ks)) (hT : RdT w w.heap.size T (markT (k + 2 * nf + usedD gs + 2 * nk) ts))
    (hf : gs.length = nf) (hk : ks.length = nk) (ht : ts.length = nt) (h0 : 1 ≤ k) (h1 : k + 2 * nf + usedD gs + 2 * nk + 4 * nt ≤ 1099511627776) :
    Calls Tryz.prog 14 #[.agg #[.int .i64 room, .int .i64 fuse, .int .i64 next, .slice F nf cf, .slice K nk ck, .slice T nt ct], .int .i64 k] w
      fun e w' => e = .returned (.int .i64 ((k + 2 * nf + usedD gs + 2 * nk + 4 * nt : Nat) : Int)) ∧ Below w.heap.size w w' := by
  have HE := Lib.hid (show endF k gs = ((k + 2 * nf + usedD gs : Nat) : Int) by unfold endF; rw [hf]; omega)
  have hb0 := Lib.hid ((Below.refl w.heap.size w).alloc (Nat.le_refl _) (.cells #[.int .i64 room, .int .i64 fuse, .int .i64 next, .slice F nf cf, .slice K nk ck, .slice T nt ct] 36))
  have HC := Lib.hid (show ∀ j v, #[Value.int .i64 room, .int .i64 fuse, .int .i64 next, .slice F nf cf, .slice K nk ck, .slice T nt ct][j]? = some v → (w.alloc (.cells #[.int .i64 room, .int .i64 fuse, .int .i64 next, .slice F nf cf, .slice K nk ck, .slice T nt ct] 36)).cell? ⟨w.heap.size, j, none⟩ = some v from fun j v h => by rw [World.cell?_alloc_at _ _ _ _ rfl]; exact h)
  have HF := Lib.hid (fun W (h : Below w.heap.size w W) => heldFileS_any F nf cf gs k W ((hF.below (Nat.le_refl _) h).more h.size) ((hB.below (Nat.le_refl _) h).more h.size) hf (by omega) (by rw [HE.out]; omega))
  generalize hk1 : k + 2 * nf + usedD gs = k1 at *
  generalize hk2 : k1 + 2 * nk = k2 at *
  have HK := Lib.hid (fun W (h : Below w.heap.size w W) => heldLinkS_any K nk ck ks k1 W ((hK.below (Nat.le_refl _) h).more h.size) hk (by omega) (by omega))
  have HT := Lib.hid (fun W (h : Below w.heap.size w W) => heldTurnS_any T nt ct ts k2 W ((hT.below (Nat.le_refl _) h).more h.size) ht (by omega) (by omega))
  rw [hk2] at HK
  clear hF hB hK hT
  go_enter Tryz.func14, Tryz.ntmps14
  go_wp2_with fail
  refine (HF.out _ hb0.out).mono ?_
  rintro e v1 ⟨rfl, rfl⟩
  rw [HE.out]
  have c4 := HC.out 4 _ rfl
  have c5 := HC.out 5 _ rfl
  go_wp2_with fail
  refine (HK.out _ hb0.out).mono ?_
  rintro e v2 ⟨rfl, hb2⟩
  have HB2 := Lib.hid (hb0.out.trans (hb2.mono (by simp)))
  have d5 := (hb2.cell (p := ⟨w.heap.size, 5, none⟩) (by simp)).trans c5
  clear hb2 c4 c5
  go_wp2_with fail
  refine (HT.out _ HB2.out).mono ?_
  rintro e v3 ⟨rfl, hb3⟩
  have HB3 := Lib.hid (HB2.out.trans (hb3.mono HB2.out.size))
  clear hb3 d5
  go_wp2_with fail
  go_ret
  exact ⟨ret_int (by omega), HB3.out⟩
end Go.Proofs.YtfkdfabbpebljaaGreat.DOk
namespace Go.Proofs.YtfkdfabbpebljaaGreat.DOk
open Go.RowKit Go.Proofs.YtfkdfabbpebljaaGreat.Bytes Go.Proofs.YtfkdfabbpebljaaGreat.Rows_
set_option linter.unusedVariables false

/-- what a size helper answers: -1, or what is left, which P says of -/
def Sz (P : Int → Prop) (B : Nat) (w : World) (e : Ending) (w' : World) : Prop := ∃ r, e = .returned (.int .i64 r) ∧ (r = -1 ∨ (0 ≤ r ∧ P r)) ∧ Below B w w'
theorem sz_no {P : Int → Prop} {B : Nat} {w w' : World} (hb : Below B w w') : Sz P B w (.returned (.int .i64 (-1))) w' := ⟨-1, rfl, .inl rfl, hb⟩
theorem sz_yes {P : Int → Prop} {B : Nat} {w w' : World} {r : Int} (h0 : 0 ≤ r) (h : P r) (hb : Below B w w') : Sz P B w (.returned (.int .i64 r)) w' := ⟨r, rfl, .inr ⟨h0, h⟩, hb⟩

set_option maxRecDepth 100000 in
set_option maxHeartbeats 800000 in
theorem szFile_any (id : Int) (A : Option Addr) (n c : Nat) (safe left : Int) (w : World) (hn : n ≤ 9223372036854775807) (h0 : 0 ≤ left) (h1 : left ≤ 1048576) :
    Calls Tryz.prog 49 #[.agg #[.int .i64 id, .slice A n c, .int .i64 safe], .int .i64 left] w (Sz (fun r => r = left - n) w.heap.size w) := by
  have hS := Lib.hid (fun W => OpOk.szByteS_any A n c left W hn h0 h1)
  have hb0 := Lib.hid ((Below.refl w.heap.size w).alloc (Nat.le_refl _) (.cells #[.int .i64 id, .slice A n c, .int .i64 safe] 79))
  by_cases h : left < n
  · rw [if_pos h] at hS
    go_enter Tryz.func49, Tryz.ntmps49
    go_wp2_with fail
    refine (hS.out _).mono ?_
    rintro e w' ⟨rfl, rfl⟩
    go_wp2_with fail
    go_ret
    exact sz_no hb0.out
  · rw [if_neg h] at hS
    have h2 : 0 ≤ left - n := by omega
    go_enter Tryz.func49, Tryz.ntmps49
    go_wp2_with fail
    refine (hS.out _).mono ?_
    rintro e w' ⟨rfl, rfl⟩
    go_wp2_with fail
    go_ret
    exact sz_yes h2 rfl hb0.out

set_option maxRecDepth 100000 in
set_option maxHeartbeats 800000 in
theorem szLink_any (nm : ByteArray) (id left : Int) (w : World) (hn : nm.size ≤ 9223372036854775807) (h0 : 0 ≤ left) (h1 : left ≤ 1048576) :
    Calls Tryz.prog 50 #[.agg #[.string nm, .int .i64 id], .int .i64 left] w (Sz (fun r => r ≤ left) w.heap.size w) := by
  have hb0 := Lib.hid ((Below.refl w.heap.size w).alloc (Nat.le_refl _) (.cells #[.string nm, .int .i64 id] 82))
  by_cases h : left - (nm.size : Int) < 0
  · go_enter Tryz.func50, Tryz.ntmps50
    go_wp2_with fail
    go_ret
    exact sz_no hb0.out
  · have h2 : 0 ≤ left - (nm.size : Int) := by omega
    go_enter Tryz.func50, Tryz.ntmps50
    go_wp2_with fail
    go_ret
    exact sz_yes h2 (by omega) hb0.out

set_option maxRecDepth 100000 in
set_option maxHeartbeats 800000 in
theorem szTurn_any (kind : Int) (nm to_ : ByteArray) (id left : Int) (w : World) (hn : nm.size ≤ 9223372036854775807) (hn2 : to_.size ≤ 9223372036854775807) (h0 : 0 ≤ left) (h1 : left ≤ 1048576) :
    Calls Tryz.prog 51 #[.agg #[.int .i64 kind, .string nm, .string to_, .int .i64 id], .int .i64 left] w (Sz (fun r => r ≤ left) w.heap.size w) := by
  have hb0 := Lib.hid ((Below.refl w.heap.size w).alloc (Nat.le_refl _) (.cells #[.int .i64 kind, .string nm, .string to_, .int .i64 id] 84))
  by_cases h : left - (nm.size : Int) < 0
  · go_enter Tryz.func51, Tryz.ntmps51
    go_wp2_with fail
    go_ret
    exact sz_no hb0.out
  · have h2 : 0 ≤ left - (nm.size : Int) := by omega
    by_cases h' : left - (nm.size : Int) - (to_.size : Int) < 0
    · go_enter Tryz.func51, Tryz.ntmps51
      go_wp2_with fail
      go_ret
      exact sz_no hb0.out
    · have h3 : 0 ≤ left - (nm.size : Int) - (to_.size : Int) := by omega
      go_enter Tryz.func51, Tryz.ntmps51
      go_wp2_with fail
      go_ret
      exact sz_yes h3 (by omega) hb0.out

set_option maxRecDepth 100000 in
set_option maxHeartbeats 1600000 in
theorem szFileS_any (F : Option Addr) (nf cf : Nat) (fs : List FileD) (left : Int) (w : World) (hf : RdF w w.heap.size F fs) (hfl : fs.length = nf) (hfn : nf ≤ 9223372036854775807) (hfs : ∀ x ∈ fs, x.n ≤ 9223372036854775807) (h0 : 0 ≤ left) (h1 : left ≤ 1048576) :
    Calls Tryz.prog 15 #[.slice F nf cf, .int .i64 left] w (Sz (fun r => r = left - nf - (usedD fs : Nat)) w.heap.size w) := by
  have HF := Lib.hid hf
  have HFL := Lib.hid hfl
  have HFS := Lib.hid hfs
  clear hf hfl hfs
  by_cases hneg : left - (nf : Int) < 0
  · go_enter Tryz.func15, Tryz.ntmps15
    go_wp2_with fail
    go_ret
    exact sz_no (Below.refl _ _)
  · have hpos : 0 ≤ left - (nf : Int) := by omega
    go_enter Tryz.func15, Tryz.ntmps15
    go_wp2_with fail
    go_loopw [1, 5] (fun l i wr => ∃ (k : Nat) (L : Int), k ≤ nf ∧ i = .int .i64 k ∧ l = .int .i64 L ∧ 0 ≤ L ∧ L ≤ 1048576 ∧ Hid (L = left - nf - (usedD (fs.take k) : Nat)) ∧ Below w.heap.size w wr) (fun _ i _ => nf - (intOf i).toNat)
    case atStart => exact ⟨0, _, Nat.zero_le _, rfl, rfl, hpos, by omega, Lib.hid (by have : usedD (fs.take 0) = 0 := rfl; omega), Below.refl _ _⟩
    case round =>
      obtain ⟨k, L, hk, rfl, rfl, hL0, hL1, HL, hb⟩ := hrel
      have hz : w.heap.size ≤ wr.heap.size := hb.size
      by_cases hlt : k < nf
      · have hlt' : k < fs.length := by rw [HFL.out]; exact hlt
        obtain ⟨b, o, rfl, hB, hc0, hc1, hc2⟩ := (HF.out.below (Nat.le_refl _) hb).at_ hlt'
        have HB := Lib.hid hb
        have HS := Lib.hid (used_snoc fs k hlt')
        have hSz := Lib.hid (fun W => szFile_any fs[k].id fs[k].A fs[k].n fs[k].c fs[k].safe L W (HFS.out _ (List.getElem_mem hlt')) hL0 hL1)
        clear hb
        generalize fs[k].id = x0 at *
        generalize fs[k].A = x1 at *
        generalize fs[k].n = x2 at *
        generalize fs[k].c = x3 at *
        generalize fs[k].safe = x4 at *
        go_wp2_with fail
        refine (hSz.out _).mono ?_
        rintro e v ⟨r, rfl, hr, hb1⟩
        have HB1 := Lib.hid (HB.out.trans (hb1.mono hz))
        clear hb1
        rcases hr with rfl | ⟨hr0, hr1⟩
        · go_wp2_with fail
          go_ret
          exact sz_no HB1.out
        · have HR1 := Lib.hid (show r = left - nf - (usedD (fs.take (k + 1)) : Nat) by rw [hr1, HL.out, HS.out]; omega)
          have hr2 : r ≤ 1048576 := by omega
          clear hr1
          go_wp2_with fail
          exact ⟨⟨k + 1, r, by omega, by go_num, rfl, hr0, hr2, HR1, HB1.out⟩, by simp [intOf]; omega⟩
      · obtain rfl : nf = k := by omega
        have e : fs.take nf = fs := List.take_of_length_le (by rw [HFL.out]; exact Nat.le_refl _)
        rw [e] at HL
        have HB := Lib.hid hb
        clear hb
        go_wp2_with fail
        go_ret
        exact sz_yes hL0 HL.out HB.out

set_option maxRecDepth 100000 in
set_option maxHeartbeats 1600000 in
theorem szLinkS_any (K : Option Addr) (nk ck : Nat) (ks : List LinkD) (left : Int) (w : World) (hk : RdL w w.heap.size K ks) (hkl : ks.length = nk) (hkn : nk ≤ 9223372036854775807) (hks : ∀ x ∈ ks, x.1.size ≤ 9223372036854775807) (h0 : 0 ≤ left) (h1 : left ≤ 1048576) :
    Calls Tryz.prog 16 #[.slice K nk ck, .int .i64 left] w (Sz (fun r => r ≤ left - nk) w.heap.size w) := by
  have HF := Lib.hid hk
  have HFL := Lib.hid hkl
  have HFS := Lib.hid hks
  clear hk hkl hks
  by_cases hneg : left - (nk : Int) < 0
  · go_enter Tryz.func16, Tryz.ntmps16
    go_wp2_with fail
    go_ret
    exact sz_no (Below.refl _ _)
  · have hpos : 0 ≤ left - (nk : Int) := by omega
    go_enter Tryz.func16, Tryz.ntmps16
    go_wp2_with fail
    go_loopw [1, 5] (fun l i wr => ∃ (k : Nat) (L : Int), k ≤ nk ∧ i = .int .i64 k ∧ l = .int .i64 L ∧ 0 ≤ L ∧ L ≤ left - nk ∧ Below w.heap.size w wr) (fun _ i _ => nk - (intOf i).toNat)
    case atStart => exact ⟨0, _, Nat.zero_le _, rfl, rfl, hpos, Int.le_refl _, Below.refl _ _⟩
    case round =>
      obtain ⟨k, L, hk, rfl, rfl, hL0, hL1, hb⟩ := hrel
      have hz : w.heap.size ≤ wr.heap.size := hb.size
      by_cases hlt : k < nk
      · have hlt' : k < ks.length := by rw [HFL.out]; exact hlt
        obtain ⟨b, o, rfl, hB, hc0, hc1⟩ := (HF.out.below (Nat.le_refl _) hb).at_ hlt'
        have HB := Lib.hid hb
        have hSz := Lib.hid (fun W => szLink_any ks[k].1 ks[k].2 L W (HFS.out _ (List.getElem_mem hlt')) hL0 (by omega))
        clear hb
        generalize ks[k].1 = x0 at *
        generalize ks[k].2 = x1 at *
        go_wp2_with fail
        refine (hSz.out _).mono ?_
        rintro e v ⟨r, rfl, hr, hb1⟩
        have HB1 := Lib.hid (HB.out.trans (hb1.mono hz))
        clear hb1
        rcases hr with rfl | ⟨hr0, hr1⟩
        · go_wp2_with fail
          go_ret
          exact sz_no HB1.out
        · have hr2 : r ≤ left - nk := by omega
          go_wp2_with fail
          exact ⟨⟨k + 1, r, by omega, by go_num, rfl, hr0, hr2, HB1.out⟩, by simp [intOf]; omega⟩
      · obtain rfl : nk = k := by omega
        have HB := Lib.hid hb
        clear hb
        go_wp2_with fail
        go_ret
        exact sz_yes hL0 hL1 HB.out

set_option maxRecDepth 100000 in
set_option maxHeartbeats 1600000 in
theorem szTurnS_any (T : Option Addr) (nt ct : Nat) (ts : List TurnD) (left : Int) (w : World) (hk : RdT w w.heap.size T ts) (hkl : ts.length = nt) (hkn : nt ≤ 9223372036854775807) (hks : ∀ x ∈ ts, x.name.size ≤ 9223372036854775807 ∧ x.to_.size ≤ 9223372036854775807) (h0 : 0 ≤ left) (h1 : left ≤ 1048576) :
    Calls Tryz.prog 17 #[.slice T nt ct, .int .i64 left] w (Sz (fun r => r ≤ left - nt) w.heap.size w) := by
  have HF := Lib.hid hk
  have HFL := Lib.hid hkl
  have HFS := Lib.hid hks
  clear hk hkl hks
  by_cases hneg : left - (nt : Int) < 0
  · go_enter Tryz.func17, Tryz.ntmps17
    go_wp2_with fail
    go_ret
    exact sz_no (Below.refl _ _)
  · have hpos : 0 ≤ left - (nt : Int) := by omega
    go_enter Tryz.func17, Tryz.ntmps17
    go_wp2_with fail
    go_loopw [1, 5] (fun l i wr => ∃ (k : Nat) (L : Int), k ≤ nt ∧ i = .int .i64 k ∧ l = .int .i64 L ∧ 0 ≤ L ∧ L ≤ left - nt ∧ Below w.heap.size w wr) (fun _ i _ => nt - (intOf i).toNat)
    case atStart => exact ⟨0, _, Nat.zero_le _, rfl, rfl, hpos, Int.le_refl _, Below.refl _ _⟩
    case round =>
      obtain ⟨k, L, hk, rfl, rfl, hL0, hL1, hb⟩ := hrel
      have hz : w.heap.size ≤ wr.heap.size := hb.size
      by_cases hlt : k < nt
      · have hlt' : k < ts.length := by rw [HFL.out]; exact hlt
        obtain ⟨b, o, rfl, hB, hc0, hc1, hc2, hc3⟩ := (HF.out.below (Nat.le_refl _) hb).at_ hlt'
        have HB := Lib.hid hb
        have hSz := Lib.hid (fun W => szTurn_any ts[k].kind ts[k].name ts[k].to_ ts[k].id L W (HFS.out _ (List.getElem_mem hlt')).1 (HFS.out _ (List.getElem_mem hlt')).2 hL0 (by omega))
        clear hb
        generalize ts[k].kind = x0 at *
        generalize ts[k].name = x1 at *
        generalize ts[k].to_ = x2 at *
        generalize ts[k].id = x3 at *
        go_wp2_with fail
        refine (hSz.out _).mono ?_
        rintro e v ⟨r, rfl, hr, hb1⟩
        have HB1 := Lib.hid (HB.out.trans (hb1.mono hz))
        clear hb1
        rcases hr with rfl | ⟨hr0, hr1⟩
        · go_wp2_with fail
          go_ret
          exact sz_no HB1.out
        · have hr2 : r ≤ left - nt := by omega
          go_wp2_with fail
          exact ⟨⟨k + 1, r, by omega, by go_num, rfl, hr0, hr2, HB1.out⟩, by simp [intOf]; omega⟩
      · obtain rfl : nt = k := by omega
        have HB := Lib.hid hb
        clear hb
        go_wp2_with fail
        go_ret
        exact sz_yes hL0 hL1 HB.out

set_option maxRecDepth 100000 in
set_option maxHeartbeats 1600000 in
theorem szDisk_any (room fuse next : Int) (F : Option Addr) (nf cf : Nat) (K : Option Addr) (nk ck : Nat) (T : Option Addr) (nt ct : Nat) (fs : List FileD) (ks : List LinkD) (ts : List TurnD) (left : Int) (w : World)
    (hf : RdF w w.heap.size F fs) (hfl : fs.length = nf) (hfn : nf ≤ 9223372036854775807) (hfs : ∀ x ∈ fs, x.n ≤ 9223372036854775807)
    (hk : RdL w w.heap.size K ks) (hkl : ks.length = nk) (hkn : nk ≤ 9223372036854775807) (hks : ∀ x ∈ ks, x.1.size ≤ 9223372036854775807)
    (ht : RdT w w.heap.size T ts) (htl : ts.length = nt) (htn : nt ≤ 9223372036854775807) (hts : ∀ x ∈ ts, x.name.size ≤ 9223372036854775807 ∧ x.to_.size ≤ 9223372036854775807) (h0 : 0 ≤ left) (h1 : left ≤ 1048576) :
    Calls Tryz.prog 4 #[.agg #[.int .i64 room, .int .i64 fuse, .int .i64 next, .slice F nf cf, .slice K nk ck, .slice T nt ct], .int .i64 left] w (Sz (fun r => r ≤ left - nf - (usedD fs : Nat) - nk - nt) w.heap.size w) := by
  have hb0 := Lib.hid ((Below.refl w.heap.size w).alloc (Nat.le_refl _) (.cells #[.int .i64 room, .int .i64 fuse, .int .i64 next, .slice F nf cf, .slice K nk ck, .slice T nt ct] 26))
  have hbC := Lib.hid (show ∀ j v, #[Value.int .i64 room, .int .i64 fuse, .int .i64 next, .slice F nf cf, .slice K nk ck, .slice T nt ct][j]? = some v → (w.alloc (.cells #[.int .i64 room, .int .i64 fuse, .int .i64 next, .slice F nf cf, .slice K nk ck, .slice T nt ct] 26)).cell? ⟨w.heap.size, j, none⟩ = some v from fun j v h => by rw [World.cell?_alloc_at _ _ _ _ rfl]; exact h)
  have RF := Lib.hid (fun W (h : Below w.heap.size w W) => (hf.below (Nat.le_refl _) h).more h.size)
  have RL := Lib.hid (fun W (h : Below w.heap.size w W) => (hk.below (Nat.le_refl _) h).more h.size)
  have RT := Lib.hid (fun W (h : Below w.heap.size w W) => (ht.below (Nat.le_refl _) h).more h.size)
  have HF := Lib.hid (fun W (h : RdF W W.heap.size F fs) => szFileS_any F nf cf fs left W h hfl hfn hfs h0 h1)
  have HL := Lib.hid (fun W (l : Int) (h : RdL W W.heap.size K ks) (a : 0 ≤ l) (b : l ≤ 1048576) => szLinkS_any K nk ck ks l W h hkl hkn hks a b)
  have HT := Lib.hid (fun W (l : Int) (h : RdT W W.heap.size T ts) (a : 0 ≤ l) (b : l ≤ 1048576) => szTurnS_any T nt ct ts l W h htl htn hts a b)
  clear hf hfl hfs hk hkl hks ht htl hts
  go_enter Tryz.func4, Tryz.ntmps4
  go_wp2_with fail
  refine (HF.out _ (RF.out _ hb0.out)).mono ?_
  rintro e v1 ⟨r1, rfl, hr1, hb1⟩
  have hbm1 : Below (w.heap.size + 1) _ v1 := hb1.mono (by simp)
  have p4 : v1.cell? ⟨w.heap.size, 4, none⟩ = some (.slice K nk ck) := (hbm1.cell (p := ⟨w.heap.size, 4, none⟩) (by show w.heap.size < w.heap.size + 1; omega)).trans (hbC.out 4 _ rfl)
  have p5 : v1.cell? ⟨w.heap.size, 5, none⟩ = some (.slice T nt ct) := (hbm1.cell (p := ⟨w.heap.size, 5, none⟩) (by show w.heap.size < w.heap.size + 1; omega)).trans (hbC.out 5 _ rfl)
  have BW1 := Lib.hid (hb0.out.trans (hbm1.mono (by omega)))
  have hz1 : w.heap.size < v1.heap.size := by have := hb1.size; simp at this; omega
  clear hb1 hbm1
  rcases hr1 with rfl | ⟨hr1, he1⟩
  · go_wp2_with fail
    go_ret
    exact sz_no BW1.out
  · have hle1 : r1 ≤ left - nf - (usedD fs : Nat) := by omega
    have hle0 : r1 ≤ 1048576 := by omega
    have HU := Lib.hid (show ∀ r : Int, r ≤ r1 - nk - nt → r ≤ left - nf - (usedD fs : Nat) - nk - nt from fun r h => by omega)
    clear he1 hle1
    go_wp2_with fail
    refine (HL.out _ r1 (RL.out _ BW1.out) hr1 hle0).mono ?_
    rintro e v2 ⟨r2, rfl, hr2, hb2⟩
    have q5 : v2.cell? ⟨w.heap.size, 5, none⟩ = some (.slice T nt ct) := (hb2.cell (p := ⟨w.heap.size, 5, none⟩) hz1).trans p5
    have BW2 := Lib.hid (BW1.out.trans (hb2.mono (by omega)))
    clear hb2 p4 p5
    rcases hr2 with rfl | ⟨hr2, he2⟩
    · go_wp2_with fail
      go_ret
      exact sz_no BW2.out
    · go_wp2_with fail
      refine (HT.out _ r2 (RT.out _ BW2.out) hr2 (by omega)).mono ?_
      rintro e v3 ⟨r3, rfl, hr3, hb3⟩
      have hz2 : w.heap.size ≤ v2.heap.size := BW2.out.size
      have BW3 := Lib.hid (BW2.out.trans (hb3.mono (by omega)))
      clear hb3 q5
      rcases hr3 with rfl | ⟨hr3, he3⟩
      · go_wp2_with fail
        go_ret
        exact sz_no BW3.out
      · go_wp2_with fail
        go_ret
        exact sz_yes hr3 (HU.out _ (by omega)) BW3.out
end Go.Proofs.YtfkdfabbpebljaaGreat.DOk
namespace Go.Proofs.YtfkdfabbpebljaaGreat.DOk
open Go.RowKit Go.Proofs.YtfkdfabbpebljaaGreat.Bytes Go.Proofs.YtfkdfabbpebljaaGreat.Rows_
set_option linter.unusedVariables false
theorem heldD {w : World} {base : Nat} (room fuse next : Int) {F : Option Addr} {nf cf : Nat} {K : Option Addr} {nk ck : Nat} {T : Option Addr} {nt ct : Nat} (gs : List FileD) (ks : List LinkD) (ts : List TurnD) (k : Nat)
    (h : OwnD w base F nf cf (markF k gs) K nk ck (markL (k + 2 * nf + usedD gs) ks) T nt ct (markT (k + 2 * nf + usedD gs + 2 * nk) ts)) (hf : gs.length = nf) (hk : ks.length = nk) (ht : ts.length = nt) (h0 : 1 ≤ k) (h1 : k + 2 * nf + usedD gs + 2 * nk + 4 * nt ≤ 1099511627776) :
    Calls Tryz.prog 14 #[.agg #[.int .i64 room, .int .i64 fuse, .int .i64 next, .slice F nf cf, .slice K nk ck, .slice T nt ct], .int .i64 k] w
      fun e w' => e = .returned (.int .i64 ((k + 2 * nf + usedD gs + 2 * nk + 4 * nt : Nat) : Int)) ∧ Below w.heap.size w w' :=
  heldDisk_any room fuse next F nf cf K nk ck T nt ct gs ks ts k w h.f.rd h.b.rdB h.l.rd h.t.rd hf hk ht h0 h1
theorem AnsDisk.mono {D E : Int → Int → Int → List FileD → List LinkD → List TurnD → Value → Prop} {w w' : World} {e : Ending} (h : AnsDisk D w e w') (hi : ∀ r f x gs k t o, D r f x gs k t o → E r f x gs k t o) : AnsDisk E w e w' := by
  obtain ⟨r, f, x, F, nf, cf, gs, K, nk, ck, ks, T, nt, ct, ts, o, h1, h2, h3, h4⟩ := h
  exact ⟨r, f, x, F, nf, cf, gs, K, nk, ck, ks, T, nt, ct, ts, o, h1, h2, hi _ _ _ _ _ _ _ h3, h4⟩
end Go.Proofs.YtfkdfabbpebljaaGreat.DOk
namespace Go.Proofs.YtfkdfabbpebljaaGreat.DOk
open Go.RowKit Go.Proofs.YtfkdfabbpebljaaGreat.Bytes Go.Proofs.YtfkdfabbpebljaaGreat.Rows_
set_option linter.unusedVariables false
section
variable {P : Prop} {room fuse next : Int} {fs : List FileD} {ks : List LinkD} {ts : List TurnD} {k : Int} {name to_ : ByteArray} {ys : List Int} {n : Nat}
theorem DoD.same {r f x r' f' x' : Int} {gs gs' : List FileD} {l l' : List LinkD} {t t' : List TurnD} {o o' : Value} (h : DoD P room fuse next fs ks ts k name to_ ys n r f x gs l t o) (h' : DoD P room fuse next fs ks ts k name to_ ys n r' f' x' gs' l' t' o') :
    r' = r ∧ f' = f ∧ x' = x ∧ gs'.map keyF = gs.map keyF ∧ l' = l ∧ t' = t ∧ o' = o := by
  rcases h with ⟨p, c, rfl, rfl, rfl, rfl, h1, rfl, rfl⟩ | ⟨p, c, rfl, rfl, rfl, rfl, h1, rfl, rfl⟩ | ⟨p, rfl, rfl, rfl, rfl, rfl, rfl, rfl⟩ <;> rcases h' with ⟨p', c', rfl, rfl, rfl, rfl, h1', rfl, rfl⟩ | ⟨p', c', rfl, rfl, rfl, rfl, h1', rfl, rfl⟩ | ⟨p', rfl, rfl, rfl, rfl, rfl, rfl, rfl⟩
  · exact ⟨rfl, rfl, rfl, h1'.trans h1.symm, rfl, rfl, rfl⟩
  · exact absurd c' c
  · exact absurd p p'
  · exact absurd c c'
  · exact ⟨rfl, rfl, rfl, h1'.trans h1.symm, rfl, rfl, rfl⟩
  · exact absurd p p'
  · exact absurd p' p
  · exact absurd p' p
  · exact ⟨rfl, rfl, rfl, rfl, rfl, rfl, rfl⟩
theorem DoD.congr {Q : Prop} (h : P ↔ Q) {r f x : Int} {gs : List FileD} {l : List LinkD} {t : List TurnD} {o : Value} {fs' : List FileD} (hk : fs.map keyF = fs'.map keyF) (hs : DoD P room fuse next fs ks ts k name to_ ys n r f x gs l t o) : DoD Q room fuse next fs' ks ts k name to_ ys n r f x gs l t o := by
  have hl := keys_len hk
  have hu := keys_used hk
  unfold DoD at hs ⊢
  rw [hl] at hs
  rcases hs with ⟨p, c, h2, h3, h4, h5, h6, h7⟩ | ⟨p, c, h2, h3, h4, h5, h6, h7⟩ | ⟨p, h1⟩
  · exact .inl ⟨h.1 p, c, h2, h3, h4, h5, h6.trans hk, h7⟩
  · exact .inr (.inl ⟨h.1 p, c, by rw [← hu]; exact h2, h3, h4, h5, h6.trans (doneF_keys k room next _ _ ys n hk), h7⟩)
  · exact .inr (.inr ⟨fun q => p (h.2 q), h1⟩)
theorem DoD.int {r f x : Int} {gs : List FileD} {l : List LinkD} {t : List TurnD} {o : Value} (h : DoD P room fuse next fs ks ts k name to_ ys n r f x gs l t o) : ∃ z, o = .int .i64 z := by
  rcases h with ⟨_, _, h, _⟩ | ⟨_, _, h, _⟩ | ⟨_, h, _⟩ <;> exact ⟨_, h⟩
end
theorem putF_len (z : Int) (h : FileD → FileD) : ∀ fs : List FileD, (putF z h fs).length = fs.length
  | [] => rfl
  | f :: r => by
    unfold putF
    split
    · rfl
    · rw [List.length_cons, List.length_cons, putF_len z h r]
theorem used_cons (a : FileD) (l : List FileD) : usedD (a :: l) = a.n + usedD l := by unfold usedD; simp
theorem putF_used (z : Int) (h : FileD → FileD) (m : Nat) (hm : ∀ f, (h f).n ≤ f.n + m) : ∀ fs : List FileD, usedD (putF z h fs) ≤ usedD fs + m
  | [] => by unfold putF; omega
  | f :: r => by
    have ih := putF_used z h m hm r
    have h1 := hm f
    unfold putF
    split
    · rw [used_cons, used_cons]; omega
    · rw [used_cons, used_cons]; omega
theorem used_keptD (ids : List Int) : ∀ (fs : List FileD), usedD (keptF ids fs) ≤ usedD fs
  | [] => Nat.le_refl _
  | x :: r => by
    have ih := used_keptD ids r
    unfold keptF at ih ⊢
    rw [used_cons]
    by_cases h : hasI ids x.id = true
    · rw [List.filter_cons_of_pos (by simpa using h), used_cons]; omega
    · rw [List.filter_cons_of_neg (by simpa using h)]; omega
theorem used_app (a b : List FileD) : usedD (a ++ b) = usedD a + usedD b := by unfold usedD; simp
theorem dirAt_leD (ks : List LinkD) (ts : List TurnD) : ∀ j, j ≤ ts.length → (dirAt ks (ts.take j)).length ≤ ks.length + j
  | 0, _ => Nat.le_refl _
  | j + 1, h => by
    have ih := dirAt_leD ks ts j (by omega)
    rw [dirAt_snoc ks ts j (by omega)]
    have := turnD_le (dirAt ks (ts.take j)) ts[j]
    omega
theorem fitD_room {room : Int} {U n : Nat} (h : (U : Int) ≤ room) : (U : Int) + (fitD room U n : Nat) ≤ room := by
  unfold fitD
  split <;> omega
theorem doneF_size {room fuse next : Int} {fs : List FileD} {ks : List LinkD} {ts : List TurnD} (hP : OkS room fuse next fs ks ts) (k z : Int) (l : List LinkD) (ys : List Int) (n : Nat) : usedD (doneF k room next z l ys n fs) ≤ 400000 ∧ (doneF k room next z l ys n fs).length ≤ 11 := by
  have h1 := hP.1
  unfold NumI at h1
  have h2 : ((usedD fs : Nat) : Int) ≤ room := hP.2.2.2.2.1
  have h3 := hP.2.1
  have h4 := fitD_room (n := n) h2
  unfold doneF
  split
  · rw [used_app, List.length_append]
    have : usedD [(⟨next, none, 0, 0, 0, []⟩ : FileD)] = 0 := rfl
    simp only [List.length_cons, List.length_nil]
    omega
  · split
    · have := putF_used z (growF (fitD room (usedD fs) n) ys) (fitD room (usedD fs) n) (fun f => Nat.le_refl _) fs
      rw [putF_len]
      omega
    · split
      · have := putF_used z syncF 0 (fun f => Nat.le_refl _) fs
        rw [putF_len]
        omega
      · split
        · have := used_keptD (l.map (·.2)) fs
          have := kept_len (l.map (·.2)) fs
          omega
        · omega
theorem DoD.size {Q : Prop} {room fuse next : Int} {fs : List FileD} {ks : List LinkD} {ts : List TurnD} {k : Int} {name to_ : ByteArray} {ys : List Int} {n : Nat} {r f x : Int} {gs : List FileD} {l : List LinkD} {t : List TurnD} {o : Value} (h : DoD (OkS room fuse next fs ks ts ∧ Q) room fuse next fs ks ts k name to_ ys n r f x gs l t o) : usedD gs + gs.length + l.length + t.length ≤ 1048576 := by
  rcases h with ⟨p, c, rfl, rfl, rfl, rfl, h1, rfl, rfl⟩ | ⟨p, c, rfl, rfl, rfl, rfl, h1, rfl, rfl⟩ | ⟨p, rfl, rfl, rfl, rfl, rfl, rfl, rfl⟩
  · have e1 := keys_len h1
    have e2 := keys_used h1
    have h1 := p.1.1
    unfold NumI at h1
    have h2 : ((usedD fs : Nat) : Int) ≤ _ := p.1.2.2.2.2.1
    have h3 := p.1.2.1
    have h4 := p.1.2.2.1
    have h5 := p.1.2.2.2.1
    omega
  · have e1 := keys_len h1
    have e2 := keys_used h1
    obtain ⟨e3, e4⟩ := doneF_size p.1 k (findD (dirAt ks ts) name.toList) (dirAt ks ts) ys n
    have h4 := p.1.2.2.1
    have h5 := p.1.2.2.2.1
    have h6 := dirAt_leD ks ts ts.length (Nat.le_refl _)
    rw [List.take_length] at h6
    have h7 : (doneL k (dirAt ks ts) ks).length ≤ 40 := by unfold doneL; split <;> omega
    have h8 : (doneT k name to_ next ts).length ≤ 31 := by
      unfold doneT
      split
      · simp; omega
      · split
        · simp; omega
        · split
          · simp; omega
          · split
            · simp
            · omega
    omega
  · simp [usedD]
section
variable (room fuse next : Int) {nf nk nt : Nat} {fs : List FileD} {ks : List LinkD} {ts : List TurnD} (k : Int) (name to_ : ByteArray) {n c : Nat} {ys : List Int} {W : World} {B B2 : Nat} {F1 : Option Addr} {cf1 : Nat} {K1 : Option Addr} {ck1 : Nat} {T1 : Option Addr} {ct1 : Nat} {A : Option Addr} {gs : List FileD}
theorem specDo_own (h1 : name.size ≤ maxLen) (h2 : to_.size ≤ maxLen) (h : OwnD W B F1 nf cf1 gs K1 nk ck1 ks T1 nt ct1 ts) (hc : Own W B2 A n c ys) (hcn : n ≤ 1048576) (hk : gs.map keyF = fs.map keyF) (hn : nf + usedD fs + nk + nt ≤ 1048576) (hids : ∀ x ∈ fs, (Lit.int .i64 x.id).wf = true) (hks : ∀ x ∈ ks, x.1.size ≤ maxLen ∧ (Lit.int .i64 x.2).wf = true) (hts : ∀ x ∈ ts, x.name.size ≤ maxLen ∧ x.to_.size ≤ maxLen ∧ (Lit.int .i64 x.id).wf = true) :
    Calls Tryz.prog 6 #[.agg #[.int .i64 room, .int .i64 fuse, .int .i64 next, .slice F1 nf cf1, .slice K1 nk ck1, .slice T1 nt ct1], .agg #[.int .i64 k, .string name, .string to_, .slice A n c]] W (AnsDisk (DoD (OkS room fuse next fs ks ts ∧ opQ k name to_ n = true) room fuse next fs ks ts k name to_ ys n) W) :=
  (spec_DiskDo_any room fuse next F1 nf cf1 K1 nk ck1 T1 nt ct1 gs ks ts k name to_ A n c ys W h.f.rd h.lenF (by omega) (own_noneK h.f) h.b.rdB (fun f hf => own_none (h.b.1 f hf)) (keys_mem hk (P := fun f => (Lit.int .i64 f.id).wf = true) (fun f g e h => by show (Lit.int .i64 g.id).wf = true; rw [key_id e]; exact h) hids) (by rw [keys_used hk]; omega)
    h.l.rd h.lenL (by omega) (own_noneK h.l) hks h.t.rd h.lenT (by omega) (own_noneK h.t) hts h1 h2 hc.rd hc.len (own_none hc) (Own.cap hc) hcn).mono fun e w' ha => AnsDisk.mono ha fun r f x gs' l t o hs => hs.congr (and_congr_left fun _ => okS_iff hk) hk
theorem implDo_own (h1 : name.size ≤ maxLen) (h2 : to_.size ≤ maxLen) (h : OwnD W B F1 nf cf1 gs K1 nk ck1 ks T1 nt ct1 ts) (hc : Own W B2 A n c ys) (hcn : n ≤ 1048576) (hk : gs.map keyF = fs.map keyF) (hn : nf + usedD fs + nk + nt ≤ 1048576) (hids : ∀ x ∈ fs, (Lit.int .i64 x.id).wf = true) (hks : ∀ x ∈ ks, x.1.size ≤ maxLen ∧ (Lit.int .i64 x.2).wf = true) (hts : ∀ x ∈ ts, x.name.size ≤ maxLen ∧ x.to_.size ≤ maxLen ∧ (Lit.int .i64 x.id).wf = true) :
    Calls Tryz.prog 9 #[.agg #[.int .i64 room, .int .i64 fuse, .int .i64 next, .slice F1 nf cf1, .slice K1 nk ck1, .slice T1 nt ct1], .agg #[.int .i64 k, .string name, .string to_, .slice A n c]] W (AnsDisk (DoD (OkS room fuse next fs ks ts ∧ opQ k name to_ n = true) room fuse next fs ks ts k name to_ ys n) W) :=
  (impl_DiskDo_any room fuse next F1 nf cf1 K1 nk ck1 T1 nt ct1 gs ks ts k name to_ A n c ys W h.f.rd h.lenF (by omega) (own_noneK h.f) h.b.rdB (fun f hf => own_none (h.b.1 f hf)) (keys_mem hk (P := fun f => (Lit.int .i64 f.id).wf = true) (fun f g e h => by show (Lit.int .i64 g.id).wf = true; rw [key_id e]; exact h) hids) (by rw [keys_used hk]; omega)
    h.l.rd h.lenL (by omega) (own_noneK h.l) hks h.t.rd h.lenT (by omega) (own_noneK h.t) hts h1 h2 hc.rd hc.len (own_none hc) (Own.cap hc) hcn).mono fun e w' ha => AnsDisk.mono ha fun r f x gs' l t o hs => hs.congr (and_congr_left fun _ => okS_iff hk) hk
end
end Go.Proofs.YtfkdfabbpebljaaGreat.DOk
namespace Go.Proofs.YtfkdfabbpebljaaGreat.DOk
open Go.RowKit Go.Proofs.YtfkdfabbpebljaaGreat.Bytes Go.Proofs.YtfkdfabbpebljaaGreat.Rows_
set_option linter.unusedVariables false
abbrev DoT := Int → Int → Int → List FileD → List LinkD → List TurnD → Value → Prop
def RelDo (W : World) (D : DoT) (s o : Value) (wx : World) : Prop :=
  ∃ (r f x : Int) (F : Option Addr) (nf cf : Nat) (gs : List FileD) (K : Option Addr) (nk ck : Nat) (l : List LinkD) (T : Option Addr) (nt ct : Nat) (t : List TurnD) (b : Nat),
    s = .pointer (some ⟨b, 0, none⟩) ∧ Box6 wx b (.int .i64 r) (.int .i64 f) (.int .i64 x) (.slice F nf cf) (.slice K nk ck) (.slice T nt ct) ∧ OwnD wx W.heap.size F nf cf gs K nk ck l T nt ct t ∧ D r f x gs l t o ∧
      (∀ i, SD F nf cf gs K nk ck T nt ct i → W.heap.size ≤ i ∧ (b = i → False) ∧ i < wx.heap.size) ∧ (W.heap.size ≤ b ∧ b < wx.heap.size) ∧ Below W.heap.size W wx
theorem ownB_only {S : Nat → Prop} {w w' : World} {base : Nat} {A : Option Addr} {n c : Nat} {zs : List Int} (h : Own w base A n c zs) (on : Only S w w') (hd : ∀ i, (Value.slice A n c).ownBlock = some i → ¬ S i) : Own w' base A n c zs := Only.own h on hd
theorem relDo_al {W y : World} {D : DoT} {B : Nat} {r f x : Int} {F : Option Addr} {nf cf : Nat} {gs : List FileD} {K : Option Addr} {nk ck : Nat} {l : List LinkD} {T : Option Addr} {nt ct : Nat} {t : List TurnD} {o : Value}
    (ho : OwnD y B F nf cf gs K nk ck l T nt ct t) (hd : D r f x gs l t o) (hs : Below W.heap.size W y) (hB : W.heap.size ≤ B) :
    RelDo W D (.pointer (some ⟨y.heap.size, 0, none⟩)) o (y.alloc (.cells #[.int .i64 r, .int .i64 f, .int .i64 x, .slice F nf cf, .slice K nk ck, .slice T nt ct] 36)) := by
  refine ⟨r, f, x, F, nf, cf, gs, K, nk, ck, l, T, nt, ct, t, y.heap.size, rfl, Box6.new y _ _ _ _ _ _ _, (ho.below (Nat.le_refl _) ((Below.refl y.heap.size y).alloc (Nat.le_refl _) _)).more hB, hd, ?_, ⟨hs.size, by simp⟩, hs.alloc hs.size _⟩
  intro i hi
  have h1 := ho.lt i hi
  exact ⟨by omega, fun e => by omega, by simp; omega⟩
theorem relDo_set {W y : World} {D : DoT} {B b : Nat} {r f x : Int} {F : Option Addr} {nf cf : Nat} {gs : List FileD} {K : Option Addr} {nk ck : Nat} {l : List LinkD} {T : Option Addr} {nt ct : Nat} {t : List TurnD} {o : Value}
    (hn : BoxW y b #[.int .i64 0, .int .i64 0, .int .i64 0, .slice none 0 0, .slice none 0 0, .slice none 0 0]) (ho : OwnD y B F nf cf gs K nk ck l T nt ct t) (hd : D r f x gs l t o) (hs : Below W.heap.size W y) (hb : W.heap.size ≤ b) (hB : b < B) :
    RelDo W D (.pointer (some ⟨b, 0, none⟩)) o ((((((y.setCell ⟨b, 0, none⟩ (.int .i64 r)).setCell ⟨b, 1, none⟩ (.int .i64 f)).setCell ⟨b, 2, none⟩ (.int .i64 x)).setCell ⟨b, 3, none⟩ (.slice F nf cf)).setCell ⟨b, 4, none⟩ (.slice K nk ck)).setCell ⟨b, 5, none⟩ (.slice T nt ct)) := by
  have h6 := (((((hn.set0 (.int .i64 r)).set1 (.int .i64 f)).set2 (.int .i64 x)).set3 (.slice F nf cf)).set4 (.slice K nk ck)).set5 (.slice T nt ct)
  refine ⟨r, f, x, F, nf, cf, gs, K, nk, ck, l, T, nt, ct, t, b, rfl, ⟨h6.cell 0, h6.cell 1, h6.cell 2, h6.cell 3, h6.cell 4, h6.cell 5⟩, (OwnD.set6 ho (fun i hi => by have := (ho.lt i hi).1; omega) _ _ _ _ _ _).more (by omega), hd, ?_, ⟨hb, by have := hn.lt; simp; exact this⟩, below_set6 hs hb _ _ _ _ _ _⟩
  intro i hi
  have h1 := ho.lt i hi
  exact ⟨by omega, fun e => by omega, by simp; omega⟩
end Go.Proofs.YtfkdfabbpebljaaGreat.DOk
namespace Go.Proofs.YtfkdfabbpebljaaGreat.OpOk
open Go.RowKit Go.Proofs.YtfkdfabbpebljaaGreat.Bytes
set_option linter.unusedVariables false


set_option maxRecDepth 100000 in
set_option maxHeartbeats 800000 in
theorem szDiskOp_ok (k : Int) (name to_ : ByteArray) (A : Option Addr) (n c : Nat) (left : Int) (w : World) (h1 : left ≤ 1048576) (h : (name.size : Int) + to_.size + n ≤ left) :
    Calls Tryz.prog 5 #[.agg #[.int .i64 k, .string name, .string to_, .slice A n c], .int .i64 left] w fun e w' => e = .returned (.int .i64 (left - name.size - to_.size - n)) ∧ Below w.heap.size w w' := by
  have a1 : 0 ≤ left - (name.size : Int) := by omega
  have a2 : 0 ≤ left - (name.size : Int) - to_.size := by omega
  have a3 : 0 ≤ left - (name.size : Int) - to_.size - n := by omega
  have HI := Lib.hid (if_neg (by omega) : (if left - (name.size : Int) - to_.size < (n : Int) then (-1 : Int) else left - (name.size : Int) - to_.size - n) = left - name.size - to_.size - n)
  go_enter Tryz.func5, Tryz.ntmps5
  go_wp2_with fail
  refine (szByteS_any A n c _ _ (by omega) (by omega) (by omega)).mono ?_
  rintro e w' ⟨rfl, rfl⟩
  rw [HI.out]
  go_wp2_with fail
  go_ret
  exact ⟨rfl, (Below.refl _ _).alloc (Nat.le_refl _) _⟩

set_option maxRecDepth 100000 in
set_option maxHeartbeats 800000 in
theorem szDiskOp_big (k : Int) (name to_ : ByteArray) (A : Option Addr) (n c : Nat) (left : Int) (w : World) (h0 : 0 ≤ left) (h1 : left ≤ 1048576) (g1 : name.size ≤ 9223372036854775807) (g2 : to_.size ≤ 9223372036854775807) (g3 : n ≤ 9223372036854775807) (h : left < (name.size : Int) + to_.size + n) :
    Calls Tryz.prog 5 #[.agg #[.int .i64 k, .string name, .string to_, .slice A n c], .int .i64 left] w fun e w' => e = .returned (.int .i64 (-1)) ∧ Below w.heap.size w w' := by
  by_cases c1 : left < (name.size : Int)
  · have a1 : left - (name.size : Int) < 0 := by omega
    go_enter Tryz.func5, Tryz.ntmps5
    go_wp2_with fail
    go_ret
    exact ⟨rfl, (Below.refl _ _).alloc (Nat.le_refl _) _⟩
  · have a1 : 0 ≤ left - (name.size : Int) := by omega
    by_cases c2 : left - (name.size : Int) < to_.size
    · have a2 : left - (name.size : Int) - to_.size < 0 := by omega
      go_enter Tryz.func5, Tryz.ntmps5
      go_wp2_with fail
      go_ret
      exact ⟨rfl, (Below.refl _ _).alloc (Nat.le_refl _) _⟩
    · have a2 : 0 ≤ left - (name.size : Int) - to_.size := by omega
      have HI := Lib.hid (if_pos (by omega) : (if left - (name.size : Int) - to_.size < (n : Int) then (-1 : Int) else left - (name.size : Int) - to_.size - n) = -1)
      go_enter Tryz.func5, Tryz.ntmps5
      go_wp2_with fail
      refine (szByteS_any A n c _ _ (by omega) (by omega) (by omega)).mono ?_
      rintro e w' ⟨rfl, rfl⟩
      rw [HI.out]
      go_wp2_with fail
      go_ret
      exact ⟨rfl, (Below.refl _ _).alloc (Nat.le_refl _) _⟩

set_option maxRecDepth 100000 in
set_option maxHeartbeats 1600000 in
theorem toDiskOp_any (k : Int) (name to_ : ByteArray) (A : Option Addr) (n c : Nat) (zs : List Int) (w : World) (hr : Rd w w.heap.size A zs) (hl : zs.length = n) (hn : n ≤ 1099511627776) :
    Calls Tryz.prog 8 #[.agg #[.int .i64 k, .string name, .string to_, .slice A n c]] w
      fun e w' => ∃ A' c', e = .returned (.agg #[.int .i64 k, .string name, .string to_, .slice A' n c']) ∧ Own w' w.heap.size A' n c' zs ∧ Below w.heap.size w w' := by
  have HR := Lib.hid hr
  have HL := Lib.hid hl
  clear hr hl
  go_enter Tryz.func8, Tryz.ntmps8
  go_wp2_with fail
  have hb0 : Below w.heap.size w (((w.alloc (.cells #[.int .i64 k, .string name, .string to_, .slice A n c] 29)).alloc (.cells #[.int .i64 0, .string ByteArray.empty, .string ByteArray.empty, .slice none 0 0] 40)).alloc (.cells #[.int .i64 k, .string name, .string to_, .slice none 0 0] 40)) :=
    (((Below.refl _ _).alloc (Nat.le_refl _) _).alloc (by simp) _).alloc (by simp; omega) _
  have HB0 := Lib.hid hb0
  clear hb0
  refine (toByteS_any A n c zs _ ((HR.out.below (Nat.le_refl _) HB0.out).more (by simp; omega)) HL.out (by omega)).mono ?_
  rintro e v1 ⟨A1, c1, rfl, ho1, hb1⟩
  have HO := Lib.hid ho1
  have HB1 := Lib.hid hb1
  obtain ⟨hc, hf⟩ := bcell hb1
  have hz : w.heap.size + 2 < v1.heap.size := by have := hb1.size; simp at this; omega
  clear ho1 hb1
  go_wp2_with fail
  refine bodyPost_ret (v := .agg #[.int .i64 k, .string name, .string to_, .slice A1 n c1]) (by simp [results, Tryz.results8, go_sem, hc]) rfl ⟨A1, c1, rfl, ?_, ?_⟩
  · have h0 := HO.out.more (base' := w.heap.size + 3) (by simp)
    have h1 := own_set (own_set (own_set (own_set (own_set h0 (w.heap.size + 1 + 1) 3 (.slice A1 n c1) (by omega)) (w.heap.size + 1) 0 (.int .i64 k) (by omega)) (w.heap.size + 1) 1 (.string name) (by omega)) (w.heap.size + 1) 2 (.string to_) (by omega)) (w.heap.size + 1) 3 (.slice A1 n c1) (by omega)
    exact h1.more (by omega)
  · have h0 := HB0.out.trans (HB1.out.mono (by simp; omega))
    exact ((((h0.setCell (by simp; omega) _).setCell (by simp) _).setCell (by simp) _).setCell (by simp) _).setCell (by simp) _

set_option maxRecDepth 100000 in
set_option maxHeartbeats 1600000 in
theorem eqDiskOp_yes (k : Int) (name to_ : ByteArray) (A A' : Option Addr) (n c c' : Nat) (zs : List Int) (w : World) (hx : Rd w w.heap.size A zs) (hy : Rd w w.heap.size A' zs) (hl : zs.length = n) (hn : n ≤ 1099511627776) :
    Calls Tryz.prog 11 #[.agg #[.int .i64 k, .string name, .string to_, .slice A n c], .agg #[.int .i64 k, .string name, .string to_, .slice A' n c']] w fun e w' => e = .returned (.bool true) ∧ Below w.heap.size w w' := by
  have e1 : (!(name.toList == name.toList)) = false := by simp
  have e2 : (!(to_.toList == to_.toList)) = false := by simp
  have e3 : (k != k) = false := by simp
  have HX := Lib.hid hx
  have HY := Lib.hid hy
  have HL := Lib.hid hl
  have hb0 := Lib.hid (((Below.refl w.heap.size w).alloc (Nat.le_refl _) (.cells #[.int .i64 k, .string name, .string to_, .slice A n c] 40)).alloc (by simp) (.cells #[.int .i64 k, .string name, .string to_, .slice A' n c'] 40))
  clear hx hy hl
  go_enter Tryz.func11, Tryz.ntmps11
  go_wp2_with fail
  refine (eqByteS_yes A A' n c n c' zs _ ((HX.out.below (Nat.le_refl _) hb0.out).more (by simp; omega)) ((HY.out.below (Nat.le_refl _) hb0.out).more (by simp; omega)) HL.out HL.out (by omega)).mono ?_
  rintro e v1 ⟨rfl, hb1⟩
  have HB1 := Lib.hid hb1
  clear hb1
  go_wp2_with fail
  go_ret
  exact ⟨rfl, hb0.out.trans (HB1.out.mono (by simp; omega))⟩
end Go.Proofs.YtfkdfabbpebljaaGreat.OpOk
namespace Go.Proofs.YtfkdfabbpebljaaGreat.OpOk
open Go.RowKit Go.Proofs.YtfkdfabbpebljaaGreat.Bytes
set_option linter.unusedVariables false
set_option maxRecDepth 100000 in
set_option maxHeartbeats 1600000 in
theorem markDiskOp_any (kd : Int) (name to_ : ByteArray) (A : Option Addr) (n c : Nat) (base : Nat) (zs : List Int) (k : Int) (w : World) (ho : Own w base A n c zs) (hn : n ≤ 1099511627776) (h0 : 0 ≤ k) (h1 : k ≤ 1099511627776) :
    Calls Tryz.prog 13 #[.agg #[.int .i64 kd, .string name, .string to_, .slice A n c], .int .i64 k] w fun e w' => e = .returned (.int .i64 (k + n)) ∧ Own w' base A n c (marks n k) ∧ w.grownBy w' (Value.slice A n c).ownBlock := by
  have hb0 : Below w.heap.size w (w.alloc (.cells #[.int .i64 kd, .string name, .string to_, .slice A n c] 40)) := (Below.refl _ _).alloc (Nat.le_refl _) _
  have HM := Lib.hid (markByteS_any A n c base zs k _ (ho.below (Nat.le_refl _) hb0) hn h0 h1)
  clear ho hb0
  go_enter Tryz.func13, Tryz.ntmps13
  go_wp2_with fail
  refine HM.out.mono ?_
  rintro e w' ⟨rfl, hm, hg⟩
  have HG := Lib.hid hg
  have HO := Lib.hid hm
  clear hg hm HM
  go_wp2_with fail
  go_ret
  exact ⟨rfl, HO.out, grown_trans (World.grownBy_alloc w _ _) HG.out⟩
end Go.Proofs.YtfkdfabbpebljaaGreat.OpOk
