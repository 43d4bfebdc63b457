/- FnExactDiskCrash: the walk of the law from the contracts of the program, of its model and of the laws' helpers; at every input, no condition. -/
import Derived.Test.YtckiloacbanbmaaGreatKitB
import Derived.Test.YtckiloacbanbmaaGreatKitO
import Derived.Deep.RegionWith
import Derived.Deep.Cut
import Derived.Deep.CutRange
import Derived.Deep.DeepCutAuto
namespace Go.Proofs.YtckiloacbanbmaaGreat.fnExactDiskCrash
open Go.RowKit Go.Proofs.YtckiloacbanbmaaGreat.Bytes Go.Proofs.YtckiloacbanbmaaGreat.Rows_ Go.Proofs.YtckiloacbanbmaaGreat.DOk
set_option linter.unusedVariables false
theorem own : ownKnob Tryz.prog.godebug = none := by kernel_rfl
theorem undrew {W v : World} {B : Nat} (h : Below B W.drew v) : Below B W v := ⟨h.os, h.tape, h.output, h.size, h.block⟩
/-- what toDisk answers, with one word for what is owned -/
def ToD (room fuse next : Int) (nf nk nt : Nat) (fs : List FileD) (ks : List LinkD) (ts : List TurnD) (w : World) (e : Ending) (w' : World) : Prop :=
  ∃ F' cf' K' ck' T' ct' gs, e = .returned (.agg #[.int .i64 room, .int .i64 fuse, .int .i64 next, .slice F' nf cf', .slice K' nk ck', .slice T' nt ct']) ∧ OwnD w' w.heap.size F' nf cf' gs K' nk ck' ks T' nt ct' ts ∧ gs.map keyF = fs.map keyF ∧ Below w.heap.size w w'
theorem toOwn {room fuse next : Int} {nf nk nt : Nat} {fs : List FileD} {ks : List LinkD} {ts : List TurnD} {args : Array Value} {w : World} (h : Calls Tryz.prog 8 args w fun e w' => ∃ F' cf' K' ck' T' ct' gs, e = .returned (.agg #[.int .i64 room, .int .i64 fuse, .int .i64 next, .slice F' nf cf', .slice K' nk ck', .slice T' nt ct']) ∧
        OwnF w' w.heap.size F' nf cf' gs ∧ gs.map keyF = fs.map keyF ∧ OwnBs w' w.heap.size gs ∧ OwnL w' w.heap.size K' nk ck' ks ∧ OwnT w' w.heap.size T' nt ct' ts ∧ Below w.heap.size w w') : Calls Tryz.prog 8 args w (ToD room fuse next nf nk nt fs ks ts w) :=
  h.mono fun e w' ⟨F', cf', K', ck', T', ct', gs, h1, h2, h3, h4, h5, h6, h7⟩ => ⟨F', cf', K', ck', T', ct', gs, h1, ⟨h2, h4, h5, h6⟩, h3, h7⟩

set_option maxRecDepth 100000 in
set_option maxHeartbeats 16000000 in
theorem walk (room fuse next : Int) (F : Option Addr) (nf cf : Nat) (K : Option Addr) (nk ck : Nat) (T : Option Addr) (nt ct : Nat) (fs : List FileD) (ks : List LinkD) (ts : List TurnD) (a1 : Int) (C : Option Addr) (nc cc : Nat) (cs : List Int) (w : World)
    (hf : RdF w w.heap.size F fs) (hfl : fs.length = nf) (hfn : nf ≤ 9223372036854775807) (hrb : RdB w w.heap.size fs) (hfs : ∀ x ∈ fs, x.n ≤ 9223372036854775807 ∧ (Lit.int .i64 x.id).wf = true)
    (hk : RdL w w.heap.size K ks) (hkl : ks.length = nk) (hkn : nk ≤ 9223372036854775807) (hks : ∀ x ∈ ks, x.1.size ≤ maxLen ∧ (Lit.int .i64 x.2).wf = true)
    (ht : RdT w w.heap.size T ts) (htl : ts.length = nt) (htn : nt ≤ 9223372036854775807) (hts : ∀ x ∈ ts, x.name.size ≤ maxLen ∧ x.to_.size ≤ maxLen ∧ (Lit.int .i64 x.id).wf = true) (w1 : (Lit.int .i64 a1).wf = true) (hC : RdI w w.heap.size C cs) (hCl : cs.length = nc) (hCn : nc ≤ maxLen) :
    Calls Tryz.prog 4 #[.agg #[.int .i64 room, .int .i64 fuse, .int .i64 next, .slice F nf cf, .slice K nk ck, .slice T nt ct], .int .i64 a1, .slice C nc cc] w fun e w' => e = .returned (.bool true) ∧ Below w.heap.size w w' := by
  have hb0 := Lib.hid ((Below.refl w.heap.size w).alloc (Nat.le_refl _) (.cells #[.int .i64 room, .int .i64 fuse, .int .i64 next, .slice F nf cf, .slice K nk ck, .slice T nt ct] 26))
  have hx0 := Lib.hid (Box6.new w (.int .i64 room) (.int .i64 fuse) (.int .i64 next) (.slice F nf cf) (.slice K nk ck) (.slice T nt ct) 26)
  have RF := Lib.hid (fun W (h : Below w.heap.size w W) => (hf.below (Nat.le_refl _) h).more h.size)
  have RB := Lib.hid (fun W (h : Below w.heap.size w W) => (hrb.below (Nat.le_refl _) h).more h.size)
  have RL := Lib.hid (fun W (h : Below w.heap.size w W) => (hk.below (Nat.le_refl _) h).more h.size)
  have RT := Lib.hid (fun W (h : Below w.heap.size w W) => (ht.below (Nat.le_refl _) h).more h.size)
  have HSz := Lib.hid (fun W (h : Below w.heap.size w W) => szDisk_any room fuse next F nf cf K nk ck T nt ct fs ks ts 1048576 W (RF.out W h) hfl hfn (fun x hx => (hfs x hx).1) (RL.out W h) hkl hkn (fun x hx => by have := (hks x hx).1; unfold maxLen at this; exact this) (RT.out W h) htl htn (fun x hx => by have := hts x hx; unfold maxLen at this; exact ⟨this.1, this.2.1⟩) (by omega) (by omega))
  have HTo := Lib.hid (fun W (h : Below w.heap.size w W) (h1 : nf ≤ 2097152) (h2 : usedD fs ≤ 1099511627776) (h3 : nk ≤ 2097152) (h4 : nt ≤ 2097152) => toOwn (toDisk_any room fuse next F nf cf K nk ck T nt ct fs ks ts W (RF.out W h) hfl h1 (RB.out W h) (fun f hf => Nat.le_trans (n_used hf) h2) (RL.out W h) hkl h3 (RT.out W h) htl h4))
  have HFI := Lib.hid (show ∀ x ∈ fs, (Lit.int .i64 x.id).wf = true from fun x hx => (hfs x hx).2)
  have HKS := Lib.hid hks
  have HTS := Lib.hid hts
  obtain ⟨m, hmn, hm⟩ := clampI_nat a1 nt
  have HM0 := Lib.hid hm
  have HMT := Lib.hid (show m ≤ ts.length by rw [htl]; exact hmn)
  have HIn := Lib.hid (fun W (h : Below w.heap.size w W) (hn : nc ≤ 2097152) => toIntS_any C nc cc cs W ((hC.below (Nat.le_refl _) h).more h.size) hCl hn)
  clear w1 hm hC hCl hf hfl hrb hfs hk hkl hks ht htl hts RF RB RL RT
  by_cases hbig : 1048576 < nc
  · go_enter Tryz.func4, Tryz.ntmps4
    go_wp2_with fail
    go_ret
    exact ⟨rfl, hb0.out⟩
  have HIN := Lib.hid (fun W (h : Below w.heap.size w W) => HIn.out W h (by omega))
  have hnc : nc ≤ 1048576 := by omega
  clear HIn hbig
  go_enter Tryz.func4, Tryz.ntmps4
  go_wp2_with fail
  refine (HSz.out _ hb0.out).mono ?_
  rintro e v1 ⟨r, rfl, hr, hb1⟩
  have s1 : w.heap.size < v1.heap.size := by have := hb1.size; simp at this; omega
  have HB1 := Lib.hid (hb0.out.trans (hb1.mono (by simp)))
  have XA1 := Lib.hid (hx0.out.below hb1 (by simp))
  clear hb1 hb0 hx0 HSz
  rcases hr with rfl | ⟨hr0, hr1⟩
  · go_wp2_with fail
    go_ret
    exact ⟨rfl, HB1.out⟩
  · have hsz : nf + usedD fs + nk + nt ≤ 1048576 := by omega
    have HSZ := Lib.hid hsz
    have HT1 := Lib.hid (fun W (h : Below w.heap.size w W) => HTo.out W h (by omega) (by omega) (by omega) (by omega))
    clear hr1 hsz HTo
    have z1 := s1
    obtain ⟨aq0, aq1, aq2, aq3, aq4, aq5⟩ := XA1.out
    have HPB2 := HB1
    go_wp2_with fail
    refine (HT1.out _ HPB2.out).mono ?_
    rintro e v2 ⟨F2, cf2, K2, ck2, T2, ct2, g2, rfl, ho2, hk2, hx2⟩
    clear HPB2
    clear aq0 aq1 aq2 aq3 aq4 aq5
    have HO2 := Lib.hid ho2
    have HK2 := Lib.hid hk2
    have HL2 := Lib.hid (show ∀ i, SD F2 nf cf2 g2 K2 nk ck2 T2 nt ct2 i → v1.heap.size ≤ i ∧ (v1.heap.size = i → True) ∧ i < v2.heap.size from fun i hi => by have := ho2.lt i hi; exact ⟨by omega, fun _ => trivial, this.2⟩)
    clear ho2 hk2
    have hst2 : Below v1.heap.size v1 v2 := hx2
    have z2 : v1.heap.size ≤ v2.heap.size := hst2.size
    have HB2 := Lib.hid (HB1.out.trans (hst2.mono (Nat.le_of_lt s1)))
    have XA1_2 := Lib.hid (XA1.out.below hst2 s1)
    clear XA1
    have s2a : w.heap.size < v2.heap.size := Nat.lt_of_lt_of_le s1 hst2.size
    clear s1
    clear hx2 hst2
    have HPB3 := HB2
    go_wp2_with fail
    refine (HIN.out _ HPB3.out).mono ?_
    rintro e v3 ⟨C3, cc3, rfl, ho3, hx3⟩
    clear HPB3
    have HO3 := Lib.hid ho3
    have HL3 := Lib.hid (show ∀ i, (Value.slice C3 nc cc3).ownBlock = some i → v2.heap.size ≤ i ∧ (v2.heap.size = i → True) ∧ i < v3.heap.size from fun i hi => by have := ho3.blk i hi; exact ⟨by omega, fun _ => trivial, this.2⟩)
    clear ho3
    have hst3 : Below v2.heap.size v2 v3 := hx3
    have z3 : v2.heap.size ≤ v3.heap.size := hst3.size
    have HO2_3 := Lib.hid (HO2.out.below (Nat.le_refl _) hst3)
    clear HO2
    have HB3 := Lib.hid (HB2.out.trans (hst3.mono (Nat.le_of_lt s2a)))
    have XA1_2_3 := Lib.hid (XA1_2.out.below hst3 s2a)
    clear XA1_2
    have s3a : w.heap.size < v3.heap.size := Nat.lt_of_lt_of_le s2a hst3.size
    clear s2a
    clear hx3 hst3
    have HPO4 := HO2_3
    go_wp2_with fail
    refine (specC_own room fuse next a1 HM0.out hmn HPO4.out HO3.out (by omega) HK2.out HSZ.out HFI.out HKS.out HTS.out).mono ?_
    rintro e v4 ⟨r4, f4, x4, F4, nf4, cf4, g4, K4, nk4, ck4, l4, T4, nt4, ct4, t4, o4, rfl, ho4, hd4, hx4⟩
    clear HPO4
    have HO4 := Lib.hid ho4
    have HD4 := Lib.hid hd4
    have HL4 := Lib.hid (show ∀ i, SD F4 nf4 cf4 g4 K4 nk4 ck4 T4 nt4 ct4 i → v3.heap.size ≤ i ∧ (v3.heap.size = i → True) ∧ i < v4.heap.size from fun i hi => by have := ho4.lt i hi; exact ⟨by omega, fun _ => trivial, this.2⟩)
    clear ho4 hd4
    have hst4 : Below v3.heap.size v3 v4 := hx4
    have z4 : v3.heap.size ≤ v4.heap.size := hst4.size
    have HO2_3_4 := Lib.hid (HO2_3.out.below (Nat.le_refl _) hst4)
    clear HO2_3
    have HO3_4 := Lib.hid (HO3.out.below (Nat.le_refl _) hst4)
    clear HO3
    have HB4 := Lib.hid (HB3.out.trans (hst4.mono (Nat.le_of_lt s3a)))
    have XA1_2_3_4 := Lib.hid (XA1_2_3.out.below hst4 s3a)
    clear XA1_2_3
    have s4a : w.heap.size < v4.heap.size := Nat.lt_of_lt_of_le s3a hst4.size
    clear s3a
    clear hx4 hst4
    obtain ⟨bw, hbw⟩ := HD4.out.bool
    have HDW := Lib.hid (hbw ▸ HD4.out)
    subst hbw
    have HSW := Lib.hid (show usedD g4 + nf4 + nk4 + nt4 ≤ 1048576 by have h1 := CrashD.size HMT.out HDW.out; have h2 := HSZ.out; rw [keys_used (HK2.out.symm), ← keys_len HK2.out] at h1; rw [keys_used (HK2.out.symm)] at h2; rw [HO2_3_4.out.lenF, HO2_3_4.out.lenL, HO2_3_4.out.lenT, HO4.out.lenF, HO4.out.lenL, HO4.out.lenT] at h1; omega)
    clear HD4
    clear HO2_3_4 HL2 HK2
    clear HO3_4 HL3 
    obtain ⟨aq0, aq1, aq2, aq3, aq4, aq5⟩ := XA1_2_3_4.out
    have HPB5 := Lib.hid (show Below w.heap.size w (v4.alloc (.cells #[.int .i64 r4, .int .i64 f4, .int .i64 x4, .slice F4 nf4 cf4, .slice K4 nk4 ck4, .slice T4 nt4 ct4] 36)) from HB4.out.trans ((Below.refl _ _).alloc (Nat.le_of_lt s4a) _))
    go_wp2_with fail
    refine (HT1.out _ HPB5.out).mono ?_
    rintro e v5 ⟨F5, cf5, K5, ck5, T5, ct5, g5, rfl, ho5, hk5, hx5⟩
    clear HPB5
    clear aq0 aq1 aq2 aq3 aq4 aq5
    have HO5 := Lib.hid ho5
    have HK5 := Lib.hid hk5
    have HL5 := Lib.hid (show ∀ i, SD F5 nf cf5 g5 K5 nk ck5 T5 nt ct5 i → v4.heap.size ≤ i ∧ (v4.heap.size = i → False) ∧ i < v5.heap.size from fun i hi => by have := ho5.lt i hi; simp at this; exact ⟨by omega, fun e => by omega, this.2⟩)
    clear ho5 hk5
    have hst5 : Below v4.heap.size v4 v5 := ((Below.refl _ _).alloc (Nat.le_refl _) (.cells #[.int .i64 r4, .int .i64 f4, .int .i64 x4, .slice F4 nf4 cf4, .slice K4 nk4 ck4, .slice T4 nt4 ct4] 36)).trans (hx5.mono (by simp))
    have z5 : v4.heap.size ≤ v5.heap.size := hst5.size
    have HO4_5 := Lib.hid (HO4.out.below (Nat.le_refl _) hst5)
    clear HO4
    have HB5 := Lib.hid (HB4.out.trans (hst5.mono (Nat.le_of_lt s4a)))
    have XA1_2_3_4_5 := Lib.hid (XA1_2_3_4.out.below hst5 s4a)
    clear XA1_2_3_4
    have s5a : w.heap.size < v5.heap.size := Nat.lt_of_lt_of_le s4a hst5.size
    clear s4a
    have Xbw := Lib.hid ((Box6.new v4 (.int .i64 r4) (.int .i64 f4) (.int .i64 x4) (.slice F4 nf4 cf4) (.slice K4 nk4 ck4) (.slice T4 nt4 ct4) 36).below hx5 (by simp))
    have s5bw : v4.heap.size < v5.heap.size := by have := hx5.size; simp at this; omega
    have tbw := s5bw
    clear hx5 hst5
    have HSX := Lib.hid (show usedD g5 + nf + nk + nt ≤ 1048576 by rw [keys_used HK5.out]; have := HSZ.out; omega)
    have HPB6 := Lib.hid (show Below w.heap.size w (v5.alloc (.cells #[.int .i64 room, .int .i64 fuse, .int .i64 next, .slice F5 nf cf5, .slice K5 nk ck5, .slice T5 nt ct5] 36)) from HB5.out.trans ((Below.refl _ _).alloc (Nat.le_of_lt s5a) _))
    go_wp2_with fail
    refine (HIN.out _ HPB6.out).mono ?_
    rintro e v6 ⟨C6, cc6, rfl, ho6, hx6⟩
    clear HPB6
    have HO6 := Lib.hid ho6
    have HL6 := Lib.hid (show ∀ i, (Value.slice C6 nc cc6).ownBlock = some i → v5.heap.size ≤ i ∧ (v5.heap.size = i → False) ∧ i < v6.heap.size from fun i hi => by have := ho6.blk i hi; simp at this; exact ⟨by omega, fun e => by omega, this.2⟩)
    clear ho6
    have hst6 : Below v5.heap.size v5 v6 := ((Below.refl _ _).alloc (Nat.le_refl _) (.cells #[.int .i64 room, .int .i64 fuse, .int .i64 next, .slice F5 nf cf5, .slice K5 nk ck5, .slice T5 nt ct5] 36)).trans (hx6.mono (by simp))
    have z6 : v5.heap.size ≤ v6.heap.size := hst6.size
    have HO4_5_6 := Lib.hid (HO4_5.out.below (Nat.le_refl _) hst6)
    clear HO4_5
    have HO5_6 := Lib.hid (HO5.out.below (Nat.le_refl _) hst6)
    clear HO5
    have HB6 := Lib.hid (HB5.out.trans (hst6.mono (Nat.le_of_lt s5a)))
    have XA1_2_3_4_5_6 := Lib.hid (XA1_2_3_4_5.out.below hst6 s5a)
    clear XA1_2_3_4_5
    have s6a : w.heap.size < v6.heap.size := Nat.lt_of_lt_of_le s5a hst6.size
    clear s5a
    have Xbw_6 := Lib.hid (Xbw.out.below hst6 s5bw)
    clear Xbw
    have s6bw : v4.heap.size < v6.heap.size := Nat.lt_of_lt_of_le s5bw hst6.size
    clear s5bw
    have Xbx := Lib.hid ((Box6.new v5 (.int .i64 room) (.int .i64 fuse) (.int .i64 next) (.slice F5 nf cf5) (.slice K5 nk ck5) (.slice T5 nt ct5) 36).below hx6 (by simp))
    have s6bx : v5.heap.size < v6.heap.size := by have := hx6.size; simp at this; omega
    have tbx := s6bx
    clear hx6 hst6
    obtain ⟨bxq0, bxq1, bxq2, bxq3, bxq4, bxq5⟩ := Xbx.out
    have HPO7 := HO5_6
    go_wp2_with fail
    refine (implC_own room fuse next a1 HM0.out hmn HPO7.out HO6.out (by omega) HK5.out HSZ.out HFI.out HKS.out HTS.out).mono ?_
    rintro e v7 ⟨r7, f7, x7, F7, nf7, cf7, g7, K7, nk7, ck7, l7, T7, nt7, ct7, t7, o7, rfl, ho7, hd7, hx7⟩
    clear HPO7
    clear bxq0 bxq1 bxq2 bxq3 bxq4 bxq5
    have HO7 := Lib.hid ho7
    have HD7 := Lib.hid hd7
    have HL7 := Lib.hid (show ∀ i, SD F7 nf7 cf7 g7 K7 nk7 ck7 T7 nt7 ct7 i → v6.heap.size ≤ i ∧ (v6.heap.size = i → True) ∧ i < v7.heap.size from fun i hi => by have := ho7.lt i hi; exact ⟨by omega, fun _ => trivial, this.2⟩)
    clear ho7 hd7
    have hst7 : Below v6.heap.size v6 v7 := hx7
    have z7 : v6.heap.size ≤ v7.heap.size := hst7.size
    have HO4_5_6_7 := Lib.hid (HO4_5_6.out.below (Nat.le_refl _) hst7)
    clear HO4_5_6
    have HO5_6_7 := Lib.hid (HO5_6.out.below (Nat.le_refl _) hst7)
    clear HO5_6
    have HO6_7 := Lib.hid (HO6.out.below (Nat.le_refl _) hst7)
    clear HO6
    have HB7 := Lib.hid (HB6.out.trans (hst7.mono (Nat.le_of_lt s6a)))
    have XA1_2_3_4_5_6_7 := Lib.hid (XA1_2_3_4_5_6.out.below hst7 s6a)
    clear XA1_2_3_4_5_6
    have s7a : w.heap.size < v7.heap.size := Nat.lt_of_lt_of_le s6a hst7.size
    clear s6a
    have Xbw_6_7 := Lib.hid (Xbw_6.out.below hst7 s6bw)
    clear Xbw_6
    have s7bw : v4.heap.size < v7.heap.size := Nat.lt_of_lt_of_le s6bw hst7.size
    clear s6bw
    have Xbx_7 := Lib.hid (Xbx.out.below hst7 s6bx)
    clear Xbx
    have s7bx : v5.heap.size < v7.heap.size := Nat.lt_of_lt_of_le s6bx hst7.size
    clear s6bx
    clear hx7 hst7
    obtain ⟨e1, e2, e3, hkk7, e5, e6, e7⟩ := CrashD.same HDW.out HD7.out
    replace e1 := e1.symm
    replace e2 := e2.symm
    replace e3 := e3.symm
    replace e5 := e5.symm
    replace e6 := e6.symm
    replace e7 := e7.symm
    subst e1 e2 e3 e5 e6 e7
    have HKK7 := Lib.hid hkk7
    clear hkk7 HD7
    have n1 : nf4 = nf7 := by rw [← HO7.out.lenF, ← HO4_5_6_7.out.lenF]; exact (keys_len HKK7.out).symm
    have n2 : nk4 = nk7 := by rw [← HO7.out.lenL, ← HO4_5_6_7.out.lenL]
    have n3 : nt4 = nt7 := by rw [← HO7.out.lenT, ← HO4_5_6_7.out.lenT]
    subst n1 n2 n3
    have HSZ7 := Lib.hid (show usedD g7 + nf4 + nk4 + nt4 ≤ 1048576 by rw [keys_used HKK7.out]; exact HSW.out)
    obtain ⟨bwq0, bwq1, bwq2, bwq3, bwq4, bwq5⟩ := Xbw_6_7.out
    have hal8 := ((Below.refl _ v7).alloc (Nat.le_refl _) (.cells #[.int .i64 r4, .int .i64 f4, .int .i64 x4, .slice F7 nf4 cf7, .slice K7 nk4 ck7, .slice T7 nt4 ct7] 36))
    have HPA8 := Lib.hid (HO7.out.below (Nat.le_refl _) hal8)
    have HPB8 := Lib.hid (HO4_5_6_7.out.below (Nat.le_refl _) hal8)
    clear hal8
    have hne8 : (bw != bw) = false := by simp
    go_wp2_with fail
    refine (eqD r4 f4 x4 HPA8.out HPB8.out HKK7.out.symm (by have := HSZ7.out; omega)).mono ?_
    rintro e v8 ⟨rfl, hx8⟩
    clear HPA8 HPB8
    clear bwq0 bwq1 bwq2 bwq3 bwq4 bwq5
    have hst8 : Below v7.heap.size v7 v8 := ((Below.refl _ _).alloc (Nat.le_refl _) (.cells #[.int .i64 r4, .int .i64 f4, .int .i64 x4, .slice F7 nf4 cf7, .slice K7 nk4 ck7, .slice T7 nt4 ct7] 36)).trans (hx8.mono (by simp))
    have z8 : v7.heap.size ≤ v8.heap.size := hst8.size
    have HO4_5_6_7_8 := Lib.hid (HO4_5_6_7.out.below (Nat.le_refl _) hst8)
    clear HO4_5_6_7
    have HO5_6_7_8 := Lib.hid (HO5_6_7.out.below (Nat.le_refl _) hst8)
    clear HO5_6_7
    have HO6_7_8 := Lib.hid (HO6_7.out.below (Nat.le_refl _) hst8)
    clear HO6_7
    have HO7_8 := Lib.hid (HO7.out.below (Nat.le_refl _) hst8)
    clear HO7
    have HB8 := Lib.hid (HB7.out.trans (hst8.mono (Nat.le_of_lt s7a)))
    have XA1_2_3_4_5_6_7_8 := Lib.hid (XA1_2_3_4_5_6_7.out.below hst8 s7a)
    clear XA1_2_3_4_5_6_7
    have s8a : w.heap.size < v8.heap.size := Nat.lt_of_lt_of_le s7a hst8.size
    clear s7a
    have Xbw_6_7_8 := Lib.hid (Xbw_6_7.out.below hst8 s7bw)
    clear Xbw_6_7
    have s8bw : v4.heap.size < v8.heap.size := Nat.lt_of_lt_of_le s7bw hst8.size
    clear s7bw
    have Xbx_7_8 := Lib.hid (Xbx_7.out.below hst8 s7bx)
    clear Xbx_7
    have s8bx : v5.heap.size < v8.heap.size := Nat.lt_of_lt_of_le s7bx hst8.size
    clear s7bx
    have Xbg := Lib.hid ((Box6.new v7 (.int .i64 r4) (.int .i64 f4) (.int .i64 x4) (.slice F7 nf4 cf7) (.slice K7 nk4 ck7) (.slice T7 nt4 ct7) 36).below hx8 (by simp))
    have s8bg : v7.heap.size < v8.heap.size := by have := hx8.size; simp at this; omega
    have tbg := s8bg
    clear hx8 hst8
    obtain ⟨aq0, aq1, aq2, aq3, aq4, aq5⟩ := XA1_2_3_4_5_6_7_8.out
    obtain ⟨bxq0, bxq1, bxq2, bxq3, bxq4, bxq5⟩ := Xbx_7_8.out
    go_upto_region 13 with fail
    go_cut [60] (fun s wx => s = .bool false ∧ Below v8.heap.size v8 wx)
    case first =>
      go_region_with (first
        | (go_at_call 8; refine (HT1.out _ ?_).mono ?_; exact ⟨HB8.out.os, HB8.out.tape, HB8.out.output, HB8.out.size, HB8.out.block⟩; rintro e y1 ⟨Fy, cfy, Ky, cky, Ty, cty, gy, rfl, hoy, hky, hxy'⟩; have hxy : Below v8.heap.size v8 y1 := undrew hxy'; clear hxy'; have HKY := Lib.hid hky; have HOY := Lib.hid hoy; have HPY := Lib.hid (HO5_6_7_8.out.below (Nat.le_refl _) hxy); obtain ⟨r0, r1, r2, r3, r4, r5⟩ := Xbx_7_8.out.below hxy s8bx; have HXY := Lib.hid hxy; have zy := hxy.size; clear hoy hky hxy)
        | (go_at_call 11; refine (eqD room fuse next HPY.out HOY.out (HKY.out.trans HK5.out.symm) (by have := HSX.out; omega)).mono ?_; rintro e y2 ⟨rfl, hxz⟩))
      all_goals
        have HE := Lib.hid (HXY.out.trans (hxz.mono zy))
        clear hxz
        go_wp2_with fail
        go_meet
        case rel => exact ⟨rfl, HE.out⟩
    case rest =>
      obtain ⟨rfl, hxc⟩ := hcut
      clear aq0 aq1 aq2 aq3 aq4 aq5
      clear bxq0 bxq1 bxq2 bxq3 bxq4 bxq5
      have hst9 : Below v8.heap.size v8 wc := hxc
      have z9 : v8.heap.size ≤ wc.heap.size := hst9.size
      have HO4_5_6_7_8_9 := Lib.hid (HO4_5_6_7_8.out.below (Nat.le_refl _) hst9)
      clear HO4_5_6_7_8
      have HO5_6_7_8_9 := Lib.hid (HO5_6_7_8.out.below (Nat.le_refl _) hst9)
      clear HO5_6_7_8
      have HO6_7_8_9 := Lib.hid (HO6_7_8.out.below (Nat.le_refl _) hst9)
      clear HO6_7_8
      have HO7_8_9 := Lib.hid (HO7_8.out.below (Nat.le_refl _) hst9)
      clear HO7_8
      have HB9 := Lib.hid (HB8.out.trans (hst9.mono (Nat.le_of_lt s8a)))
      have XA1_2_3_4_5_6_7_8_9 := Lib.hid (XA1_2_3_4_5_6_7_8.out.below hst9 s8a)
      clear XA1_2_3_4_5_6_7_8
      have s9a : w.heap.size < wc.heap.size := Nat.lt_of_lt_of_le s8a hst9.size
      clear s8a
      have Xbw_6_7_8_9 := Lib.hid (Xbw_6_7_8.out.below hst9 s8bw)
      clear Xbw_6_7_8
      have s9bw : v4.heap.size < wc.heap.size := Nat.lt_of_lt_of_le s8bw hst9.size
      clear s8bw
      have Xbx_7_8_9 := Lib.hid (Xbx_7_8.out.below hst9 s8bx)
      clear Xbx_7_8
      have s9bx : v5.heap.size < wc.heap.size := Nat.lt_of_lt_of_le s8bx hst9.size
      clear s8bx
      have Xbg_9 := Lib.hid (Xbg.out.below hst9 s8bg)
      clear Xbg
      have s9bg : v7.heap.size < wc.heap.size := Nat.lt_of_lt_of_le s8bg hst9.size
      clear s8bg
      clear hxc hst9
      have HPB10 := HB9
      go_wp2_with fail
      refine (HIN.out _ HPB10.out).mono ?_
      rintro e v10 ⟨C10, cc10, rfl, ho10, hx10⟩
      clear HPB10
      have HO10 := Lib.hid ho10
      have HL10 := Lib.hid (show ∀ i, (Value.slice C10 nc cc10).ownBlock = some i → wc.heap.size ≤ i ∧ (wc.heap.size = i → True) ∧ i < v10.heap.size from fun i hi => by have := ho10.blk i hi; exact ⟨by omega, fun _ => trivial, this.2⟩)
      clear ho10
      have hst10 : Below wc.heap.size wc v10 := hx10
      have z10 : wc.heap.size ≤ v10.heap.size := hst10.size
      have HO4_5_6_7_8_9_10 := Lib.hid (HO4_5_6_7_8_9.out.below (Nat.le_refl _) hst10)
      clear HO4_5_6_7_8_9
      have HO5_6_7_8_9_10 := Lib.hid (HO5_6_7_8_9.out.below (Nat.le_refl _) hst10)
      clear HO5_6_7_8_9
      have HO6_7_8_9_10 := Lib.hid (HO6_7_8_9.out.below (Nat.le_refl _) hst10)
      clear HO6_7_8_9
      have HO7_8_9_10 := Lib.hid (HO7_8_9.out.below (Nat.le_refl _) hst10)
      clear HO7_8_9
      have HB10 := Lib.hid (HB9.out.trans (hst10.mono (Nat.le_of_lt s9a)))
      have XA1_2_3_4_5_6_7_8_9_10 := Lib.hid (XA1_2_3_4_5_6_7_8_9.out.below hst10 s9a)
      clear XA1_2_3_4_5_6_7_8_9
      have s10a : w.heap.size < v10.heap.size := Nat.lt_of_lt_of_le s9a hst10.size
      clear s9a
      have Xbw_6_7_8_9_10 := Lib.hid (Xbw_6_7_8_9.out.below hst10 s9bw)
      clear Xbw_6_7_8_9
      have s10bw : v4.heap.size < v10.heap.size := Nat.lt_of_lt_of_le s9bw hst10.size
      clear s9bw
      have Xbx_7_8_9_10 := Lib.hid (Xbx_7_8_9.out.below hst10 s9bx)
      clear Xbx_7_8_9
      have s10bx : v5.heap.size < v10.heap.size := Nat.lt_of_lt_of_le s9bx hst10.size
      clear s9bx
      have Xbg_9_10 := Lib.hid (Xbg_9.out.below hst10 s9bg)
      clear Xbg_9
      have s10bg : v7.heap.size < v10.heap.size := Nat.lt_of_lt_of_le s9bg hst10.size
      clear s9bg
      clear hx10 hst10
      go_wp2_with fail
      refine (eqIntS_yes _ _ _ _ _ cs _ HO6_7_8_9_10.out.rd HO10.out.rd HO6_7_8_9_10.out.len (by omega)).mono ?_
      rintro e v11 ⟨rfl, hx11⟩
      have hst11 : Below v10.heap.size v10 v11 := hx11
      have z11 : v10.heap.size ≤ v11.heap.size := hst11.size
      have HO4_5_6_7_8_9_10_11 := Lib.hid (HO4_5_6_7_8_9_10.out.below (Nat.le_refl _) hst11)
      clear HO4_5_6_7_8_9_10
      have HO5_6_7_8_9_10_11 := Lib.hid (HO5_6_7_8_9_10.out.below (Nat.le_refl _) hst11)
      clear HO5_6_7_8_9_10
      have HO6_7_8_9_10_11 := Lib.hid (HO6_7_8_9_10.out.below (Nat.le_refl _) hst11)
      clear HO6_7_8_9_10
      have HO7_8_9_10_11 := Lib.hid (HO7_8_9_10.out.below (Nat.le_refl _) hst11)
      clear HO7_8_9_10
      have HO10_11 := Lib.hid (HO10.out.below (Nat.le_refl _) hst11)
      clear HO10
      have HB11 := Lib.hid (HB10.out.trans (hst11.mono (Nat.le_of_lt s10a)))
      have XA1_2_3_4_5_6_7_8_9_10_11 := Lib.hid (XA1_2_3_4_5_6_7_8_9_10.out.below hst11 s10a)
      clear XA1_2_3_4_5_6_7_8_9_10
      have s11a : w.heap.size < v11.heap.size := Nat.lt_of_lt_of_le s10a hst11.size
      clear s10a
      have Xbw_6_7_8_9_10_11 := Lib.hid (Xbw_6_7_8_9_10.out.below hst11 s10bw)
      clear Xbw_6_7_8_9_10
      have s11bw : v4.heap.size < v11.heap.size := Nat.lt_of_lt_of_le s10bw hst11.size
      clear s10bw
      have Xbx_7_8_9_10_11 := Lib.hid (Xbx_7_8_9_10.out.below hst11 s10bx)
      clear Xbx_7_8_9_10
      have s11bx : v5.heap.size < v11.heap.size := Nat.lt_of_lt_of_le s10bx hst11.size
      clear s10bx
      have Xbg_9_10_11 := Lib.hid (Xbg_9_10.out.below hst11 s10bg)
      clear Xbg_9_10
      have s11bg : v7.heap.size < v11.heap.size := Nat.lt_of_lt_of_le s10bg hst11.size
      clear s10bg
      clear hx11 hst11
      clear HO10_11 HL10 
      obtain ⟨bxq0, bxq1, bxq2, bxq3, bxq4, bxq5⟩ := Xbx_7_8_9_10_11.out
      go_wp2_with fail
      refine (markDisk_any room fuse next _ F5 nf cf5 K5 nk ck5 T5 nt ct5 g5 ks ts 1 _ HO5_6_7_8_9_10_11.out HO5_6_7_8_9_10_11.out.lenF HO5_6_7_8_9_10_11.out.lenL HO5_6_7_8_9_10_11.out.lenT (by decide) (by have := HSX.out; omega)).mono ?_
      rintro e v12 ⟨rfl, ho12, on12⟩
      obtain ⟨m12, hm12⟩ : ∃ m, m = 1 + 2 * nf + usedD g5 + 2 * nk + 4 * nt := ⟨_, rfl⟩
      rw [← hm12]
      have hz12 : decide ((m12 : Int) < 0) = false := decide_eq_false (by omega)
      have HM12 := Lib.hid hm12
      clear hm12
      have HO12 := Lib.hid ho12
      clear ho12
      clear bxq0 bxq1 bxq2 bxq3 bxq4 bxq5
      have HO4_5_6_7_8_9_10_11_12 := Lib.hid (HO4_5_6_7_8_9_10_11.out.only on12 (fun i hi hs => by have h1 := HL4.out i hi; have h2 := HL5.out i hs; have hq1 := h1.2.1; have hq2 := h2.2.1; rcases Nat.lt_or_ge i i with h | h <;> omega))
      clear HO4_5_6_7_8_9_10_11
      have HO6_7_8_9_10_11_12 := Lib.hid (OwnI.only (HO6_7_8_9_10_11.out) on12 (fun i hi hs => by have h1 := HL6.out i hi; have h2 := HL5.out i hs; have hq1 := h1.2.1; have hq2 := h2.2.1; rcases Nat.lt_or_ge i i with h | h <;> omega))
      clear HO6_7_8_9_10_11
      have HO7_8_9_10_11_12 := Lib.hid (HO7_8_9_10_11.out.only on12 (fun i hi hs => by have h1 := HL7.out i hi; have h2 := HL5.out i hs; have hq1 := h1.2.1; have hq2 := h2.2.1; rcases Nat.lt_or_ge i i with h | h <;> omega))
      clear HO7_8_9_10_11
      have HB12 := Lib.hid (Only.below_ on12 HB11.out (Nat.le_of_lt s11a) (fun i hs => by have h2 := HL5.out i hs; omega))
      have z12 : v11.heap.size ≤ v12.heap.size := on12.size
      have XA1_2_3_4_5_6_7_8_9_10_11_12 := Lib.hid (XA1_2_3_4_5_6_7_8_9_10_11.out.only on12 (fun hs => by have h2 := HL5.out _ hs; first | omega | exact h2.2.1 rfl))
      clear XA1_2_3_4_5_6_7_8_9_10_11
      have s12a : w.heap.size < v12.heap.size := Nat.lt_of_lt_of_le s11a on12.size
      clear s11a
      have Xbw_6_7_8_9_10_11_12 := Lib.hid (Xbw_6_7_8_9_10_11.out.only on12 (fun hs => by have h2 := HL5.out _ hs; first | omega | exact h2.2.1 rfl))
      clear Xbw_6_7_8_9_10_11
      have s12bw : v4.heap.size < v12.heap.size := Nat.lt_of_lt_of_le s11bw on12.size
      clear s11bw
      have Xbx_7_8_9_10_11_12 := Lib.hid (Xbx_7_8_9_10_11.out.only on12 (fun hs => by have h2 := HL5.out _ hs; first | omega | exact h2.2.1 rfl))
      clear Xbx_7_8_9_10_11
      have s12bx : v5.heap.size < v12.heap.size := Nat.lt_of_lt_of_le s11bx on12.size
      clear s11bx
      have Xbg_9_10_11_12 := Lib.hid (Xbg_9_10_11.out.only on12 (fun hs => by have h2 := HL5.out _ hs; first | omega | exact h2.2.1 rfl))
      clear Xbg_9_10_11
      have s12bg : v7.heap.size < v12.heap.size := Nat.lt_of_lt_of_le s11bg on12.size
      clear s11bg
      clear on12 HO5_6_7_8_9_10_11
      have HMK := Lib.hid (show m12 ≤ 1099511627776 - 2097152 by have h1 := HM12.out; have h2 := HSX.out; omega)
      clear HO12 HL5 HK5 HSX
      go_wp2_with fail
      refine (markIntS_any _ _ _ _ cs ((m12 : Nat) : Int) _ HO6_7_8_9_10_11_12.out (by omega) (by omega) (by have := HMK.out; omega)).mono ?_
      rintro e v13 ⟨rfl, gr13⟩
      have on13 : Only (fun i => (Value.slice C6 nc cc6).ownBlock = some i) v12 v13 := Only.grown gr13 (fun i h => h)
      have hz13 : decide (((m12 : Nat) : Int) + (nc : Int) < 0) = false := decide_eq_false (by omega)
      clear gr13
      have HO4_5_6_7_8_9_10_11_12_13 := Lib.hid (HO4_5_6_7_8_9_10_11_12.out.only on13 (fun i hi hs => by have h1 := HL4.out i hi; have h2 := HL6.out i hs; have hq1 := h1.2.1; have hq2 := h2.2.1; rcases Nat.lt_or_ge i i with h | h <;> omega))
      clear HO4_5_6_7_8_9_10_11_12
      have HO7_8_9_10_11_12_13 := Lib.hid (HO7_8_9_10_11_12.out.only on13 (fun i hi hs => by have h1 := HL7.out i hi; have h2 := HL6.out i hs; have hq1 := h1.2.1; have hq2 := h2.2.1; rcases Nat.lt_or_ge i i with h | h <;> omega))
      clear HO7_8_9_10_11_12
      have HB13 := Lib.hid (Only.below_ on13 HB12.out (Nat.le_of_lt s12a) (fun i hs => by have h2 := HL6.out i hs; omega))
      have z13 : v12.heap.size ≤ v13.heap.size := on13.size
      have XA1_2_3_4_5_6_7_8_9_10_11_12_13 := Lib.hid (XA1_2_3_4_5_6_7_8_9_10_11_12.out.only on13 (fun hs => by have h2 := HL6.out _ hs; first | omega | exact h2.2.1 rfl))
      clear XA1_2_3_4_5_6_7_8_9_10_11_12
      have s13a : w.heap.size < v13.heap.size := Nat.lt_of_lt_of_le s12a on13.size
      clear s12a
      have Xbw_6_7_8_9_10_11_12_13 := Lib.hid (Xbw_6_7_8_9_10_11_12.out.only on13 (fun hs => by have h2 := HL6.out _ hs; first | omega | exact h2.2.1 rfl))
      clear Xbw_6_7_8_9_10_11_12
      have s13bw : v4.heap.size < v13.heap.size := Nat.lt_of_lt_of_le s12bw on13.size
      clear s12bw
      have Xbx_7_8_9_10_11_12_13 := Lib.hid (Xbx_7_8_9_10_11_12.out.only on13 (fun hs => by have h2 := HL6.out _ hs; first | omega | exact h2.2.1 rfl))
      clear Xbx_7_8_9_10_11_12
      have s13bx : v5.heap.size < v13.heap.size := Nat.lt_of_lt_of_le s12bx on13.size
      clear s12bx
      have Xbg_9_10_11_12_13 := Lib.hid (Xbg_9_10_11_12.out.only on13 (fun hs => by have h2 := HL6.out _ hs; first | omega | exact h2.2.1 rfl))
      clear Xbg_9_10_11_12
      have s13bg : v7.heap.size < v13.heap.size := Nat.lt_of_lt_of_le s12bg on13.size
      clear s12bg
      clear on13 HO6_7_8_9_10_11_12
      obtain ⟨bgq0, bgq1, bgq2, bgq3, bgq4, bgq5⟩ := Xbg_9_10_11_12_13.out
      obtain ⟨bwq0, bwq1, bwq2, bwq3, bwq4, bwq5⟩ := Xbw_6_7_8_9_10_11_12_13.out
      have HPA14 := HO7_8_9_10_11_12_13
      have HPB14 := HO4_5_6_7_8_9_10_11_12_13
      have hne14 : (bw != bw) = false := by simp
      go_wp2_with fail
      refine (eqD r4 f4 x4 HPA14.out HPB14.out HKK7.out.symm (by have := HSZ7.out; omega)).mono ?_
      rintro e v14 ⟨rfl, hx14⟩
      clear HPA14 HPB14
      clear bgq0 bgq1 bgq2 bgq3 bgq4 bgq5
      clear bwq0 bwq1 bwq2 bwq3 bwq4 bwq5
      have hst14 : Below v13.heap.size v13 v14 := hx14
      have z14 : v13.heap.size ≤ v14.heap.size := hst14.size
      have HO4_5_6_7_8_9_10_11_12_13_14 := Lib.hid (HO4_5_6_7_8_9_10_11_12_13.out.below (Nat.le_refl _) hst14)
      clear HO4_5_6_7_8_9_10_11_12_13
      have HO7_8_9_10_11_12_13_14 := Lib.hid (HO7_8_9_10_11_12_13.out.below (Nat.le_refl _) hst14)
      clear HO7_8_9_10_11_12_13
      have HB14 := Lib.hid (HB13.out.trans (hst14.mono (Nat.le_of_lt s13a)))
      have XA1_2_3_4_5_6_7_8_9_10_11_12_13_14 := Lib.hid (XA1_2_3_4_5_6_7_8_9_10_11_12_13.out.below hst14 s13a)
      clear XA1_2_3_4_5_6_7_8_9_10_11_12_13
      have s14a : w.heap.size < v14.heap.size := Nat.lt_of_lt_of_le s13a hst14.size
      clear s13a
      have Xbw_6_7_8_9_10_11_12_13_14 := Lib.hid (Xbw_6_7_8_9_10_11_12_13.out.below hst14 s13bw)
      clear Xbw_6_7_8_9_10_11_12_13
      have s14bw : v4.heap.size < v14.heap.size := Nat.lt_of_lt_of_le s13bw hst14.size
      clear s13bw
      have Xbx_7_8_9_10_11_12_13_14 := Lib.hid (Xbx_7_8_9_10_11_12_13.out.below hst14 s13bx)
      clear Xbx_7_8_9_10_11_12_13
      have s14bx : v5.heap.size < v14.heap.size := Nat.lt_of_lt_of_le s13bx hst14.size
      clear s13bx
      have Xbg_9_10_11_12_13_14 := Lib.hid (Xbg_9_10_11_12_13.out.below hst14 s13bg)
      clear Xbg_9_10_11_12_13
      have s14bg : v7.heap.size < v14.heap.size := Nat.lt_of_lt_of_le s13bg hst14.size
      clear s13bg
      clear hx14 hst14
      have HN1 := Lib.hid HO7_8_9_10_11_12_13_14.out.lenF
      have HN2 := Lib.hid HO7_8_9_10_11_12_13_14.out.lenL
      have HN3 := Lib.hid HO7_8_9_10_11_12_13_14.out.lenT
      obtain ⟨bgq0, bgq1, bgq2, bgq3, bgq4, bgq5⟩ := Xbg_9_10_11_12_13_14.out
      go_wp2_with fail
      refine (markDisk_any r4 f4 x4 _ F7 nf4 cf7 K7 nk4 ck7 T7 nt4 ct7 g7 l4 t4 1 _ HO7_8_9_10_11_12_13_14.out HO7_8_9_10_11_12_13_14.out.lenF HO7_8_9_10_11_12_13_14.out.lenL HO7_8_9_10_11_12_13_14.out.lenT (by decide) (by have := HSZ7.out; omega)).mono ?_
      rintro e v15 ⟨rfl, ho15, on15⟩
      obtain ⟨m15, hm15⟩ : ∃ m, m = 1 + 2 * nf4 + usedD g7 + 2 * nk4 + 4 * nt4 := ⟨_, rfl⟩
      rw [← hm15]
      have hz15 : decide ((m15 : Int) < 0) = false := decide_eq_false (by omega)
      have HM15 := Lib.hid hm15
      clear hm15
      have HO15 := Lib.hid ho15
      clear ho15
      clear bgq0 bgq1 bgq2 bgq3 bgq4 bgq5
      have HO4_5_6_7_8_9_10_11_12_13_14_15 := Lib.hid (HO4_5_6_7_8_9_10_11_12_13_14.out.only on15 (fun i hi hs => by have h1 := HL4.out i hi; have h2 := HL7.out i hs; have hq1 := h1.2.1; have hq2 := h2.2.1; rcases Nat.lt_or_ge i i with h | h <;> omega))
      clear HO4_5_6_7_8_9_10_11_12_13_14
      have HB15 := Lib.hid (Only.below_ on15 HB14.out (Nat.le_of_lt s14a) (fun i hs => by have h2 := HL7.out i hs; omega))
      have z15 : v14.heap.size ≤ v15.heap.size := on15.size
      have XA1_2_3_4_5_6_7_8_9_10_11_12_13_14_15 := Lib.hid (XA1_2_3_4_5_6_7_8_9_10_11_12_13_14.out.only on15 (fun hs => by have h2 := HL7.out _ hs; first | omega | exact h2.2.1 rfl))
      clear XA1_2_3_4_5_6_7_8_9_10_11_12_13_14
      have s15a : w.heap.size < v15.heap.size := Nat.lt_of_lt_of_le s14a on15.size
      clear s14a
      have Xbw_6_7_8_9_10_11_12_13_14_15 := Lib.hid (Xbw_6_7_8_9_10_11_12_13_14.out.only on15 (fun hs => by have h2 := HL7.out _ hs; first | omega | exact h2.2.1 rfl))
      clear Xbw_6_7_8_9_10_11_12_13_14
      have s15bw : v4.heap.size < v15.heap.size := Nat.lt_of_lt_of_le s14bw on15.size
      clear s14bw
      have Xbx_7_8_9_10_11_12_13_14_15 := Lib.hid (Xbx_7_8_9_10_11_12_13_14.out.only on15 (fun hs => by have h2 := HL7.out _ hs; first | omega | exact h2.2.1 rfl))
      clear Xbx_7_8_9_10_11_12_13_14
      have s15bx : v5.heap.size < v15.heap.size := Nat.lt_of_lt_of_le s14bx on15.size
      clear s14bx
      have Xbg_9_10_11_12_13_14_15 := Lib.hid (Xbg_9_10_11_12_13_14.out.only on15 (fun hs => by have h2 := HL7.out _ hs; first | omega | exact h2.2.1 rfl))
      clear Xbg_9_10_11_12_13_14
      have s15bg : v7.heap.size < v15.heap.size := Nat.lt_of_lt_of_le s14bg on15.size
      clear s14bg
      clear on15 HO7_8_9_10_11_12_13_14
      have hmm : ((m15 : Int) != (m15 : Int)) = false := by simp
      obtain ⟨bgq0, bgq1, bgq2, bgq3, bgq4, bgq5⟩ := Xbg_9_10_11_12_13_14_15.out
      go_wp2_with fail
      refine (heldD r4 f4 x4 g7 l4 t4 1 HO15.out HN1.out HN2.out HN3.out (by decide) (by have := HSZ7.out; omega)).mono ?_
      rintro e v16 ⟨rfl, hx16⟩
      rw [← HM15.out]
      clear bgq0 bgq1 bgq2 bgq3 bgq4 bgq5
      have hst16 : Below v15.heap.size v15 v16 := hx16
      have z16 : v15.heap.size ≤ v16.heap.size := hst16.size
      have HO4_5_6_7_8_9_10_11_12_13_14_15_16 := Lib.hid (HO4_5_6_7_8_9_10_11_12_13_14_15.out.below (Nat.le_refl _) hst16)
      clear HO4_5_6_7_8_9_10_11_12_13_14_15
      have HO15_16 := Lib.hid (HO15.out.below (Nat.le_refl _) hst16)
      clear HO15
      have HB16 := Lib.hid (HB15.out.trans (hst16.mono (Nat.le_of_lt s15a)))
      have XA1_2_3_4_5_6_7_8_9_10_11_12_13_14_15_16 := Lib.hid (XA1_2_3_4_5_6_7_8_9_10_11_12_13_14_15.out.below hst16 s15a)
      clear XA1_2_3_4_5_6_7_8_9_10_11_12_13_14_15
      have s16a : w.heap.size < v16.heap.size := Nat.lt_of_lt_of_le s15a hst16.size
      clear s15a
      have Xbw_6_7_8_9_10_11_12_13_14_15_16 := Lib.hid (Xbw_6_7_8_9_10_11_12_13_14_15.out.below hst16 s15bw)
      clear Xbw_6_7_8_9_10_11_12_13_14_15
      have s16bw : v4.heap.size < v16.heap.size := Nat.lt_of_lt_of_le s15bw hst16.size
      clear s15bw
      have Xbx_7_8_9_10_11_12_13_14_15_16 := Lib.hid (Xbx_7_8_9_10_11_12_13_14_15.out.below hst16 s15bx)
      clear Xbx_7_8_9_10_11_12_13_14_15
      have s16bx : v5.heap.size < v16.heap.size := Nat.lt_of_lt_of_le s15bx hst16.size
      clear s15bx
      have Xbg_9_10_11_12_13_14_15_16 := Lib.hid (Xbg_9_10_11_12_13_14_15.out.below hst16 s15bg)
      clear Xbg_9_10_11_12_13_14_15
      have s16bg : v7.heap.size < v16.heap.size := Nat.lt_of_lt_of_le s15bg hst16.size
      clear s15bg
      clear hx16 hst16
      obtain ⟨aq0, aq1, aq2, aq3, aq4, aq5⟩ := XA1_2_3_4_5_6_7_8_9_10_11_12_13_14_15_16.out
      have HPB17 := HB16
      go_wp2_with fail
      refine (HT1.out _ HPB17.out).mono ?_
      rintro e v17 ⟨F17, cf17, K17, ck17, T17, ct17, g17, rfl, ho17, hk17, hx17⟩
      clear HPB17
      clear aq0 aq1 aq2 aq3 aq4 aq5
      have HO17 := Lib.hid ho17
      have HK17 := Lib.hid hk17
      have HL17 := Lib.hid (show ∀ i, SD F17 nf cf17 g17 K17 nk ck17 T17 nt ct17 i → v16.heap.size ≤ i ∧ (v16.heap.size = i → True) ∧ i < v17.heap.size from fun i hi => by have := ho17.lt i hi; exact ⟨by omega, fun _ => trivial, this.2⟩)
      clear ho17 hk17
      have hst17 : Below v16.heap.size v16 v17 := hx17
      have z17 : v16.heap.size ≤ v17.heap.size := hst17.size
      have HO4_5_6_7_8_9_10_11_12_13_14_15_16_17 := Lib.hid (HO4_5_6_7_8_9_10_11_12_13_14_15_16.out.below (Nat.le_refl _) hst17)
      clear HO4_5_6_7_8_9_10_11_12_13_14_15_16
      have HO15_16_17 := Lib.hid (HO15_16.out.below (Nat.le_refl _) hst17)
      clear HO15_16
      have HB17 := Lib.hid (HB16.out.trans (hst17.mono (Nat.le_of_lt s16a)))
      have XA1_2_3_4_5_6_7_8_9_10_11_12_13_14_15_16_17 := Lib.hid (XA1_2_3_4_5_6_7_8_9_10_11_12_13_14_15_16.out.below hst17 s16a)
      clear XA1_2_3_4_5_6_7_8_9_10_11_12_13_14_15_16
      have s17a : w.heap.size < v17.heap.size := Nat.lt_of_lt_of_le s16a hst17.size
      clear s16a
      have Xbw_6_7_8_9_10_11_12_13_14_15_16_17 := Lib.hid (Xbw_6_7_8_9_10_11_12_13_14_15_16.out.below hst17 s16bw)
      clear Xbw_6_7_8_9_10_11_12_13_14_15_16
      have s17bw : v4.heap.size < v17.heap.size := Nat.lt_of_lt_of_le s16bw hst17.size
      clear s16bw
      have Xbx_7_8_9_10_11_12_13_14_15_16_17 := Lib.hid (Xbx_7_8_9_10_11_12_13_14_15_16.out.below hst17 s16bx)
      clear Xbx_7_8_9_10_11_12_13_14_15_16
      have s17bx : v5.heap.size < v17.heap.size := Nat.lt_of_lt_of_le s16bx hst17.size
      clear s16bx
      have Xbg_9_10_11_12_13_14_15_16_17 := Lib.hid (Xbg_9_10_11_12_13_14_15_16.out.below hst17 s16bg)
      clear Xbg_9_10_11_12_13_14_15_16
      have s17bg : v7.heap.size < v17.heap.size := Nat.lt_of_lt_of_le s16bg hst17.size
      clear s16bg
      clear hx17 hst17
      have HPB18 := HB17
      go_wp2_with fail
      refine (HIN.out _ HPB18.out).mono ?_
      rintro e v18 ⟨C18, cc18, rfl, ho18, hx18⟩
      clear HPB18
      have HO18 := Lib.hid ho18
      have HL18 := Lib.hid (show ∀ i, (Value.slice C18 nc cc18).ownBlock = some i → v17.heap.size ≤ i ∧ (v17.heap.size = i → True) ∧ i < v18.heap.size from fun i hi => by have := ho18.blk i hi; exact ⟨by omega, fun _ => trivial, this.2⟩)
      clear ho18
      have hst18 : Below v17.heap.size v17 v18 := hx18
      have z18 : v17.heap.size ≤ v18.heap.size := hst18.size
      have HO4_5_6_7_8_9_10_11_12_13_14_15_16_17_18 := Lib.hid (HO4_5_6_7_8_9_10_11_12_13_14_15_16_17.out.below (Nat.le_refl _) hst18)
      clear HO4_5_6_7_8_9_10_11_12_13_14_15_16_17
      have HO15_16_17_18 := Lib.hid (HO15_16_17.out.below (Nat.le_refl _) hst18)
      clear HO15_16_17
      have HO17_18 := Lib.hid (HO17.out.below (Nat.le_refl _) hst18)
      clear HO17
      have HB18 := Lib.hid (HB17.out.trans (hst18.mono (Nat.le_of_lt s17a)))
      have XA1_2_3_4_5_6_7_8_9_10_11_12_13_14_15_16_17_18 := Lib.hid (XA1_2_3_4_5_6_7_8_9_10_11_12_13_14_15_16_17.out.below hst18 s17a)
      clear XA1_2_3_4_5_6_7_8_9_10_11_12_13_14_15_16_17
      have s18a : w.heap.size < v18.heap.size := Nat.lt_of_lt_of_le s17a hst18.size
      clear s17a
      have Xbw_6_7_8_9_10_11_12_13_14_15_16_17_18 := Lib.hid (Xbw_6_7_8_9_10_11_12_13_14_15_16_17.out.below hst18 s17bw)
      clear Xbw_6_7_8_9_10_11_12_13_14_15_16_17
      have s18bw : v4.heap.size < v18.heap.size := Nat.lt_of_lt_of_le s17bw hst18.size
      clear s17bw
      have Xbx_7_8_9_10_11_12_13_14_15_16_17_18 := Lib.hid (Xbx_7_8_9_10_11_12_13_14_15_16_17.out.below hst18 s17bx)
      clear Xbx_7_8_9_10_11_12_13_14_15_16_17
      have s18bx : v5.heap.size < v18.heap.size := Nat.lt_of_lt_of_le s17bx hst18.size
      clear s17bx
      have Xbg_9_10_11_12_13_14_15_16_17_18 := Lib.hid (Xbg_9_10_11_12_13_14_15_16_17.out.below hst18 s17bg)
      clear Xbg_9_10_11_12_13_14_15_16_17
      have s18bg : v7.heap.size < v18.heap.size := Nat.lt_of_lt_of_le s17bg hst18.size
      clear s17bg
      clear hx18 hst18
      have HPO19 := HO17_18
      go_wp2_with fail
      refine (implC_own room fuse next a1 HM0.out hmn HPO19.out HO18.out (by omega) HK17.out HSZ.out HFI.out HKS.out HTS.out).mono ?_
      rintro e v19 ⟨r19, f19, x19, F19, nf19, cf19, g19, K19, nk19, ck19, l19, T19, nt19, ct19, t19, o19, rfl, ho19, hd19, hx19⟩
      clear HPO19
      have HO19 := Lib.hid ho19
      have HD19 := Lib.hid hd19
      have HL19 := Lib.hid (show ∀ i, SD F19 nf19 cf19 g19 K19 nk19 ck19 T19 nt19 ct19 i → v18.heap.size ≤ i ∧ (v18.heap.size = i → True) ∧ i < v19.heap.size from fun i hi => by have := ho19.lt i hi; exact ⟨by omega, fun _ => trivial, this.2⟩)
      clear ho19 hd19
      have hst19 : Below v18.heap.size v18 v19 := hx19
      have z19 : v18.heap.size ≤ v19.heap.size := hst19.size
      have HO4_5_6_7_8_9_10_11_12_13_14_15_16_17_18_19 := Lib.hid (HO4_5_6_7_8_9_10_11_12_13_14_15_16_17_18.out.below (Nat.le_refl _) hst19)
      clear HO4_5_6_7_8_9_10_11_12_13_14_15_16_17_18
      have HO15_16_17_18_19 := Lib.hid (HO15_16_17_18.out.below (Nat.le_refl _) hst19)
      clear HO15_16_17_18
      have HO17_18_19 := Lib.hid (HO17_18.out.below (Nat.le_refl _) hst19)
      clear HO17_18
      have HO18_19 := Lib.hid (HO18.out.below (Nat.le_refl _) hst19)
      clear HO18
      have HB19 := Lib.hid (HB18.out.trans (hst19.mono (Nat.le_of_lt s18a)))
      have XA1_2_3_4_5_6_7_8_9_10_11_12_13_14_15_16_17_18_19 := Lib.hid (XA1_2_3_4_5_6_7_8_9_10_11_12_13_14_15_16_17_18.out.below hst19 s18a)
      clear XA1_2_3_4_5_6_7_8_9_10_11_12_13_14_15_16_17_18
      have s19a : w.heap.size < v19.heap.size := Nat.lt_of_lt_of_le s18a hst19.size
      clear s18a
      have Xbw_6_7_8_9_10_11_12_13_14_15_16_17_18_19 := Lib.hid (Xbw_6_7_8_9_10_11_12_13_14_15_16_17_18.out.below hst19 s18bw)
      clear Xbw_6_7_8_9_10_11_12_13_14_15_16_17_18
      have s19bw : v4.heap.size < v19.heap.size := Nat.lt_of_lt_of_le s18bw hst19.size
      clear s18bw
      have Xbx_7_8_9_10_11_12_13_14_15_16_17_18_19 := Lib.hid (Xbx_7_8_9_10_11_12_13_14_15_16_17_18.out.below hst19 s18bx)
      clear Xbx_7_8_9_10_11_12_13_14_15_16_17_18
      have s19bx : v5.heap.size < v19.heap.size := Nat.lt_of_lt_of_le s18bx hst19.size
      clear s18bx
      have Xbg_9_10_11_12_13_14_15_16_17_18_19 := Lib.hid (Xbg_9_10_11_12_13_14_15_16_17_18.out.below hst19 s18bg)
      clear Xbg_9_10_11_12_13_14_15_16_17_18
      have s19bg : v7.heap.size < v19.heap.size := Nat.lt_of_lt_of_le s18bg hst19.size
      clear s18bg
      clear hx19 hst19
      clear HO17_18_19 HL17 HK17
      clear HO18_19 HL18 
      obtain ⟨e1, e2, e3, hkk19, e5, e6, e7⟩ := CrashD.same HDW.out HD19.out
      replace e1 := e1.symm
      replace e2 := e2.symm
      replace e3 := e3.symm
      replace e5 := e5.symm
      replace e6 := e6.symm
      replace e7 := e7.symm
      subst e1 e2 e3 e5 e6 e7
      have HKK19 := Lib.hid hkk19
      clear hkk19 HD19
      have n1 : nf4 = nf19 := by rw [← HO19.out.lenF, ← HO4_5_6_7_8_9_10_11_12_13_14_15_16_17_18_19.out.lenF]; exact (keys_len HKK19.out).symm
      have n2 : nk4 = nk19 := by rw [← HO19.out.lenL, ← HO4_5_6_7_8_9_10_11_12_13_14_15_16_17_18_19.out.lenL]
      have n3 : nt4 = nt19 := by rw [← HO19.out.lenT, ← HO4_5_6_7_8_9_10_11_12_13_14_15_16_17_18_19.out.lenT]
      subst n1 n2 n3
      have HSZ19 := Lib.hid (show usedD g19 + nf4 + nk4 + nt4 ≤ 1048576 by rw [keys_used HKK19.out]; exact HSW.out)
      obtain ⟨bwq0, bwq1, bwq2, bwq3, bwq4, bwq5⟩ := Xbw_6_7_8_9_10_11_12_13_14_15_16_17_18_19.out
      have hal20 := ((Below.refl _ v19).alloc (Nat.le_refl _) (.cells #[.int .i64 r4, .int .i64 f4, .int .i64 x4, .slice F19 nf4 cf19, .slice K19 nk4 ck19, .slice T19 nt4 ct19] 36))
      have HPA20 := Lib.hid (HO19.out.below (Nat.le_refl _) hal20)
      have HPB20 := Lib.hid (HO4_5_6_7_8_9_10_11_12_13_14_15_16_17_18_19.out.below (Nat.le_refl _) hal20)
      clear hal20
      have hne20 : (bw != bw) = false := by simp
      go_wp2_with fail
      refine (eqD r4 f4 x4 HPA20.out HPB20.out HKK19.out.symm (by have := HSZ19.out; omega)).mono ?_
      rintro e v20 ⟨rfl, hx20⟩
      clear HPA20 HPB20
      clear bwq0 bwq1 bwq2 bwq3 bwq4 bwq5
      have hst20 : Below v19.heap.size v19 v20 := ((Below.refl _ _).alloc (Nat.le_refl _) (.cells #[.int .i64 r4, .int .i64 f4, .int .i64 x4, .slice F19 nf4 cf19, .slice K19 nk4 ck19, .slice T19 nt4 ct19] 36)).trans (hx20.mono (by simp))
      have z20 : v19.heap.size ≤ v20.heap.size := hst20.size
      have HO4_5_6_7_8_9_10_11_12_13_14_15_16_17_18_19_20 := Lib.hid (HO4_5_6_7_8_9_10_11_12_13_14_15_16_17_18_19.out.below (Nat.le_refl _) hst20)
      clear HO4_5_6_7_8_9_10_11_12_13_14_15_16_17_18_19
      have HO15_16_17_18_19_20 := Lib.hid (HO15_16_17_18_19.out.below (Nat.le_refl _) hst20)
      clear HO15_16_17_18_19
      have HO19_20 := Lib.hid (HO19.out.below (Nat.le_refl _) hst20)
      clear HO19
      have HB20 := Lib.hid (HB19.out.trans (hst20.mono (Nat.le_of_lt s19a)))
      have XA1_2_3_4_5_6_7_8_9_10_11_12_13_14_15_16_17_18_19_20 := Lib.hid (XA1_2_3_4_5_6_7_8_9_10_11_12_13_14_15_16_17_18_19.out.below hst20 s19a)
      clear XA1_2_3_4_5_6_7_8_9_10_11_12_13_14_15_16_17_18_19
      have s20a : w.heap.size < v20.heap.size := Nat.lt_of_lt_of_le s19a hst20.size
      clear s19a
      have Xbw_6_7_8_9_10_11_12_13_14_15_16_17_18_19_20 := Lib.hid (Xbw_6_7_8_9_10_11_12_13_14_15_16_17_18_19.out.below hst20 s19bw)
      clear Xbw_6_7_8_9_10_11_12_13_14_15_16_17_18_19
      have s20bw : v4.heap.size < v20.heap.size := Nat.lt_of_lt_of_le s19bw hst20.size
      clear s19bw
      have Xbx_7_8_9_10_11_12_13_14_15_16_17_18_19_20 := Lib.hid (Xbx_7_8_9_10_11_12_13_14_15_16_17_18_19.out.below hst20 s19bx)
      clear Xbx_7_8_9_10_11_12_13_14_15_16_17_18_19
      have s20bx : v5.heap.size < v20.heap.size := Nat.lt_of_lt_of_le s19bx hst20.size
      clear s19bx
      have Xbg_9_10_11_12_13_14_15_16_17_18_19_20 := Lib.hid (Xbg_9_10_11_12_13_14_15_16_17_18_19.out.below hst20 s19bg)
      clear Xbg_9_10_11_12_13_14_15_16_17_18_19
      have s20bg : v7.heap.size < v20.heap.size := Nat.lt_of_lt_of_le s19bg hst20.size
      clear s19bg
      have Xbh := Lib.hid ((Box6.new v19 (.int .i64 r4) (.int .i64 f4) (.int .i64 x4) (.slice F19 nf4 cf19) (.slice K19 nk4 ck19) (.slice T19 nt4 ct19) 36).below hx20 (by simp))
      have s20bh : v19.heap.size < v20.heap.size := by have := hx20.size; simp at this; omega
      have tbh := s20bh
      clear hx20 hst20
      clear HO19_20 HL19 
      clear HO4_5_6_7_8_9_10_11_12_13_14_15_16_17_18_19_20 HL4 
      obtain ⟨bgq0, bgq1, bgq2, bgq3, bgq4, bgq5⟩ := Xbg_9_10_11_12_13_14_15_16_17_18_19_20.out
      go_wp2_with fail
      refine (heldD r4 f4 x4 g7 l4 t4 1 HO15_16_17_18_19_20.out HN1.out HN2.out HN3.out (by decide) (by have := HSZ7.out; omega)).mono ?_
      rintro e v21 ⟨rfl, hx21⟩
      rw [← HM15.out]
      clear bgq0 bgq1 bgq2 bgq3 bgq4 bgq5
      have hst21 : Below v20.heap.size v20 v21 := hx21
      have z21 : v20.heap.size ≤ v21.heap.size := hst21.size
      have HO15_16_17_18_19_20_21 := Lib.hid (HO15_16_17_18_19_20.out.below (Nat.le_refl _) hst21)
      clear HO15_16_17_18_19_20
      have HB21 := Lib.hid (HB20.out.trans (hst21.mono (Nat.le_of_lt s20a)))
      have XA1_2_3_4_5_6_7_8_9_10_11_12_13_14_15_16_17_18_19_20_21 := Lib.hid (XA1_2_3_4_5_6_7_8_9_10_11_12_13_14_15_16_17_18_19_20.out.below hst21 s20a)
      clear XA1_2_3_4_5_6_7_8_9_10_11_12_13_14_15_16_17_18_19_20
      have s21a : w.heap.size < v21.heap.size := Nat.lt_of_lt_of_le s20a hst21.size
      clear s20a
      have Xbw_6_7_8_9_10_11_12_13_14_15_16_17_18_19_20_21 := Lib.hid (Xbw_6_7_8_9_10_11_12_13_14_15_16_17_18_19_20.out.below hst21 s20bw)
      clear Xbw_6_7_8_9_10_11_12_13_14_15_16_17_18_19_20
      have s21bw : v4.heap.size < v21.heap.size := Nat.lt_of_lt_of_le s20bw hst21.size
      clear s20bw
      have Xbx_7_8_9_10_11_12_13_14_15_16_17_18_19_20_21 := Lib.hid (Xbx_7_8_9_10_11_12_13_14_15_16_17_18_19_20.out.below hst21 s20bx)
      clear Xbx_7_8_9_10_11_12_13_14_15_16_17_18_19_20
      have s21bx : v5.heap.size < v21.heap.size := Nat.lt_of_lt_of_le s20bx hst21.size
      clear s20bx
      have Xbg_9_10_11_12_13_14_15_16_17_18_19_20_21 := Lib.hid (Xbg_9_10_11_12_13_14_15_16_17_18_19_20.out.below hst21 s20bg)
      clear Xbg_9_10_11_12_13_14_15_16_17_18_19_20
      have s21bg : v7.heap.size < v21.heap.size := Nat.lt_of_lt_of_le s20bg hst21.size
      clear s20bg
      have Xbh_21 := Lib.hid (Xbh.out.below hst21 s20bh)
      clear Xbh
      have s21bh : v19.heap.size < v21.heap.size := Nat.lt_of_lt_of_le s20bh hst21.size
      clear s20bh
      clear hx21 hst21
      go_wp2_with fail
      go_ret
      exact ⟨rfl, HB21.out⟩
end Go.Proofs.YtckiloacbanbmaaGreat.fnExactDiskCrash
