/- FnExactDiskSet: the walk of the law from the contracts of the program, of its model and of the laws' helpers; at every input, no condition. -/
import Derived.Test.YtehhophjhjeenaaSetOwn
import Derived.Test.YtehhophjhjeenaaOpenDisk
import Derived.Deep.RegionWith
import Derived.Deep.Cut
import Derived.Deep.CutRange
import Derived.Deep.DeepCutAuto
namespace Go.Proofs.Ytehhophjhjeenaa.fnExactDiskSet
open Go.RowKit Go.Proofs.Ytehhophjhjeenaa.Bytes Go.Proofs.Ytehhophjhjeenaa.Rows_ Go.Proofs.Ytehhophjhjeenaa.DOk
set_option linter.unusedVariables false
theorem own : ownKnob Try.prog.godebug = none := by kernel_rfl
theorem undrew {W v : World} {B : Nat} (h : Below B W.drew v) : Below B W v := ⟨h.os, h.tape, h.output, h.size, h.block⟩
/-- what toDisk answers, with one word for what is owned -/
def ToD (room fuse next : Int) (nf nk nt : Nat) (fs : List FileD) (ks : List LinkD) (ts : List TurnD) (w : World) (e : Ending) (w' : World) : Prop :=
  ∃ F' cf' K' ck' T' ct' gs, e = .returned (.agg #[.int .i64 room, .int .i64 fuse, .int .i64 next, .slice F' nf cf', .slice K' nk ck', .slice T' nt ct']) ∧ OwnD w' w.heap.size F' nf cf' gs K' nk ck' ks T' nt ct' ts ∧ gs.map keyF = fs.map keyF ∧ Below w.heap.size w w'
theorem toOwn {room fuse next : Int} {nf nk nt : Nat} {fs : List FileD} {ks : List LinkD} {ts : List TurnD} {args : Array Value} {w : World} (h : Calls Try.prog 38 args w fun e w' => ∃ F' cf' K' ck' T' ct' gs, e = .returned (.agg #[.int .i64 room, .int .i64 fuse, .int .i64 next, .slice F' nf cf', .slice K' nk ck', .slice T' nt ct']) ∧
        OwnF w' w.heap.size F' nf cf' gs ∧ gs.map keyF = fs.map keyF ∧ OwnBs w' w.heap.size gs ∧ OwnL w' w.heap.size K' nk ck' ks ∧ OwnT w' w.heap.size T' nt ct' ts ∧ Below w.heap.size w w') : Calls Try.prog 38 args w (ToD room fuse next nf nk nt fs ks ts w) :=
  h.mono fun e w' ⟨F', cf', K', ck', T', ct', gs, h1, h2, h3, h4, h5, h6, h7⟩ => ⟨F', cf', K', ck', T', ct', gs, h1, ⟨h2, h4, h5, h6⟩, h3, h7⟩

set_option maxRecDepth 100000 in
set_option maxHeartbeats 16000000 in
theorem walk (room fuse next : Int) (F : Option Addr) (nf cf : Nat) (K : Option Addr) (nk ck : Nat) (T : Option Addr) (nt ct : Nat) (fs : List FileD) (ks : List LinkD) (ts : List TurnD) (a1 a2 : Int) (w : World)
    (hf : RdF w w.heap.size F fs) (hfl : fs.length = nf) (hfn : nf ≤ 9223372036854775807) (hrb : RdB w w.heap.size fs) (hfs : ∀ x ∈ fs, x.n ≤ 9223372036854775807 ∧ (Lit.int .i64 x.id).wf = true)
    (hk : RdL w w.heap.size K ks) (hkl : ks.length = nk) (hkn : nk ≤ 9223372036854775807) (hks : ∀ x ∈ ks, x.1.size ≤ maxLen ∧ (Lit.int .i64 x.2).wf = true)
    (ht : RdT w w.heap.size T ts) (htl : ts.length = nt) (htn : nt ≤ 9223372036854775807) (hts : ∀ x ∈ ts, x.name.size ≤ maxLen ∧ x.to_.size ≤ maxLen ∧ (Lit.int .i64 x.id).wf = true) (w1 : (Lit.int .i64 a1).wf = true) (w2 : (Lit.int .i64 a2).wf = true) :
    Calls Try.prog 9 #[.agg #[.int .i64 room, .int .i64 fuse, .int .i64 next, .slice F nf cf, .slice K nk ck, .slice T nt ct], .int .i64 a1, .int .i64 a2] w fun e w' => e = .returned (.bool true) ∧ Below w.heap.size w w' := by
  have hb0 := Lib.hid ((Below.refl w.heap.size w).alloc (Nat.le_refl _) (.cells #[.int .i64 room, .int .i64 fuse, .int .i64 next, .slice F nf cf, .slice K nk ck, .slice T nt ct] 66))
  have hx0 := Lib.hid (Box6.new w (.int .i64 room) (.int .i64 fuse) (.int .i64 next) (.slice F nf cf) (.slice K nk ck) (.slice T nt ct) 66)
  have RF := Lib.hid (fun W (h : Below w.heap.size w W) => (hf.below (Nat.le_refl _) h).more h.size)
  have RB := Lib.hid (fun W (h : Below w.heap.size w W) => (hrb.below (Nat.le_refl _) h).more h.size)
  have RL := Lib.hid (fun W (h : Below w.heap.size w W) => (hk.below (Nat.le_refl _) h).more h.size)
  have RT := Lib.hid (fun W (h : Below w.heap.size w W) => (ht.below (Nat.le_refl _) h).more h.size)
  have HSz := Lib.hid (fun W (h : Below w.heap.size w W) => szDisk_any room fuse next F nf cf K nk ck T nt ct fs ks ts 1048576 W (RF.out W h) hfl hfn (fun x hx => (hfs x hx).1) (RL.out W h) hkl hkn (fun x hx => by have := (hks x hx).1; unfold maxLen at this; exact this) (RT.out W h) htl htn (fun x hx => by have := hts x hx; unfold maxLen at this; exact ⟨this.1, this.2.1⟩) (by omega) (by omega))
  have HTo := Lib.hid (fun W (h : Below w.heap.size w W) (h1 : nf ≤ 2097152) (h2 : usedD fs ≤ 1099511627776) (h3 : nk ≤ 2097152) (h4 : nt ≤ 2097152) => toOwn (toDisk_any room fuse next F nf cf K nk ck T nt ct fs ks ts W (RF.out W h) hfl h1 (RB.out W h) (fun f hf => Nat.le_trans (n_used hf) h2) (RL.out W h) hkl h3 (RT.out W h) htl h4))
  have HFI := Lib.hid (show ∀ x ∈ fs, (Lit.int .i64 x.id).wf = true from fun x hx => (hfs x hx).2)
  have HKS := Lib.hid hks
  have HTS := Lib.hid hts
  clear w1 w2 hf hfl hrb hfs hk hkl hks ht htl hts RF RB RL RT
  go_enter Try.func9, Try.ntmps9
  go_wp2_with fail
  refine (HSz.out _ hb0.out).mono ?_
  rintro e v1 ⟨r, rfl, hr, hb1⟩
  have s1 : w.heap.size < v1.heap.size := by have := hb1.size; simp at this; omega
  have HB1 := Lib.hid (hb0.out.trans (hb1.mono (by simp)))
  have XA1 := Lib.hid (hx0.out.below hb1 (by simp))
  clear hb1 hb0 hx0 HSz
  rcases hr with rfl | ⟨hr0, hr1⟩
  · go_wp2_with fail
    go_ret
    exact ⟨rfl, HB1.out⟩
  · have hsz : nf + usedD fs + nk + nt ≤ 1048576 := by omega
    have HSZ := Lib.hid hsz
    have HT1 := Lib.hid (fun W (h : Below w.heap.size w W) => HTo.out W h (by omega) (by omega) (by omega) (by omega))
    clear hr1 hsz HTo
    have z1 := s1
    obtain ⟨aq0, aq1, aq2, aq3, aq4, aq5⟩ := XA1.out
    have HPB2 := HB1
    go_wp2_with fail
    refine (HT1.out _ HPB2.out).mono ?_
    rintro e v2 ⟨F2, cf2, K2, ck2, T2, ct2, g2, rfl, ho2, hk2, hx2⟩
    clear HPB2
    clear aq0 aq1 aq2 aq3 aq4 aq5
    have HO2 := Lib.hid ho2
    have HK2 := Lib.hid hk2
    have HL2 := Lib.hid (show ∀ i, SD F2 nf cf2 g2 K2 nk ck2 T2 nt ct2 i → v1.heap.size ≤ i ∧ (v1.heap.size = i → True) ∧ i < v2.heap.size from fun i hi => by have := ho2.lt i hi; exact ⟨by omega, fun _ => trivial, this.2⟩)
    clear ho2 hk2
    have hst2 : Below v1.heap.size v1 v2 := hx2
    have z2 : v1.heap.size ≤ v2.heap.size := hst2.size
    have HB2 := Lib.hid (HB1.out.trans (hst2.mono (Nat.le_of_lt s1)))
    have XA1_2 := Lib.hid (XA1.out.below hst2 s1)
    clear XA1
    have s2a : w.heap.size < v2.heap.size := Nat.lt_of_lt_of_le s1 hst2.size
    clear s1
    clear hx2 hst2
    have HPO3 := HO2
    go_wp2_with fail
    refine (spec_own room fuse next a1 a2 HPO3.out HK2.out HSZ.out HFI.out HKS.out HTS.out).mono ?_
    rintro e v3 ⟨r3, f3, x3, F3, nf3, cf3, g3, K3, nk3, ck3, l3, T3, nt3, ct3, t3, o3, rfl, ho3, hd3, hx3⟩
    clear HPO3
    have HO3 := Lib.hid ho3
    have HD3 := Lib.hid hd3
    have HL3 := Lib.hid (show ∀ i, SD F3 nf3 cf3 g3 K3 nk3 ck3 T3 nt3 ct3 i → v2.heap.size ≤ i ∧ (v2.heap.size = i → True) ∧ i < v3.heap.size from fun i hi => by have := ho3.lt i hi; exact ⟨by omega, fun _ => trivial, this.2⟩)
    clear ho3 hd3
    have hst3 : Below v2.heap.size v2 v3 := hx3
    have z3 : v2.heap.size ≤ v3.heap.size := hst3.size
    have HO2_3 := Lib.hid (HO2.out.below (Nat.le_refl _) hst3)
    clear HO2
    have HB3 := Lib.hid (HB2.out.trans (hst3.mono (Nat.le_of_lt s2a)))
    have XA1_2_3 := Lib.hid (XA1_2.out.below hst3 s2a)
    clear XA1_2
    have s3a : w.heap.size < v3.heap.size := Nat.lt_of_lt_of_le s2a hst3.size
    clear s2a
    clear hx3 hst3
    obtain ⟨bw, hbw⟩ := HD3.out.bool
    have HDW := Lib.hid (hbw ▸ HD3.out)
    subst hbw
    have HSW := Lib.hid (show usedD g3 + nf3 + nk3 + nt3 ≤ 1048576 by have h1 := HDW.out.size; have h2 := HSZ.out; rw [keys_used (HK2.out.symm), ← keys_len HK2.out] at h1; rw [keys_used (HK2.out.symm)] at h2; rw [HO2_3.out.lenF, HO2_3.out.lenL, HO2_3.out.lenT, HO3.out.lenF, HO3.out.lenL, HO3.out.lenT] at h1; omega)
    clear HD3
    clear HO2_3 HL2 HK2
    obtain ⟨aq0, aq1, aq2, aq3, aq4, aq5⟩ := XA1_2_3.out
    have HPB4 := Lib.hid (show Below w.heap.size w (v3.alloc (.cells #[.int .i64 r3, .int .i64 f3, .int .i64 x3, .slice F3 nf3 cf3, .slice K3 nk3 ck3, .slice T3 nt3 ct3] 51)) from HB3.out.trans ((Below.refl _ _).alloc (Nat.le_of_lt s3a) _))
    go_wp2_with fail
    refine (HT1.out _ HPB4.out).mono ?_
    rintro e v4 ⟨F4, cf4, K4, ck4, T4, ct4, g4, rfl, ho4, hk4, hx4⟩
    clear HPB4
    clear aq0 aq1 aq2 aq3 aq4 aq5
    have HO4 := Lib.hid ho4
    have HK4 := Lib.hid hk4
    have HL4 := Lib.hid (show ∀ i, SD F4 nf cf4 g4 K4 nk ck4 T4 nt ct4 i → v3.heap.size ≤ i ∧ (v3.heap.size = i → False) ∧ i < v4.heap.size from fun i hi => by have := ho4.lt i hi; simp at this; exact ⟨by omega, fun e => by omega, this.2⟩)
    clear ho4 hk4
    have hst4 : Below v3.heap.size v3 v4 := ((Below.refl _ _).alloc (Nat.le_refl _) (.cells #[.int .i64 r3, .int .i64 f3, .int .i64 x3, .slice F3 nf3 cf3, .slice K3 nk3 ck3, .slice T3 nt3 ct3] 51)).trans (hx4.mono (by simp))
    have z4 : v3.heap.size ≤ v4.heap.size := hst4.size
    have HO3_4 := Lib.hid (HO3.out.below (Nat.le_refl _) hst4)
    clear HO3
    have HB4 := Lib.hid (HB3.out.trans (hst4.mono (Nat.le_of_lt s3a)))
    have XA1_2_3_4 := Lib.hid (XA1_2_3.out.below hst4 s3a)
    clear XA1_2_3
    have s4a : w.heap.size < v4.heap.size := Nat.lt_of_lt_of_le s3a hst4.size
    clear s3a
    have Xbw := Lib.hid ((Box6.new v3 (.int .i64 r3) (.int .i64 f3) (.int .i64 x3) (.slice F3 nf3 cf3) (.slice K3 nk3 ck3) (.slice T3 nt3 ct3) 51).below hx4 (by simp))
    have s4bw : v3.heap.size < v4.heap.size := by have := hx4.size; simp at this; omega
    have tbw := s4bw
    clear hx4 hst4
    have HSX := Lib.hid (show usedD g4 + nf + nk + nt ≤ 1048576 by rw [keys_used HK4.out]; have := HSZ.out; omega)
    have HPO5 := Lib.hid (HO4.out.below (Nat.le_refl _) ((Below.refl _ v4).alloc (Nat.le_refl _) (.cells #[.int .i64 room, .int .i64 fuse, .int .i64 next, .slice F4 nf cf4, .slice K4 nk ck4, .slice T4 nt ct4] 51)))
    go_wp2_with fail
    refine (impl_own room fuse next a1 a2 HPO5.out HK4.out HSZ.out HFI.out HKS.out HTS.out).mono ?_
    rintro e v5 ⟨r5, f5, x5, F5, nf5, cf5, g5, K5, nk5, ck5, l5, T5, nt5, ct5, t5, o5, rfl, ho5, hd5, hx5⟩
    clear HPO5
    have HO5 := Lib.hid ho5
    have HD5 := Lib.hid hd5
    have HL5 := Lib.hid (show ∀ i, SD F5 nf5 cf5 g5 K5 nk5 ck5 T5 nt5 ct5 i → v4.heap.size ≤ i ∧ (v4.heap.size = i → False) ∧ i < v5.heap.size from fun i hi => by have := ho5.lt i hi; simp at this; exact ⟨by omega, fun e => by omega, this.2⟩)
    clear ho5 hd5
    have hst5 : Below v4.heap.size v4 v5 := ((Below.refl _ _).alloc (Nat.le_refl _) (.cells #[.int .i64 room, .int .i64 fuse, .int .i64 next, .slice F4 nf cf4, .slice K4 nk ck4, .slice T4 nt ct4] 51)).trans (hx5.mono (by simp))
    have z5 : v4.heap.size ≤ v5.heap.size := hst5.size
    have HO3_4_5 := Lib.hid (HO3_4.out.below (Nat.le_refl _) hst5)
    clear HO3_4
    have HO4_5 := Lib.hid (HO4.out.below (Nat.le_refl _) hst5)
    clear HO4
    have HB5 := Lib.hid (HB4.out.trans (hst5.mono (Nat.le_of_lt s4a)))
    have XA1_2_3_4_5 := Lib.hid (XA1_2_3_4.out.below hst5 s4a)
    clear XA1_2_3_4
    have s5a : w.heap.size < v5.heap.size := Nat.lt_of_lt_of_le s4a hst5.size
    clear s4a
    have Xbw_5 := Lib.hid (Xbw.out.below hst5 s4bw)
    clear Xbw
    have s5bw : v3.heap.size < v5.heap.size := Nat.lt_of_lt_of_le s4bw hst5.size
    clear s4bw
    have Xbx := Lib.hid ((Box6.new v4 (.int .i64 room) (.int .i64 fuse) (.int .i64 next) (.slice F4 nf cf4) (.slice K4 nk ck4) (.slice T4 nt ct4) 51).below hx5 (by simp))
    have s5bx : v4.heap.size < v5.heap.size := by have := hx5.size; simp at this; omega
    have tbx := s5bx
    clear hx5 hst5
    obtain ⟨e1, e2, e3, hkk5, e5, e6, e7⟩ := SetD.same HDW.out HD5.out
    replace e1 := e1.symm
    replace e2 := e2.symm
    replace e3 := e3.symm
    replace e5 := e5.symm
    replace e6 := e6.symm
    replace e7 := e7.symm
    subst e1 e2 e3 e5 e6 e7
    have HKK5 := Lib.hid hkk5
    clear hkk5 HD5
    have n1 : nf3 = nf5 := by rw [← HO5.out.lenF, ← HO3_4_5.out.lenF]; exact (keys_len HKK5.out).symm
    have n2 : nk3 = nk5 := by rw [← HO5.out.lenL, ← HO3_4_5.out.lenL]
    have n3 : nt3 = nt5 := by rw [← HO5.out.lenT, ← HO3_4_5.out.lenT]
    subst n1 n2 n3
    have HSZ5 := Lib.hid (show usedD g5 + nf3 + nk3 + nt3 ≤ 1048576 by rw [keys_used HKK5.out]; exact HSW.out)
    obtain ⟨bwq0, bwq1, bwq2, bwq3, bwq4, bwq5⟩ := Xbw_5.out
    have hal6 := ((Below.refl _ v5).alloc (Nat.le_refl _) (.cells #[.int .i64 r3, .int .i64 f3, .int .i64 x3, .slice F5 nf3 cf5, .slice K5 nk3 ck5, .slice T5 nt3 ct5] 51))
    have HPA6 := Lib.hid (HO5.out.below (Nat.le_refl _) hal6)
    have HPB6 := Lib.hid (HO3_4_5.out.below (Nat.le_refl _) hal6)
    clear hal6
    have hne6 : (bw != bw) = false := by simp
    go_wp2_with fail
    refine (eqD r3 f3 x3 HPA6.out HPB6.out HKK5.out.symm (by have := HSZ5.out; omega)).mono ?_
    rintro e v6 ⟨rfl, hx6⟩
    clear HPA6 HPB6
    clear bwq0 bwq1 bwq2 bwq3 bwq4 bwq5
    have hst6 : Below v5.heap.size v5 v6 := ((Below.refl _ _).alloc (Nat.le_refl _) (.cells #[.int .i64 r3, .int .i64 f3, .int .i64 x3, .slice F5 nf3 cf5, .slice K5 nk3 ck5, .slice T5 nt3 ct5] 51)).trans (hx6.mono (by simp))
    have z6 : v5.heap.size ≤ v6.heap.size := hst6.size
    have HO3_4_5_6 := Lib.hid (HO3_4_5.out.below (Nat.le_refl _) hst6)
    clear HO3_4_5
    have HO4_5_6 := Lib.hid (HO4_5.out.below (Nat.le_refl _) hst6)
    clear HO4_5
    have HO5_6 := Lib.hid (HO5.out.below (Nat.le_refl _) hst6)
    clear HO5
    have HB6 := Lib.hid (HB5.out.trans (hst6.mono (Nat.le_of_lt s5a)))
    have XA1_2_3_4_5_6 := Lib.hid (XA1_2_3_4_5.out.below hst6 s5a)
    clear XA1_2_3_4_5
    have s6a : w.heap.size < v6.heap.size := Nat.lt_of_lt_of_le s5a hst6.size
    clear s5a
    have Xbw_5_6 := Lib.hid (Xbw_5.out.below hst6 s5bw)
    clear Xbw_5
    have s6bw : v3.heap.size < v6.heap.size := Nat.lt_of_lt_of_le s5bw hst6.size
    clear s5bw
    have Xbx_6 := Lib.hid (Xbx.out.below hst6 s5bx)
    clear Xbx
    have s6bx : v4.heap.size < v6.heap.size := Nat.lt_of_lt_of_le s5bx hst6.size
    clear s5bx
    have Xbg := Lib.hid ((Box6.new v5 (.int .i64 r3) (.int .i64 f3) (.int .i64 x3) (.slice F5 nf3 cf5) (.slice K5 nk3 ck5) (.slice T5 nt3 ct5) 51).below hx6 (by simp))
    have s6bg : v5.heap.size < v6.heap.size := by have := hx6.size; simp at this; omega
    have tbg := s6bg
    clear hx6 hst6
    obtain ⟨aq0, aq1, aq2, aq3, aq4, aq5⟩ := XA1_2_3_4_5_6.out
    obtain ⟨bxq0, bxq1, bxq2, bxq3, bxq4, bxq5⟩ := Xbx_6.out
    go_upto_region 10 with fail
    go_cut [53] (fun s wx => s = .bool false ∧ Below v6.heap.size v6 wx)
    case first =>
      go_region_with (first
        | (go_at_call 38; refine (HT1.out _ ?_).mono ?_; exact ⟨HB6.out.os, HB6.out.tape, HB6.out.output, HB6.out.size, HB6.out.block⟩; rintro e y1 ⟨Fy, cfy, Ky, cky, Ty, cty, gy, rfl, hoy, hky, hxy'⟩; have hxy : Below v6.heap.size v6 y1 := undrew hxy'; clear hxy'; have HKY := Lib.hid hky; have HOY := Lib.hid hoy; have HPY := Lib.hid (HO4_5_6.out.below (Nat.le_refl _) hxy); obtain ⟨r0, r1, r2, r3, r4, r5⟩ := Xbx_6.out.below hxy s6bx; have HXY := Lib.hid hxy; have zy := hxy.size; clear hoy hky hxy)
        | (go_at_call 40; refine (eqD room fuse next HPY.out HOY.out (HKY.out.trans HK4.out.symm) (by have := HSX.out; omega)).mono ?_; rintro e y2 ⟨rfl, hxz⟩))
      all_goals
        have HE := Lib.hid (HXY.out.trans (hxz.mono zy))
        clear hxz
        go_wp2_with fail
        go_meet
        case rel => exact ⟨rfl, HE.out⟩
    case rest =>
      obtain ⟨rfl, hxc⟩ := hcut
      clear aq0 aq1 aq2 aq3 aq4 aq5
      clear bxq0 bxq1 bxq2 bxq3 bxq4 bxq5
      have hst7 : Below v6.heap.size v6 wc := hxc
      have z7 : v6.heap.size ≤ wc.heap.size := hst7.size
      have HO3_4_5_6_7 := Lib.hid (HO3_4_5_6.out.below (Nat.le_refl _) hst7)
      clear HO3_4_5_6
      have HO4_5_6_7 := Lib.hid (HO4_5_6.out.below (Nat.le_refl _) hst7)
      clear HO4_5_6
      have HO5_6_7 := Lib.hid (HO5_6.out.below (Nat.le_refl _) hst7)
      clear HO5_6
      have HB7 := Lib.hid (HB6.out.trans (hst7.mono (Nat.le_of_lt s6a)))
      have XA1_2_3_4_5_6_7 := Lib.hid (XA1_2_3_4_5_6.out.below hst7 s6a)
      clear XA1_2_3_4_5_6
      have s7a : w.heap.size < wc.heap.size := Nat.lt_of_lt_of_le s6a hst7.size
      clear s6a
      have Xbw_5_6_7 := Lib.hid (Xbw_5_6.out.below hst7 s6bw)
      clear Xbw_5_6
      have s7bw : v3.heap.size < wc.heap.size := Nat.lt_of_lt_of_le s6bw hst7.size
      clear s6bw
      have Xbx_6_7 := Lib.hid (Xbx_6.out.below hst7 s6bx)
      clear Xbx_6
      have s7bx : v4.heap.size < wc.heap.size := Nat.lt_of_lt_of_le s6bx hst7.size
      clear s6bx
      have Xbg_7 := Lib.hid (Xbg.out.below hst7 s6bg)
      clear Xbg
      have s7bg : v5.heap.size < wc.heap.size := Nat.lt_of_lt_of_le s6bg hst7.size
      clear s6bg
      clear hxc hst7
      obtain ⟨bxq0, bxq1, bxq2, bxq3, bxq4, bxq5⟩ := Xbx_6_7.out
      go_wp2_with fail
      refine (markDisk_any room fuse next _ F4 nf cf4 K4 nk ck4 T4 nt ct4 g4 ks ts 1 _ HO4_5_6_7.out HO4_5_6_7.out.lenF HO4_5_6_7.out.lenL HO4_5_6_7.out.lenT (by decide) (by have := HSX.out; omega)).mono ?_
      rintro e v8 ⟨rfl, ho8, on8⟩
      obtain ⟨m8, hm8⟩ : ∃ m, m = 1 + 2 * nf + usedD g4 + 2 * nk + 4 * nt := ⟨_, rfl⟩
      rw [← hm8]
      have hz8 : decide ((m8 : Int) < 0) = false := decide_eq_false (by omega)
      have HM8 := Lib.hid hm8
      clear hm8
      have HO8 := Lib.hid ho8
      clear ho8
      clear bxq0 bxq1 bxq2 bxq3 bxq4 bxq5
      have HO3_4_5_6_7_8 := Lib.hid (HO3_4_5_6_7.out.only on8 (fun i hi hs => by have h1 := HL3.out i hi; have h2 := HL4.out i hs; have hq1 := h1.2.1; have hq2 := h2.2.1; rcases Nat.lt_or_ge i i with h | h <;> omega))
      clear HO3_4_5_6_7
      have HO5_6_7_8 := Lib.hid (HO5_6_7.out.only on8 (fun i hi hs => by have h1 := HL5.out i hi; have h2 := HL4.out i hs; have hq1 := h1.2.1; have hq2 := h2.2.1; rcases Nat.lt_or_ge i i with h | h <;> omega))
      clear HO5_6_7
      have HB8 := Lib.hid (Only.below_ on8 HB7.out (Nat.le_of_lt s7a) (fun i hs => by have h2 := HL4.out i hs; omega))
      have z8 : wc.heap.size ≤ v8.heap.size := on8.size
      have XA1_2_3_4_5_6_7_8 := Lib.hid (XA1_2_3_4_5_6_7.out.only on8 (fun hs => by have h2 := HL4.out _ hs; first | omega | exact h2.2.1 rfl))
      clear XA1_2_3_4_5_6_7
      have s8a : w.heap.size < v8.heap.size := Nat.lt_of_lt_of_le s7a on8.size
      clear s7a
      have Xbw_5_6_7_8 := Lib.hid (Xbw_5_6_7.out.only on8 (fun hs => by have h2 := HL4.out _ hs; first | omega | exact h2.2.1 rfl))
      clear Xbw_5_6_7
      have s8bw : v3.heap.size < v8.heap.size := Nat.lt_of_lt_of_le s7bw on8.size
      clear s7bw
      have Xbx_6_7_8 := Lib.hid (Xbx_6_7.out.only on8 (fun hs => by have h2 := HL4.out _ hs; first | omega | exact h2.2.1 rfl))
      clear Xbx_6_7
      have s8bx : v4.heap.size < v8.heap.size := Nat.lt_of_lt_of_le s7bx on8.size
      clear s7bx
      have Xbg_7_8 := Lib.hid (Xbg_7.out.only on8 (fun hs => by have h2 := HL4.out _ hs; first | omega | exact h2.2.1 rfl))
      clear Xbg_7
      have s8bg : v5.heap.size < v8.heap.size := Nat.lt_of_lt_of_le s7bg on8.size
      clear s7bg
      clear on8 HO4_5_6_7
      clear HO8 HL4 HK4 HSX
      obtain ⟨bgq0, bgq1, bgq2, bgq3, bgq4, bgq5⟩ := Xbg_7_8.out
      obtain ⟨bwq0, bwq1, bwq2, bwq3, bwq4, bwq5⟩ := Xbw_5_6_7_8.out
      have HPA9 := HO5_6_7_8
      have HPB9 := HO3_4_5_6_7_8
      have hne9 : (bw != bw) = false := by simp
      go_wp2_with fail
      refine (eqD r3 f3 x3 HPA9.out HPB9.out HKK5.out.symm (by have := HSZ5.out; omega)).mono ?_
      rintro e v9 ⟨rfl, hx9⟩
      clear HPA9 HPB9
      clear bgq0 bgq1 bgq2 bgq3 bgq4 bgq5
      clear bwq0 bwq1 bwq2 bwq3 bwq4 bwq5
      have hst9 : Below v8.heap.size v8 v9 := hx9
      have z9 : v8.heap.size ≤ v9.heap.size := hst9.size
      have HO3_4_5_6_7_8_9 := Lib.hid (HO3_4_5_6_7_8.out.below (Nat.le_refl _) hst9)
      clear HO3_4_5_6_7_8
      have HO5_6_7_8_9 := Lib.hid (HO5_6_7_8.out.below (Nat.le_refl _) hst9)
      clear HO5_6_7_8
      have HB9 := Lib.hid (HB8.out.trans (hst9.mono (Nat.le_of_lt s8a)))
      have XA1_2_3_4_5_6_7_8_9 := Lib.hid (XA1_2_3_4_5_6_7_8.out.below hst9 s8a)
      clear XA1_2_3_4_5_6_7_8
      have s9a : w.heap.size < v9.heap.size := Nat.lt_of_lt_of_le s8a hst9.size
      clear s8a
      have Xbw_5_6_7_8_9 := Lib.hid (Xbw_5_6_7_8.out.below hst9 s8bw)
      clear Xbw_5_6_7_8
      have s9bw : v3.heap.size < v9.heap.size := Nat.lt_of_lt_of_le s8bw hst9.size
      clear s8bw
      have Xbx_6_7_8_9 := Lib.hid (Xbx_6_7_8.out.below hst9 s8bx)
      clear Xbx_6_7_8
      have s9bx : v4.heap.size < v9.heap.size := Nat.lt_of_lt_of_le s8bx hst9.size
      clear s8bx
      have Xbg_7_8_9 := Lib.hid (Xbg_7_8.out.below hst9 s8bg)
      clear Xbg_7_8
      have s9bg : v5.heap.size < v9.heap.size := Nat.lt_of_lt_of_le s8bg hst9.size
      clear s8bg
      clear hx9 hst9
      have HN1 := Lib.hid HO5_6_7_8_9.out.lenF
      have HN2 := Lib.hid HO5_6_7_8_9.out.lenL
      have HN3 := Lib.hid HO5_6_7_8_9.out.lenT
      obtain ⟨bgq0, bgq1, bgq2, bgq3, bgq4, bgq5⟩ := Xbg_7_8_9.out
      go_wp2_with fail
      refine (markDisk_any r3 f3 x3 _ F5 nf3 cf5 K5 nk3 ck5 T5 nt3 ct5 g5 l3 t3 1 _ HO5_6_7_8_9.out HO5_6_7_8_9.out.lenF HO5_6_7_8_9.out.lenL HO5_6_7_8_9.out.lenT (by decide) (by have := HSZ5.out; omega)).mono ?_
      rintro e v10 ⟨rfl, ho10, on10⟩
      obtain ⟨m10, hm10⟩ : ∃ m, m = 1 + 2 * nf3 + usedD g5 + 2 * nk3 + 4 * nt3 := ⟨_, rfl⟩
      rw [← hm10]
      have hz10 : decide ((m10 : Int) < 0) = false := decide_eq_false (by omega)
      have HM10 := Lib.hid hm10
      clear hm10
      have HO10 := Lib.hid ho10
      clear ho10
      clear bgq0 bgq1 bgq2 bgq3 bgq4 bgq5
      have HO3_4_5_6_7_8_9_10 := Lib.hid (HO3_4_5_6_7_8_9.out.only on10 (fun i hi hs => by have h1 := HL3.out i hi; have h2 := HL5.out i hs; have hq1 := h1.2.1; have hq2 := h2.2.1; rcases Nat.lt_or_ge i i with h | h <;> omega))
      clear HO3_4_5_6_7_8_9
      have HB10 := Lib.hid (Only.below_ on10 HB9.out (Nat.le_of_lt s9a) (fun i hs => by have h2 := HL5.out i hs; omega))
      have z10 : v9.heap.size ≤ v10.heap.size := on10.size
      have XA1_2_3_4_5_6_7_8_9_10 := Lib.hid (XA1_2_3_4_5_6_7_8_9.out.only on10 (fun hs => by have h2 := HL5.out _ hs; first | omega | exact h2.2.1 rfl))
      clear XA1_2_3_4_5_6_7_8_9
      have s10a : w.heap.size < v10.heap.size := Nat.lt_of_lt_of_le s9a on10.size
      clear s9a
      have Xbw_5_6_7_8_9_10 := Lib.hid (Xbw_5_6_7_8_9.out.only on10 (fun hs => by have h2 := HL5.out _ hs; first | omega | exact h2.2.1 rfl))
      clear Xbw_5_6_7_8_9
      have s10bw : v3.heap.size < v10.heap.size := Nat.lt_of_lt_of_le s9bw on10.size
      clear s9bw
      have Xbx_6_7_8_9_10 := Lib.hid (Xbx_6_7_8_9.out.only on10 (fun hs => by have h2 := HL5.out _ hs; first | omega | exact h2.2.1 rfl))
      clear Xbx_6_7_8_9
      have s10bx : v4.heap.size < v10.heap.size := Nat.lt_of_lt_of_le s9bx on10.size
      clear s9bx
      have Xbg_7_8_9_10 := Lib.hid (Xbg_7_8_9.out.only on10 (fun hs => by have h2 := HL5.out _ hs; first | omega | exact h2.2.1 rfl))
      clear Xbg_7_8_9
      have s10bg : v5.heap.size < v10.heap.size := Nat.lt_of_lt_of_le s9bg on10.size
      clear s9bg
      clear on10 HO5_6_7_8_9
      have hmm : ((m10 : Int) != (m10 : Int)) = false := by simp
      obtain ⟨bgq0, bgq1, bgq2, bgq3, bgq4, bgq5⟩ := Xbg_7_8_9_10.out
      go_wp2_with fail
      refine (heldD r3 f3 x3 g5 l3 t3 1 HO10.out HN1.out HN2.out HN3.out (by decide) (by have := HSZ5.out; omega)).mono ?_
      rintro e v11 ⟨rfl, hx11⟩
      rw [← HM10.out]
      clear bgq0 bgq1 bgq2 bgq3 bgq4 bgq5
      have hst11 : Below v10.heap.size v10 v11 := hx11
      have z11 : v10.heap.size ≤ v11.heap.size := hst11.size
      have HO3_4_5_6_7_8_9_10_11 := Lib.hid (HO3_4_5_6_7_8_9_10.out.below (Nat.le_refl _) hst11)
      clear HO3_4_5_6_7_8_9_10
      have HO10_11 := Lib.hid (HO10.out.below (Nat.le_refl _) hst11)
      clear HO10
      have HB11 := Lib.hid (HB10.out.trans (hst11.mono (Nat.le_of_lt s10a)))
      have XA1_2_3_4_5_6_7_8_9_10_11 := Lib.hid (XA1_2_3_4_5_6_7_8_9_10.out.below hst11 s10a)
      clear XA1_2_3_4_5_6_7_8_9_10
      have s11a : w.heap.size < v11.heap.size := Nat.lt_of_lt_of_le s10a hst11.size
      clear s10a
      have Xbw_5_6_7_8_9_10_11 := Lib.hid (Xbw_5_6_7_8_9_10.out.below hst11 s10bw)
      clear Xbw_5_6_7_8_9_10
      have s11bw : v3.heap.size < v11.heap.size := Nat.lt_of_lt_of_le s10bw hst11.size
      clear s10bw
      have Xbx_6_7_8_9_10_11 := Lib.hid (Xbx_6_7_8_9_10.out.below hst11 s10bx)
      clear Xbx_6_7_8_9_10
      have s11bx : v4.heap.size < v11.heap.size := Nat.lt_of_lt_of_le s10bx hst11.size
      clear s10bx
      have Xbg_7_8_9_10_11 := Lib.hid (Xbg_7_8_9_10.out.below hst11 s10bg)
      clear Xbg_7_8_9_10
      have s11bg : v5.heap.size < v11.heap.size := Nat.lt_of_lt_of_le s10bg hst11.size
      clear s10bg
      clear hx11 hst11
      obtain ⟨aq0, aq1, aq2, aq3, aq4, aq5⟩ := XA1_2_3_4_5_6_7_8_9_10_11.out
      have HPB12 := HB11
      go_wp2_with fail
      refine (HT1.out _ HPB12.out).mono ?_
      rintro e v12 ⟨F12, cf12, K12, ck12, T12, ct12, g12, rfl, ho12, hk12, hx12⟩
      clear HPB12
      clear aq0 aq1 aq2 aq3 aq4 aq5
      have HO12 := Lib.hid ho12
      have HK12 := Lib.hid hk12
      have HL12 := Lib.hid (show ∀ i, SD F12 nf cf12 g12 K12 nk ck12 T12 nt ct12 i → v11.heap.size ≤ i ∧ (v11.heap.size = i → True) ∧ i < v12.heap.size from fun i hi => by have := ho12.lt i hi; exact ⟨by omega, fun _ => trivial, this.2⟩)
      clear ho12 hk12
      have hst12 : Below v11.heap.size v11 v12 := hx12
      have z12 : v11.heap.size ≤ v12.heap.size := hst12.size
      have HO3_4_5_6_7_8_9_10_11_12 := Lib.hid (HO3_4_5_6_7_8_9_10_11.out.below (Nat.le_refl _) hst12)
      clear HO3_4_5_6_7_8_9_10_11
      have HO10_11_12 := Lib.hid (HO10_11.out.below (Nat.le_refl _) hst12)
      clear HO10_11
      have HB12 := Lib.hid (HB11.out.trans (hst12.mono (Nat.le_of_lt s11a)))
      have XA1_2_3_4_5_6_7_8_9_10_11_12 := Lib.hid (XA1_2_3_4_5_6_7_8_9_10_11.out.below hst12 s11a)
      clear XA1_2_3_4_5_6_7_8_9_10_11
      have s12a : w.heap.size < v12.heap.size := Nat.lt_of_lt_of_le s11a hst12.size
      clear s11a
      have Xbw_5_6_7_8_9_10_11_12 := Lib.hid (Xbw_5_6_7_8_9_10_11.out.below hst12 s11bw)
      clear Xbw_5_6_7_8_9_10_11
      have s12bw : v3.heap.size < v12.heap.size := Nat.lt_of_lt_of_le s11bw hst12.size
      clear s11bw
      have Xbx_6_7_8_9_10_11_12 := Lib.hid (Xbx_6_7_8_9_10_11.out.below hst12 s11bx)
      clear Xbx_6_7_8_9_10_11
      have s12bx : v4.heap.size < v12.heap.size := Nat.lt_of_lt_of_le s11bx hst12.size
      clear s11bx
      have Xbg_7_8_9_10_11_12 := Lib.hid (Xbg_7_8_9_10_11.out.below hst12 s11bg)
      clear Xbg_7_8_9_10_11
      have s12bg : v5.heap.size < v12.heap.size := Nat.lt_of_lt_of_le s11bg hst12.size
      clear s11bg
      clear hx12 hst12
      have HPO13 := HO12
      go_wp2_with fail
      refine (impl_own room fuse next a1 a2 HPO13.out HK12.out HSZ.out HFI.out HKS.out HTS.out).mono ?_
      rintro e v13 ⟨r13, f13, x13, F13, nf13, cf13, g13, K13, nk13, ck13, l13, T13, nt13, ct13, t13, o13, rfl, ho13, hd13, hx13⟩
      clear HPO13
      have HO13 := Lib.hid ho13
      have HD13 := Lib.hid hd13
      have HL13 := Lib.hid (show ∀ i, SD F13 nf13 cf13 g13 K13 nk13 ck13 T13 nt13 ct13 i → v12.heap.size ≤ i ∧ (v12.heap.size = i → True) ∧ i < v13.heap.size from fun i hi => by have := ho13.lt i hi; exact ⟨by omega, fun _ => trivial, this.2⟩)
      clear ho13 hd13
      have hst13 : Below v12.heap.size v12 v13 := hx13
      have z13 : v12.heap.size ≤ v13.heap.size := hst13.size
      have HO3_4_5_6_7_8_9_10_11_12_13 := Lib.hid (HO3_4_5_6_7_8_9_10_11_12.out.below (Nat.le_refl _) hst13)
      clear HO3_4_5_6_7_8_9_10_11_12
      have HO10_11_12_13 := Lib.hid (HO10_11_12.out.below (Nat.le_refl _) hst13)
      clear HO10_11_12
      have HO12_13 := Lib.hid (HO12.out.below (Nat.le_refl _) hst13)
      clear HO12
      have HB13 := Lib.hid (HB12.out.trans (hst13.mono (Nat.le_of_lt s12a)))
      have XA1_2_3_4_5_6_7_8_9_10_11_12_13 := Lib.hid (XA1_2_3_4_5_6_7_8_9_10_11_12.out.below hst13 s12a)
      clear XA1_2_3_4_5_6_7_8_9_10_11_12
      have s13a : w.heap.size < v13.heap.size := Nat.lt_of_lt_of_le s12a hst13.size
      clear s12a
      have Xbw_5_6_7_8_9_10_11_12_13 := Lib.hid (Xbw_5_6_7_8_9_10_11_12.out.below hst13 s12bw)
      clear Xbw_5_6_7_8_9_10_11_12
      have s13bw : v3.heap.size < v13.heap.size := Nat.lt_of_lt_of_le s12bw hst13.size
      clear s12bw
      have Xbx_6_7_8_9_10_11_12_13 := Lib.hid (Xbx_6_7_8_9_10_11_12.out.below hst13 s12bx)
      clear Xbx_6_7_8_9_10_11_12
      have s13bx : v4.heap.size < v13.heap.size := Nat.lt_of_lt_of_le s12bx hst13.size
      clear s12bx
      have Xbg_7_8_9_10_11_12_13 := Lib.hid (Xbg_7_8_9_10_11_12.out.below hst13 s12bg)
      clear Xbg_7_8_9_10_11_12
      have s13bg : v5.heap.size < v13.heap.size := Nat.lt_of_lt_of_le s12bg hst13.size
      clear s12bg
      clear hx13 hst13
      clear HO12_13 HL12 HK12
      obtain ⟨e1, e2, e3, hkk13, e5, e6, e7⟩ := SetD.same HDW.out HD13.out
      replace e1 := e1.symm
      replace e2 := e2.symm
      replace e3 := e3.symm
      replace e5 := e5.symm
      replace e6 := e6.symm
      replace e7 := e7.symm
      subst e1 e2 e3 e5 e6 e7
      have HKK13 := Lib.hid hkk13
      clear hkk13 HD13
      have n1 : nf3 = nf13 := by rw [← HO13.out.lenF, ← HO3_4_5_6_7_8_9_10_11_12_13.out.lenF]; exact (keys_len HKK13.out).symm
      have n2 : nk3 = nk13 := by rw [← HO13.out.lenL, ← HO3_4_5_6_7_8_9_10_11_12_13.out.lenL]
      have n3 : nt3 = nt13 := by rw [← HO13.out.lenT, ← HO3_4_5_6_7_8_9_10_11_12_13.out.lenT]
      subst n1 n2 n3
      have HSZ13 := Lib.hid (show usedD g13 + nf3 + nk3 + nt3 ≤ 1048576 by rw [keys_used HKK13.out]; exact HSW.out)
      obtain ⟨bwq0, bwq1, bwq2, bwq3, bwq4, bwq5⟩ := Xbw_5_6_7_8_9_10_11_12_13.out
      have hal14 := ((Below.refl _ v13).alloc (Nat.le_refl _) (.cells #[.int .i64 r3, .int .i64 f3, .int .i64 x3, .slice F13 nf3 cf13, .slice K13 nk3 ck13, .slice T13 nt3 ct13] 51))
      have HPA14 := Lib.hid (HO13.out.below (Nat.le_refl _) hal14)
      have HPB14 := Lib.hid (HO3_4_5_6_7_8_9_10_11_12_13.out.below (Nat.le_refl _) hal14)
      clear hal14
      have hne14 : (bw != bw) = false := by simp
      go_wp2_with fail
      refine (eqD r3 f3 x3 HPA14.out HPB14.out HKK13.out.symm (by have := HSZ13.out; omega)).mono ?_
      rintro e v14 ⟨rfl, hx14⟩
      clear HPA14 HPB14
      clear bwq0 bwq1 bwq2 bwq3 bwq4 bwq5
      have hst14 : Below v13.heap.size v13 v14 := ((Below.refl _ _).alloc (Nat.le_refl _) (.cells #[.int .i64 r3, .int .i64 f3, .int .i64 x3, .slice F13 nf3 cf13, .slice K13 nk3 ck13, .slice T13 nt3 ct13] 51)).trans (hx14.mono (by simp))
      have z14 : v13.heap.size ≤ v14.heap.size := hst14.size
      have HO3_4_5_6_7_8_9_10_11_12_13_14 := Lib.hid (HO3_4_5_6_7_8_9_10_11_12_13.out.below (Nat.le_refl _) hst14)
      clear HO3_4_5_6_7_8_9_10_11_12_13
      have HO10_11_12_13_14 := Lib.hid (HO10_11_12_13.out.below (Nat.le_refl _) hst14)
      clear HO10_11_12_13
      have HO13_14 := Lib.hid (HO13.out.below (Nat.le_refl _) hst14)
      clear HO13
      have HB14 := Lib.hid (HB13.out.trans (hst14.mono (Nat.le_of_lt s13a)))
      have XA1_2_3_4_5_6_7_8_9_10_11_12_13_14 := Lib.hid (XA1_2_3_4_5_6_7_8_9_10_11_12_13.out.below hst14 s13a)
      clear XA1_2_3_4_5_6_7_8_9_10_11_12_13
      have s14a : w.heap.size < v14.heap.size := Nat.lt_of_lt_of_le s13a hst14.size
      clear s13a
      have Xbw_5_6_7_8_9_10_11_12_13_14 := Lib.hid (Xbw_5_6_7_8_9_10_11_12_13.out.below hst14 s13bw)
      clear Xbw_5_6_7_8_9_10_11_12_13
      have s14bw : v3.heap.size < v14.heap.size := Nat.lt_of_lt_of_le s13bw hst14.size
      clear s13bw
      have Xbx_6_7_8_9_10_11_12_13_14 := Lib.hid (Xbx_6_7_8_9_10_11_12_13.out.below hst14 s13bx)
      clear Xbx_6_7_8_9_10_11_12_13
      have s14bx : v4.heap.size < v14.heap.size := Nat.lt_of_lt_of_le s13bx hst14.size
      clear s13bx
      have Xbg_7_8_9_10_11_12_13_14 := Lib.hid (Xbg_7_8_9_10_11_12_13.out.below hst14 s13bg)
      clear Xbg_7_8_9_10_11_12_13
      have s14bg : v5.heap.size < v14.heap.size := Nat.lt_of_lt_of_le s13bg hst14.size
      clear s13bg
      have Xbh := Lib.hid ((Box6.new v13 (.int .i64 r3) (.int .i64 f3) (.int .i64 x3) (.slice F13 nf3 cf13) (.slice K13 nk3 ck13) (.slice T13 nt3 ct13) 51).below hx14 (by simp))
      have s14bh : v13.heap.size < v14.heap.size := by have := hx14.size; simp at this; omega
      have tbh := s14bh
      clear hx14 hst14
      clear HO13_14 HL13 
      clear HO3_4_5_6_7_8_9_10_11_12_13_14 HL3 
      obtain ⟨bgq0, bgq1, bgq2, bgq3, bgq4, bgq5⟩ := Xbg_7_8_9_10_11_12_13_14.out
      go_wp2_with fail
      refine (heldD r3 f3 x3 g5 l3 t3 1 HO10_11_12_13_14.out HN1.out HN2.out HN3.out (by decide) (by have := HSZ5.out; omega)).mono ?_
      rintro e v15 ⟨rfl, hx15⟩
      rw [← HM10.out]
      clear bgq0 bgq1 bgq2 bgq3 bgq4 bgq5
      have hst15 : Below v14.heap.size v14 v15 := hx15
      have z15 : v14.heap.size ≤ v15.heap.size := hst15.size
      have HO10_11_12_13_14_15 := Lib.hid (HO10_11_12_13_14.out.below (Nat.le_refl _) hst15)
      clear HO10_11_12_13_14
      have HB15 := Lib.hid (HB14.out.trans (hst15.mono (Nat.le_of_lt s14a)))
      have XA1_2_3_4_5_6_7_8_9_10_11_12_13_14_15 := Lib.hid (XA1_2_3_4_5_6_7_8_9_10_11_12_13_14.out.below hst15 s14a)
      clear XA1_2_3_4_5_6_7_8_9_10_11_12_13_14
      have s15a : w.heap.size < v15.heap.size := Nat.lt_of_lt_of_le s14a hst15.size
      clear s14a
      have Xbw_5_6_7_8_9_10_11_12_13_14_15 := Lib.hid (Xbw_5_6_7_8_9_10_11_12_13_14.out.below hst15 s14bw)
      clear Xbw_5_6_7_8_9_10_11_12_13_14
      have s15bw : v3.heap.size < v15.heap.size := Nat.lt_of_lt_of_le s14bw hst15.size
      clear s14bw
      have Xbx_6_7_8_9_10_11_12_13_14_15 := Lib.hid (Xbx_6_7_8_9_10_11_12_13_14.out.below hst15 s14bx)
      clear Xbx_6_7_8_9_10_11_12_13_14
      have s15bx : v4.heap.size < v15.heap.size := Nat.lt_of_lt_of_le s14bx hst15.size
      clear s14bx
      have Xbg_7_8_9_10_11_12_13_14_15 := Lib.hid (Xbg_7_8_9_10_11_12_13_14.out.below hst15 s14bg)
      clear Xbg_7_8_9_10_11_12_13_14
      have s15bg : v5.heap.size < v15.heap.size := Nat.lt_of_lt_of_le s14bg hst15.size
      clear s14bg
      have Xbh_15 := Lib.hid (Xbh.out.below hst15 s14bh)
      clear Xbh
      have s15bh : v13.heap.size < v15.heap.size := Nat.lt_of_lt_of_le s14bh hst15.size
      clear s14bh
      clear hx15 hst15
      go_wp2_with fail
      go_ret
      exact ⟨rfl, HB15.out⟩
end Go.Proofs.Ytehhophjhjeenaa.fnExactDiskSet
