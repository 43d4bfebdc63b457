/- FnExactDiskDir: the walk of the law from the contracts of the program, of its model and of the laws' helpers; at every input, no condition. -/
import Derived.Test.YtmlodfceepokoaaDirOwn
import Derived.Test.YtmlodfceepokoaaHeldLink
import Derived.Test.YtmlodfceepokoaaSzDisk
import Derived.Test.YtmlodfceepokoaaOpenDisk
import Derived.Deep.RegionWith
import Derived.Deep.Cut
import Derived.Deep.CutRange
import Derived.Deep.DeepCutAuto
namespace Go.Proofs.Ytmlodfceepokoaa.fnExactDiskDir
open Go.RowKit Go.Proofs.Ytmlodfceepokoaa.Bytes Go.Proofs.Ytmlodfceepokoaa.Rows_ Go.Proofs.Ytmlodfceepokoaa.DOk
set_option linter.unusedVariables false
theorem own : ownKnob Try.prog.godebug = none := by kernel_rfl
theorem undrew_ {W v : World} {B : Nat} (h : Below B W.drew v) : Below B W v := ⟨h.os, h.tape, h.output, h.size, h.block⟩
/-- what toDisk answers, with one word for what is owned -/
def ToD (room fuse next : Int) (nf nk nt : Nat) (fs : List FileD) (ks : List LinkD) (ts : List TurnD) (w : World) (e : Ending) (w' : World) : Prop :=
  ∃ F' cf' K' ck' T' ct' gs, e = .returned (.agg #[.int .i64 room, .int .i64 fuse, .int .i64 next, .slice F' nf cf', .slice K' nk ck', .slice T' nt ct']) ∧ OwnD w' w.heap.size F' nf cf' gs K' nk ck' ks T' nt ct' ts ∧ gs.map keyF = fs.map keyF ∧ Below w.heap.size w w'
theorem toOwn {room fuse next : Int} {nf nk nt : Nat} {fs : List FileD} {ks : List LinkD} {ts : List TurnD} {args : Array Value} {w : World} (h : Calls Try.prog 39 args w fun e w' => ∃ F' cf' K' ck' T' ct' gs, e = .returned (.agg #[.int .i64 room, .int .i64 fuse, .int .i64 next, .slice F' nf cf', .slice K' nk ck', .slice T' nt ct']) ∧
        OwnF w' w.heap.size F' nf cf' gs ∧ gs.map keyF = fs.map keyF ∧ OwnBs w' w.heap.size gs ∧ OwnL w' w.heap.size K' nk ck' ks ∧ OwnT w' w.heap.size T' nt ct' ts ∧ Below w.heap.size w w') : Calls Try.prog 39 args w (ToD room fuse next nf nk nt fs ks ts w) :=
  h.mono fun e w' ⟨F', cf', K', ck', T', ct', gs, h1, h2, h3, h4, h5, h6, h7⟩ => ⟨F', cf', K', ck', T', ct', gs, h1, ⟨h2, h4, h5, h6⟩, h3, h7⟩

set_option maxRecDepth 100000 in
set_option maxHeartbeats 16000000 in
theorem walk (room fuse next : Int) (F : Option Addr) (nf cf : Nat) (K : Option Addr) (nk ck : Nat) (T : Option Addr) (nt ct : Nat) (fs : List FileD) (ks : List LinkD) (ts : List TurnD) (w : World)
    (hf : RdF w w.heap.size F fs) (hfl : fs.length = nf) (hfn : nf ≤ 9223372036854775807) (hrb : RdB w w.heap.size fs) (hfs : ∀ x ∈ fs, x.n ≤ 9223372036854775807 ∧ (Lit.int .i64 x.id).wf = true)
    (hk : RdL w w.heap.size K ks) (hkl : ks.length = nk) (hkn : nk ≤ 9223372036854775807) (hks : ∀ x ∈ ks, x.1.size ≤ maxLen ∧ (Lit.int .i64 x.2).wf = true)
    (ht : RdT w w.heap.size T ts) (htl : ts.length = nt) (htn : nt ≤ 9223372036854775807) (hts : ∀ x ∈ ts, x.name.size ≤ maxLen ∧ x.to_.size ≤ maxLen ∧ (Lit.int .i64 x.id).wf = true) :
    Calls Try.prog 10 #[.agg #[.int .i64 room, .int .i64 fuse, .int .i64 next, .slice F nf cf, .slice K nk ck, .slice T nt ct]] w fun e w' => e = .returned (.bool true) ∧ Below w.heap.size w w' := by
  have hb0 := Lib.hid ((Below.refl w.heap.size w).alloc (Nat.le_refl _) (.cells #[.int .i64 room, .int .i64 fuse, .int .i64 next, .slice F nf cf, .slice K nk ck, .slice T nt ct] 68))
  have hx0 := Lib.hid (Box6.new w (.int .i64 room) (.int .i64 fuse) (.int .i64 next) (.slice F nf cf) (.slice K nk ck) (.slice T nt ct) 68)
  have RF := Lib.hid (fun W (h : Below w.heap.size w W) => (hf.below (Nat.le_refl _) h).more h.size)
  have RB := Lib.hid (fun W (h : Below w.heap.size w W) => (hrb.below (Nat.le_refl _) h).more h.size)
  have RL := Lib.hid (fun W (h : Below w.heap.size w W) => (hk.below (Nat.le_refl _) h).more h.size)
  have RT := Lib.hid (fun W (h : Below w.heap.size w W) => (ht.below (Nat.le_refl _) h).more h.size)
  have HSz := Lib.hid (fun W (h : Below w.heap.size w W) => szDisk_any room fuse next F nf cf K nk ck T nt ct fs ks ts 1048576 W (RF.out W h) hfl hfn (fun x hx => (hfs x hx).1) (RL.out W h) hkl hkn (fun x hx => by have := (hks x hx).1; unfold maxLen at this; exact this) (RT.out W h) htl htn (fun x hx => by have := hts x hx; unfold maxLen at this; exact ⟨this.1, this.2.1⟩) (by omega) (by omega))
  have HTo := Lib.hid (fun W (h : Below w.heap.size w W) (h1 : nf ≤ 2097152) (h2 : usedD fs ≤ 1099511627776) (h3 : nk ≤ 2097152) (h4 : nt ≤ 2097152) => toOwn (toDisk_any room fuse next F nf cf K nk ck T nt ct fs ks ts W (RF.out W h) hfl h1 (RB.out W h) (fun f hf => Nat.le_trans (n_used hf) h2) (RL.out W h) hkl h3 (RT.out W h) htl h4))
  have HFI := Lib.hid (show ∀ x ∈ fs, (Lit.int .i64 x.id).wf = true from fun x hx => (hfs x hx).2)
  have HKS := Lib.hid hks
  have HTS := Lib.hid hts
  clear hf hfl hrb hfs hk hkl hks ht htl hts RF RB RL RT
  go_enter Try.func10, Try.ntmps10
  go_wp2_with fail
  refine (HSz.out _ hb0.out).mono ?_
  rintro e v1 ⟨r, rfl, hr, hb1⟩
  have s1 : w.heap.size < v1.heap.size := by have := hb1.size; simp at this; omega
  have HB1 := Lib.hid (hb0.out.trans (hb1.mono (by simp)))
  have XA1 := Lib.hid (hx0.out.below hb1 (by simp))
  clear hb1 hb0 hx0 HSz
  rcases hr with rfl | ⟨hr0, hr1⟩
  · go_wp2_with fail
    go_ret
    exact ⟨rfl, HB1.out⟩
  · have hsz : nf + usedD fs + nk + nt ≤ 1048576 := by omega
    have HSZ := Lib.hid hsz
    have HT1 := Lib.hid (fun W (h : Below w.heap.size w W) => HTo.out W h (by omega) (by omega) (by omega) (by omega))
    clear hr1 hsz HTo
    have z1 := s1
    obtain ⟨aq0, aq1, aq2, aq3, aq4, aq5⟩ := XA1.out
    have HPB2 := HB1
    go_wp2_with fail
    refine (HT1.out _ HPB2.out).mono ?_
    rintro e v2 ⟨F2, cf2, K2, ck2, T2, ct2, g2, rfl, ho2, hk2, hx2⟩
    clear HPB2
    clear aq0 aq1 aq2 aq3 aq4 aq5
    have HO2 := Lib.hid ho2
    have HK2 := Lib.hid hk2
    have HL2 := Lib.hid (show ∀ i, SD F2 nf cf2 g2 K2 nk ck2 T2 nt ct2 i → v1.heap.size ≤ i ∧ (v1.heap.size = i → True) ∧ i < v2.heap.size from fun i hi => by have := ho2.lt i hi; exact ⟨by omega, fun _ => trivial, this.2⟩)
    clear ho2 hk2
    have hst2 : Below v1.heap.size v1 v2 := hx2
    have z2 : v1.heap.size ≤ v2.heap.size := hst2.size
    have HB2 := Lib.hid (HB1.out.trans (hst2.mono (Nat.le_of_lt s1)))
    have XA1_2 := Lib.hid (XA1.out.below hst2 s1)
    clear XA1
    have s2a : w.heap.size < v2.heap.size := Nat.lt_of_lt_of_le s1 hst2.size
    clear s1
    clear hx2 hst2
    have HPO3 := HO2
    go_wp2_with fail
    refine (specD_own room fuse next HPO3.out HK2.out HSZ.out HFI.out HKS.out HTS.out).mono ?_
    rintro e v3 ⟨b3, A3, n3, c3, rfl, hn3, hr3, ho3, hx3⟩
    clear HPO3
    have HO3 := Lib.hid ho3
    have HR3 := Lib.hid hr3
    have HN3 := Lib.hid hn3
    have HL3 := Lib.hid (show ∀ i, (Value.slice A3 n3 c3).ownBlock = some i → v2.heap.size ≤ i ∧ (v2.heap.size = i → True) ∧ i < v3.heap.size from fun i hi => by have := ho3.blk i hi; exact ⟨by omega, fun _ => trivial, this.2⟩)
    clear ho3 hr3 hn3
    have hst3 : Below v2.heap.size v2 v3 := hx3
    have z3 : v2.heap.size ≤ v3.heap.size := hst3.size
    have HO2_3 := Lib.hid (HO2.out.below (Nat.le_refl _) hst3)
    clear HO2
    have HB3 := Lib.hid (HB2.out.trans (hst3.mono (Nat.le_of_lt s2a)))
    have XA1_2_3 := Lib.hid (XA1_2.out.below hst3 s2a)
    clear XA1_2
    have s3a : w.heap.size < v3.heap.size := Nat.lt_of_lt_of_le s2a hst3.size
    clear s2a
    clear hx3 hst3
    clear HO2_3 HL2
    obtain ⟨aq0, aq1, aq2, aq3, aq4, aq5⟩ := XA1_2_3.out
    have HPB4 := HB3
    go_wp2_with fail
    refine (HT1.out _ HPB4.out).mono ?_
    rintro e v4 ⟨F4, cf4, K4, ck4, T4, ct4, g4, rfl, ho4, hk4, hx4⟩
    clear HPB4
    clear aq0 aq1 aq2 aq3 aq4 aq5
    have HO4 := Lib.hid ho4
    have HK4 := Lib.hid hk4
    have HL4 := Lib.hid (show ∀ i, SD F4 nf cf4 g4 K4 nk ck4 T4 nt ct4 i → v3.heap.size ≤ i ∧ (v3.heap.size = i → True) ∧ i < v4.heap.size from fun i hi => by have := ho4.lt i hi; exact ⟨by omega, fun _ => trivial, this.2⟩)
    clear ho4 hk4
    have hst4 : Below v3.heap.size v3 v4 := hx4
    have z4 : v3.heap.size ≤ v4.heap.size := hst4.size
    have HO3_4 := Lib.hid (HO3.out.below (Nat.le_refl _) hst4)
    clear HO3
    have HB4 := Lib.hid (HB3.out.trans (hst4.mono (Nat.le_of_lt s3a)))
    have XA1_2_3_4 := Lib.hid (XA1_2_3.out.below hst4 s3a)
    clear XA1_2_3
    have s4a : w.heap.size < v4.heap.size := Nat.lt_of_lt_of_le s3a hst4.size
    clear s3a
    clear hx4 hst4
    have HSX := Lib.hid (show usedD g4 + nf + nk + nt ≤ 1048576 by rw [keys_used HK4.out]; have := HSZ.out; omega)
    have HPO5 := Lib.hid (HO4.out.below (Nat.le_refl _) ((Below.refl _ v4).alloc (Nat.le_refl _) (.cells #[.int .i64 room, .int .i64 fuse, .int .i64 next, .slice F4 nf cf4, .slice K4 nk ck4, .slice T4 nt ct4] 53)))
    go_wp2_with fail
    refine (implD_own room fuse next HPO5.out HK4.out HSZ.out HFI.out HKS.out HTS.out).mono ?_
    rintro e v5 ⟨b5, A5, n5, c5, rfl, hn5, hr5, ho5, hx5⟩
    clear HPO5
    have HO5 := Lib.hid ho5
    have HR5 := Lib.hid hr5
    have HN5 := Lib.hid hn5
    have HL5 := Lib.hid (show ∀ i, (Value.slice A5 n5 c5).ownBlock = some i → v4.heap.size ≤ i ∧ (v4.heap.size = i → False) ∧ i < v5.heap.size from fun i hi => by have := ho5.blk i hi; simp at this; exact ⟨by omega, fun e => by omega, this.2⟩)
    clear ho5 hr5 hn5
    have hst5 : Below v4.heap.size v4 v5 := ((Below.refl _ _).alloc (Nat.le_refl _) (.cells #[.int .i64 room, .int .i64 fuse, .int .i64 next, .slice F4 nf cf4, .slice K4 nk ck4, .slice T4 nt ct4] 53)).trans (hx5.mono (by simp))
    have z5 : v4.heap.size ≤ v5.heap.size := hst5.size
    have HO3_4_5 := Lib.hid (HO3_4.out.below (Nat.le_refl _) hst5)
    clear HO3_4
    have HO4_5 := Lib.hid (HO4.out.below (Nat.le_refl _) hst5)
    clear HO4
    have HB5 := Lib.hid (HB4.out.trans (hst5.mono (Nat.le_of_lt s4a)))
    have XA1_2_3_4_5 := Lib.hid (XA1_2_3_4.out.below hst5 s4a)
    clear XA1_2_3_4
    have s5a : w.heap.size < v5.heap.size := Nat.lt_of_lt_of_le s4a hst5.size
    clear s4a
    have Xbx := Lib.hid ((Box6.new v4 (.int .i64 room) (.int .i64 fuse) (.int .i64 next) (.slice F4 nf cf4) (.slice K4 nk ck4) (.slice T4 nt ct4) 53).below hx5 (by simp))
    have s5bx : v4.heap.size < v5.heap.size := by have := hx5.size; simp at this; omega
    have tbx := s5bx
    clear hx5 hst5
    obtain rfl := DirD.same (okS_iff (HK4.out.trans HK2.out.symm)).symm HR3.out HR5.out
    have hnn : n5 = n3 := by rw [← HO5.out.len, ← HO3_4_5.out.len]
    subst hnn
    clear HR5
    have HQA6 := Lib.hid HO5.out.rd
    have HQB6 := Lib.hid HO3_4_5.out.rd
    have HQN6 := Lib.hid HO5.out.len
    go_wp2_with fail
    refine (eqLinkS_yes A5 A3 n5 c5 c3 b5 _ HQA6.out HQB6.out HQN6.out (by have := HN5.out; omega)).mono ?_
    rintro e v6 ⟨rfl, hx6⟩
    clear HQA6 HQB6 HQN6
    have hst6 : Below v5.heap.size v5 v6 := hx6
    have z6 : v5.heap.size ≤ v6.heap.size := hst6.size
    have HO3_4_5_6 := Lib.hid (HO3_4_5.out.below (Nat.le_refl _) hst6)
    clear HO3_4_5
    have HO4_5_6 := Lib.hid (HO4_5.out.below (Nat.le_refl _) hst6)
    clear HO4_5
    have HO5_6 := Lib.hid (HO5.out.below (Nat.le_refl _) hst6)
    clear HO5
    have HB6 := Lib.hid (HB5.out.trans (hst6.mono (Nat.le_of_lt s5a)))
    have XA1_2_3_4_5_6 := Lib.hid (XA1_2_3_4_5.out.below hst6 s5a)
    clear XA1_2_3_4_5
    have s6a : w.heap.size < v6.heap.size := Nat.lt_of_lt_of_le s5a hst6.size
    clear s5a
    have Xbx_6 := Lib.hid (Xbx.out.below hst6 s5bx)
    clear Xbx
    have s6bx : v4.heap.size < v6.heap.size := Nat.lt_of_lt_of_le s5bx hst6.size
    clear s5bx
    clear hx6 hst6
    obtain ⟨aq0, aq1, aq2, aq3, aq4, aq5⟩ := XA1_2_3_4_5_6.out
    obtain ⟨bxq0, bxq1, bxq2, bxq3, bxq4, bxq5⟩ := Xbx_6.out
    go_upto_region 12 with fail
    go_cut [31] (fun s wx => s = .bool false ∧ Below v6.heap.size v6 wx)
    case first =>
      go_region_with (first
        | (go_at_call 39; refine (HT1.out _ ?_).mono ?_; exact ⟨HB6.out.os, HB6.out.tape, HB6.out.output, HB6.out.size, HB6.out.block⟩; rintro e y1 ⟨Fy, cfy, Ky, cky, Ty, cty, gy, rfl, hoy, hky, hxy'⟩; have hxy : Below v6.heap.size v6 y1 := undrew_ hxy'; clear hxy'; have HKY := Lib.hid hky; have HOY := Lib.hid hoy; have HPY := Lib.hid (HO4_5_6.out.below (Nat.le_refl _) hxy); obtain ⟨r0, r1, r2, r3, r4, r5⟩ := Xbx_6.out.below hxy s6bx; have HXY := Lib.hid hxy; have zy := hxy.size; clear hoy hky hxy)
        | (go_at_call 41; refine (eqD room fuse next HPY.out HOY.out (HKY.out.trans HK4.out.symm) (by have := HSX.out; omega)).mono ?_; rintro e y2 ⟨rfl, hxz⟩))
      all_goals
        have HE := Lib.hid (HXY.out.trans (hxz.mono zy))
        clear hxz
        go_wp2_with fail
        go_meet
        case rel => exact ⟨rfl, HE.out⟩
    case rest =>
      obtain ⟨rfl, hxc⟩ := hcut
      clear aq0 aq1 aq2 aq3 aq4 aq5
      clear bxq0 bxq1 bxq2 bxq3 bxq4 bxq5
      have hst7 : Below v6.heap.size v6 wc := hxc
      have z7 : v6.heap.size ≤ wc.heap.size := hst7.size
      have HO3_4_5_6_7 := Lib.hid (HO3_4_5_6.out.below (Nat.le_refl _) hst7)
      clear HO3_4_5_6
      have HO4_5_6_7 := Lib.hid (HO4_5_6.out.below (Nat.le_refl _) hst7)
      clear HO4_5_6
      have HO5_6_7 := Lib.hid (HO5_6.out.below (Nat.le_refl _) hst7)
      clear HO5_6
      have HB7 := Lib.hid (HB6.out.trans (hst7.mono (Nat.le_of_lt s6a)))
      have XA1_2_3_4_5_6_7 := Lib.hid (XA1_2_3_4_5_6.out.below hst7 s6a)
      clear XA1_2_3_4_5_6
      have s7a : w.heap.size < wc.heap.size := Nat.lt_of_lt_of_le s6a hst7.size
      clear s6a
      have Xbx_6_7 := Lib.hid (Xbx_6.out.below hst7 s6bx)
      clear Xbx_6
      have s7bx : v4.heap.size < wc.heap.size := Nat.lt_of_lt_of_le s6bx hst7.size
      clear s6bx
      clear hxc hst7
      obtain ⟨bxq0, bxq1, bxq2, bxq3, bxq4, bxq5⟩ := Xbx_6_7.out
      go_wp2_with fail
      refine (markDisk_any room fuse next _ F4 nf cf4 K4 nk ck4 T4 nt ct4 g4 ks ts 1 _ HO4_5_6_7.out HO4_5_6_7.out.lenF HO4_5_6_7.out.lenL HO4_5_6_7.out.lenT (by decide) (by have := HSX.out; omega)).mono ?_
      rintro e v8 ⟨rfl, ho8, on8⟩
      obtain ⟨m8, hm8⟩ : ∃ m, m = 1 + 2 * nf + usedD g4 + 2 * nk + 4 * nt := ⟨_, rfl⟩
      rw [← hm8]
      have hz8 : decide ((m8 : Int) < 0) = false := decide_eq_false (by omega)
      have HM8 := Lib.hid hm8
      clear hm8
      have HO8 := Lib.hid ho8
      clear ho8
      clear bxq0 bxq1 bxq2 bxq3 bxq4 bxq5
      have HO3_4_5_6_7_8 := Lib.hid (show OwnL _ _ A3 n5 c3 b5 from Only.own HO3_4_5_6_7.out on8 (fun i hi hs => by have h1 := HL3.out i hi; have h2 := HL4.out i hs; have hq1 := h1.2.1; have hq2 := h2.2.1; omega))
      clear HO3_4_5_6_7
      have HO5_6_7_8 := Lib.hid (show OwnL _ _ A5 n5 c5 b5 from Only.own HO5_6_7.out on8 (fun i hi hs => by have h1 := HL5.out i hi; have h2 := HL4.out i hs; have hq1 := h1.2.1; have hq2 := h2.2.1; omega))
      clear HO5_6_7
      have HB8 := Lib.hid (Only.below_ on8 HB7.out (Nat.le_of_lt s7a) (fun i hs => by have h2 := HL4.out i hs; omega))
      have z8 : wc.heap.size ≤ v8.heap.size := on8.size
      have XA1_2_3_4_5_6_7_8 := Lib.hid (XA1_2_3_4_5_6_7.out.only on8 (fun hs => by have h2 := HL4.out _ hs; first | omega | exact h2.2.1 rfl))
      clear XA1_2_3_4_5_6_7
      have s8a : w.heap.size < v8.heap.size := Nat.lt_of_lt_of_le s7a on8.size
      clear s7a
      have Xbx_6_7_8 := Lib.hid (Xbx_6_7.out.only on8 (fun hs => by have h2 := HL4.out _ hs; first | omega | exact h2.2.1 rfl))
      clear Xbx_6_7
      have s8bx : v4.heap.size < v8.heap.size := Nat.lt_of_lt_of_le s7bx on8.size
      clear s7bx
      clear on8 HO4_5_6_7
      clear HO8 HL4 HSX
      clear Xbx_6_7_8 s8bx
      have HQA9 := Lib.hid HO5_6_7_8.out.rd
      have HQB9 := Lib.hid HO3_4_5_6_7_8.out.rd
      have HQN9 := Lib.hid HO5_6_7_8.out.len
      go_wp2_with fail
      refine (eqLinkS_yes A5 A3 n5 c5 c3 b5 _ HQA9.out HQB9.out HQN9.out (by have := HN5.out; omega)).mono ?_
      rintro e v9 ⟨rfl, hx9⟩
      clear HQA9 HQB9 HQN9
      have hst9 : Below v8.heap.size v8 v9 := hx9
      have z9 : v8.heap.size ≤ v9.heap.size := hst9.size
      have HO3_4_5_6_7_8_9 := Lib.hid (HO3_4_5_6_7_8.out.below (Nat.le_refl _) hst9)
      clear HO3_4_5_6_7_8
      have HO5_6_7_8_9 := Lib.hid (HO5_6_7_8.out.below (Nat.le_refl _) hst9)
      clear HO5_6_7_8
      have HB9 := Lib.hid (HB8.out.trans (hst9.mono (Nat.le_of_lt s8a)))
      have XA1_2_3_4_5_6_7_8_9 := Lib.hid (XA1_2_3_4_5_6_7_8.out.below hst9 s8a)
      clear XA1_2_3_4_5_6_7_8
      have s9a : w.heap.size < v9.heap.size := Nat.lt_of_lt_of_le s8a hst9.size
      clear s8a
      clear hx9 hst9
      have HZL := Lib.hid HO5_6_7_8_9.out.len
      go_wp2_with fail
      refine (markLinkS_any A5 n5 c5 _ b5 1 _ HO5_6_7_8_9.out HZL.out (by decide) (by have := HN5.out; omega)).mono ?_
      rintro e v10 ⟨rfl, ho10, on10⟩
      obtain ⟨mm, hmm⟩ : ∃ m, m = 1 + 2 * n5 := ⟨_, rfl⟩
      rw [← hmm]
      have HMM := Lib.hid hmm
      clear hmm
      have hst10 : Below v4.heap.size v9 v10 := ⟨on10.os, on10.tape, on10.output, on10.size, fun i hi => on10.block i (Nat.lt_of_lt_of_le hi (by omega)) (fun hs => by have := (HL5.out i hs).1; omega)⟩
      have z10 : v9.heap.size ≤ v10.heap.size := hst10.size
      have HO10 := Lib.hid ho10
      have HB10 := Lib.hid (HB9.out.trans (hst10.mono (by omega)))
      clear ho10 HO5_6_7_8_9
      have HO3_4_5_6_7_8_9_10 := Lib.hid (show OwnL _ _ A3 n5 c3 b5 from Only.own HO3_4_5_6_7_8_9.out on10 (fun g h1 h2 => by have h3 := HL3.out g h1; have h4 := HL5.out g h2; have h5 := h3.2.1; have h6 := h4.2.1; omega))
      clear HO3_4_5_6_7_8_9
      have XA1_2_3_4_5_6_7_8_9_10 := Lib.hid (XA1_2_3_4_5_6_7_8_9.out.below hst10 (by omega))
      clear XA1_2_3_4_5_6_7_8_9
      have s10a : w.heap.size < v10.heap.size := Nat.lt_of_lt_of_le s9a z10
      clear s9a
      clear hst10 on10
      have hq1 : decide ((mm : Int) < 0) = false := decide_eq_false (by omega)
      have hq2 : ((mm : Int) != (mm : Int)) = false := by simp
      have HQ11 := Lib.hid HO10.out.rd
      go_wp2_with fail
      refine (heldLinkS_any A5 n5 c5 b5 1 _ HQ11.out HZL.out (by decide) (by have := HN5.out; omega)).mono ?_
      rintro e v11 ⟨rfl, hx11⟩
      rw [← HMM.out]
      clear HQ11
      have hst11 : Below v10.heap.size v10 v11 := hx11
      have z11 : v10.heap.size ≤ v11.heap.size := hst11.size
      have HO3_4_5_6_7_8_9_10_11 := Lib.hid (HO3_4_5_6_7_8_9_10.out.below (Nat.le_refl _) hst11)
      clear HO3_4_5_6_7_8_9_10
      have HO10_11 := Lib.hid (HO10.out.below (Nat.le_refl _) hst11)
      clear HO10
      have HB11 := Lib.hid (HB10.out.trans (hst11.mono (Nat.le_of_lt s10a)))
      have XA1_2_3_4_5_6_7_8_9_10_11 := Lib.hid (XA1_2_3_4_5_6_7_8_9_10.out.below hst11 s10a)
      clear XA1_2_3_4_5_6_7_8_9_10
      have s11a : w.heap.size < v11.heap.size := Nat.lt_of_lt_of_le s10a hst11.size
      clear s10a
      clear hx11 hst11
      obtain ⟨aq0, aq1, aq2, aq3, aq4, aq5⟩ := XA1_2_3_4_5_6_7_8_9_10_11.out
      have HPB12 := HB11
      go_wp2_with fail
      refine (HT1.out _ HPB12.out).mono ?_
      rintro e v12 ⟨F12, cf12, K12, ck12, T12, ct12, g12, rfl, ho12, hk12, hx12⟩
      clear HPB12
      clear aq0 aq1 aq2 aq3 aq4 aq5
      have HO12 := Lib.hid ho12
      have HK12 := Lib.hid hk12
      have HL12 := Lib.hid (show ∀ i, SD F12 nf cf12 g12 K12 nk ck12 T12 nt ct12 i → v11.heap.size ≤ i ∧ (v11.heap.size = i → True) ∧ i < v12.heap.size from fun i hi => by have := ho12.lt i hi; exact ⟨by omega, fun _ => trivial, this.2⟩)
      clear ho12 hk12
      have hst12 : Below v11.heap.size v11 v12 := hx12
      have z12 : v11.heap.size ≤ v12.heap.size := hst12.size
      have HO3_4_5_6_7_8_9_10_11_12 := Lib.hid (HO3_4_5_6_7_8_9_10_11.out.below (Nat.le_refl _) hst12)
      clear HO3_4_5_6_7_8_9_10_11
      have HO10_11_12 := Lib.hid (HO10_11.out.below (Nat.le_refl _) hst12)
      clear HO10_11
      have HB12 := Lib.hid (HB11.out.trans (hst12.mono (Nat.le_of_lt s11a)))
      have XA1_2_3_4_5_6_7_8_9_10_11_12 := Lib.hid (XA1_2_3_4_5_6_7_8_9_10_11.out.below hst12 s11a)
      clear XA1_2_3_4_5_6_7_8_9_10_11
      have s12a : w.heap.size < v12.heap.size := Nat.lt_of_lt_of_le s11a hst12.size
      clear s11a
      clear hx12 hst12
      have HPO13 := HO12
      go_wp2_with fail
      refine (implD_own room fuse next HPO13.out HK12.out HSZ.out HFI.out HKS.out HTS.out).mono ?_
      rintro e v13 ⟨b13, A13, n13, c13, rfl, hn13, hr13, ho13, hx13⟩
      clear HPO13
      have HO13 := Lib.hid ho13
      have HR13 := Lib.hid hr13
      have HN13 := Lib.hid hn13
      have HL13 := Lib.hid (show ∀ i, (Value.slice A13 n13 c13).ownBlock = some i → v12.heap.size ≤ i ∧ (v12.heap.size = i → True) ∧ i < v13.heap.size from fun i hi => by have := ho13.blk i hi; exact ⟨by omega, fun _ => trivial, this.2⟩)
      clear ho13 hr13 hn13
      have hst13 : Below v12.heap.size v12 v13 := hx13
      have z13 : v12.heap.size ≤ v13.heap.size := hst13.size
      have HO3_4_5_6_7_8_9_10_11_12_13 := Lib.hid (HO3_4_5_6_7_8_9_10_11_12.out.below (Nat.le_refl _) hst13)
      clear HO3_4_5_6_7_8_9_10_11_12
      have HO10_11_12_13 := Lib.hid (HO10_11_12.out.below (Nat.le_refl _) hst13)
      clear HO10_11_12
      have HO12_13 := Lib.hid (HO12.out.below (Nat.le_refl _) hst13)
      clear HO12
      have HB13 := Lib.hid (HB12.out.trans (hst13.mono (Nat.le_of_lt s12a)))
      have XA1_2_3_4_5_6_7_8_9_10_11_12_13 := Lib.hid (XA1_2_3_4_5_6_7_8_9_10_11_12.out.below hst13 s12a)
      clear XA1_2_3_4_5_6_7_8_9_10_11_12
      have s13a : w.heap.size < v13.heap.size := Nat.lt_of_lt_of_le s12a hst13.size
      clear s12a
      clear hx13 hst13
      clear HO12_13 HL12
      obtain rfl := DirD.same (okS_iff (HK12.out.trans HK2.out.symm)).symm HR3.out HR13.out
      have hnn : n13 = n5 := by rw [← HO13.out.len, ← HO3_4_5_6_7_8_9_10_11_12_13.out.len]
      subst hnn
      clear HR13
      have HQA14 := Lib.hid HO13.out.rd
      have HQB14 := Lib.hid HO3_4_5_6_7_8_9_10_11_12_13.out.rd
      have HQN14 := Lib.hid HO13.out.len
      go_wp2_with fail
      refine (eqLinkS_yes A13 A3 n13 c13 c3 b13 _ HQA14.out HQB14.out HQN14.out (by have := HN13.out; omega)).mono ?_
      rintro e v14 ⟨rfl, hx14⟩
      clear HQA14 HQB14 HQN14
      have hst14 : Below v13.heap.size v13 v14 := hx14
      have z14 : v13.heap.size ≤ v14.heap.size := hst14.size
      have HO3_4_5_6_7_8_9_10_11_12_13_14 := Lib.hid (HO3_4_5_6_7_8_9_10_11_12_13.out.below (Nat.le_refl _) hst14)
      clear HO3_4_5_6_7_8_9_10_11_12_13
      have HO10_11_12_13_14 := Lib.hid (HO10_11_12_13.out.below (Nat.le_refl _) hst14)
      clear HO10_11_12_13
      have HO13_14 := Lib.hid (HO13.out.below (Nat.le_refl _) hst14)
      clear HO13
      have HB14 := Lib.hid (HB13.out.trans (hst14.mono (Nat.le_of_lt s13a)))
      have XA1_2_3_4_5_6_7_8_9_10_11_12_13_14 := Lib.hid (XA1_2_3_4_5_6_7_8_9_10_11_12_13.out.below hst14 s13a)
      clear XA1_2_3_4_5_6_7_8_9_10_11_12_13
      have s14a : w.heap.size < v14.heap.size := Nat.lt_of_lt_of_le s13a hst14.size
      clear s13a
      clear hx14 hst14
      have HQ15 := Lib.hid HO10_11_12_13_14.out.rd
      go_wp2_with fail
      refine (heldLinkS_any A5 n13 c5 b13 1 _ HQ15.out HZL.out (by decide) (by have := HN5.out; omega)).mono ?_
      rintro e v15 ⟨rfl, hx15⟩
      rw [← HMM.out]
      clear HQ15
      have hst15 : Below v14.heap.size v14 v15 := hx15
      have z15 : v14.heap.size ≤ v15.heap.size := hst15.size
      have HO3_4_5_6_7_8_9_10_11_12_13_14_15 := Lib.hid (HO3_4_5_6_7_8_9_10_11_12_13_14.out.below (Nat.le_refl _) hst15)
      clear HO3_4_5_6_7_8_9_10_11_12_13_14
      have HO10_11_12_13_14_15 := Lib.hid (HO10_11_12_13_14.out.below (Nat.le_refl _) hst15)
      clear HO10_11_12_13_14
      have HO13_14_15 := Lib.hid (HO13_14.out.below (Nat.le_refl _) hst15)
      clear HO13_14
      have HB15 := Lib.hid (HB14.out.trans (hst15.mono (Nat.le_of_lt s14a)))
      have XA1_2_3_4_5_6_7_8_9_10_11_12_13_14_15 := Lib.hid (XA1_2_3_4_5_6_7_8_9_10_11_12_13_14.out.below hst15 s14a)
      clear XA1_2_3_4_5_6_7_8_9_10_11_12_13_14
      have s15a : w.heap.size < v15.heap.size := Nat.lt_of_lt_of_le s14a hst15.size
      clear s14a
      clear hx15 hst15
      go_wp2_with fail
      go_ret
      exact ⟨rfl, HB15.out⟩
end Go.Proofs.Ytmlodfceepokoaa.fnExactDiskDir
