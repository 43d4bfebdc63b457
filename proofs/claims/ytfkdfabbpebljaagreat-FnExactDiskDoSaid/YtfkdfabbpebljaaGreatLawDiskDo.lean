/- FnExactDiskDo: the walk of the law from the contracts of the program, of its model and of the laws' helpers; at every input, no condition. -/
import Derived.Test.YtfkdfabbpebljaaGreatKitM
import Derived.Test.YtfkdfabbpebljaaGreatKitE
import Derived.Test.YtfkdfabbpebljaaGreatToDisk
import Derived.Deep.RegionWith
import Derived.Deep.Cut
import Derived.Deep.CutRange
import Derived.Deep.DeepCutAuto
import Derived.Deep.DrawnRows
namespace Go.Proofs.YtfkdfabbpebljaaGreat.fnExactDiskDo
open Go.RowKit Go.Proofs.YtfkdfabbpebljaaGreat.Bytes Go.Proofs.YtfkdfabbpebljaaGreat.Rows_ Go.Proofs.YtfkdfabbpebljaaGreat.DOk Go.Proofs.YtfkdfabbpebljaaGreat.OpOk
set_option linter.unusedVariables false
attribute [local go_sem ↓] Go.wp_at_zero Go.wp_at_succ
theorem own : ownKnob Tryz.prog.godebug = none := by kernel_rfl
theorem undrew {W v : World} {B : Nat} (h : Below B W.drew v) : Below B W v := ⟨h.os, h.tape, h.output, h.size, h.block⟩
/-- what toDisk answers, with one word for what is owned -/
def ToD (room fuse next : Int) (nf nk nt : Nat) (fs : List FileD) (ks : List LinkD) (ts : List TurnD) (w : World) (e : Ending) (w' : World) : Prop :=
  ∃ F' cf' K' ck' T' ct' gs, e = .returned (.agg #[.int .i64 room, .int .i64 fuse, .int .i64 next, .slice F' nf cf', .slice K' nk ck', .slice T' nt ct']) ∧ OwnD w' w.heap.size F' nf cf' gs K' nk ck' ks T' nt ct' ts ∧ gs.map keyF = fs.map keyF ∧ Below w.heap.size w w'
theorem toOwn {room fuse next : Int} {nf nk nt : Nat} {fs : List FileD} {ks : List LinkD} {ts : List TurnD} {args : Array Value} {w : World} (h : Calls Tryz.prog 7 args w fun e w' => ∃ F' cf' K' ck' T' ct' gs, e = .returned (.agg #[.int .i64 room, .int .i64 fuse, .int .i64 next, .slice F' nf cf', .slice K' nk ck', .slice T' nt ct']) ∧
        OwnF w' w.heap.size F' nf cf' gs ∧ gs.map keyF = fs.map keyF ∧ OwnBs w' w.heap.size gs ∧ OwnL w' w.heap.size K' nk ck' ks ∧ OwnT w' w.heap.size T' nt ct' ts ∧ Below w.heap.size w w') : Calls Tryz.prog 7 args w (ToD room fuse next nf nk nt fs ks ts w) :=
  h.mono fun e w' ⟨F', cf', K', ck', T', ct', gs, h1, h2, h3, h4, h5, h6, h7⟩ => ⟨F', cf', K', ck', T', ct', gs, h1, ⟨h2, h4, h5, h6⟩, h3, h7⟩

set_option maxRecDepth 100000 in
set_option maxHeartbeats 32000000 in
theorem walk (room fuse next : Int) (F : Option Addr) (nf cf : Nat) (K : Option Addr) (nk ck : Nat) (T : Option Addr) (nt ct : Nat) (fs : List FileD) (ks : List LinkD) (ts : List TurnD) (k : Int) (name to_ : ByteArray) (A : Option Addr) (n c : Nat) (z : List Int) (w : World)
    (hf : RdF w w.heap.size F fs) (hfl : fs.length = nf) (hfn : nf ≤ 9223372036854775807) (hrb : RdB w w.heap.size fs) (hfs : ∀ x ∈ fs, x.n ≤ 9223372036854775807 ∧ (Lit.int .i64 x.id).wf = true)
    (hk : RdL w w.heap.size K ks) (hkl : ks.length = nk) (hkn : nk ≤ 9223372036854775807) (hks : ∀ x ∈ ks, x.1.size ≤ maxLen ∧ (Lit.int .i64 x.2).wf = true)
    (ht : RdT w w.heap.size T ts) (htl : ts.length = nt) (htn : nt ≤ 9223372036854775807) (hts : ∀ x ∈ ts, x.name.size ≤ maxLen ∧ x.to_.size ≤ maxLen ∧ (Lit.int .i64 x.id).wf = true) (g1 : name.size ≤ maxLen) (g2 : to_.size ≤ maxLen) (w0 : IsRow .u8 w A n c z) :
    Calls Tryz.prog 3 #[.agg #[.int .i64 room, .int .i64 fuse, .int .i64 next, .slice F nf cf, .slice K nk ck, .slice T nt ct], .agg #[.int .i64 k, .string name, .string to_, .slice A n c]] w fun e w' => e = .returned (.bool true) ∧ Below w.heap.size w w' := by
  have HN0 : n ≤ 9223372036854775807 := by
    rcases w0 with ⟨_, h, _, _⟩ | ⟨_, _, h1, h2, _⟩
    · omega
    · unfold maxLen at h2; omega
  obtain ⟨HR0, hl0, hA0, hrng0⟩ := w0.open_
  clear w0 hA0 hrng0
  generalize z.take n = ys at *
  have hnm : n ≤ 9223372036854775807 ∨ ¬ n ≤ 9223372036854775807 := by omega
  have hb0 := Lib.hid (((Below.refl w.heap.size w).alloc (Nat.le_refl _) (.cells #[.int .i64 room, .int .i64 fuse, .int .i64 next, .slice F nf cf, .slice K nk ck, .slice T nt ct] 26)).alloc (by simp) (.cells #[.int .i64 k, .string name, .string to_, .slice A n c] 29))
  have hx0 := Lib.hid ((Box6.new w (.int .i64 room) (.int .i64 fuse) (.int .i64 next) (.slice F nf cf) (.slice K nk ck) (.slice T nt ct) 26).below ((Below.refl _ _).alloc (Nat.le_refl _) (.cells #[.int .i64 k, .string name, .string to_, .slice A n c] 29)) (by simp))
  have hp0 := Lib.hid (show Box4 ((w.alloc (.cells #[.int .i64 room, .int .i64 fuse, .int .i64 next, .slice F nf cf, .slice K nk ck, .slice T nt ct] 26)).alloc (.cells #[.int .i64 k, .string name, .string to_, .slice A n c] 29)) (w.heap.size + 1) (.int .i64 k) (.string name) (.string to_) (.slice A n c) by have h := Box4.new (w.alloc (.cells #[.int .i64 room, .int .i64 fuse, .int .i64 next, .slice F nf cf, .slice K nk ck, .slice T nt ct] 26)) (.int .i64 k) (.string name) (.string to_) (.slice A n c) 29; simp only [World.size_alloc] at h; exact h)
  have RF := Lib.hid (fun W (h : Below w.heap.size w W) => (hf.below (Nat.le_refl _) h).more h.size)
  have RB := Lib.hid (fun W (h : Below w.heap.size w W) => (hrb.below (Nat.le_refl _) h).more h.size)
  have RL := Lib.hid (fun W (h : Below w.heap.size w W) => (hk.below (Nat.le_refl _) h).more h.size)
  have RT := Lib.hid (fun W (h : Below w.heap.size w W) => (ht.below (Nat.le_refl _) h).more h.size)
  have HSz := Lib.hid (fun W (h : Below w.heap.size w W) => szDisk_any room fuse next F nf cf K nk ck T nt ct fs ks ts 1048576 W (RF.out W h) hfl hfn (fun x hx => (hfs x hx).1) (RL.out W h) hkl hkn (fun x hx => by have := (hks x hx).1; unfold maxLen at this; exact this) (RT.out W h) htl htn (fun x hx => by have := hts x hx; unfold maxLen at this; exact ⟨this.1, this.2.1⟩) (by omega) (by omega))
  have HTo := Lib.hid (fun W (h : Below w.heap.size w W) (h1 : nf ≤ 2097152) (h2 : usedD fs ≤ 1099511627776) (h3 : nk ≤ 2097152) (h4 : nt ≤ 2097152) => toOwn (toDisk_any room fuse next F nf cf K nk ck T nt ct fs ks ts W (RF.out W h) hfl h1 (RB.out W h) (fun f hf => Nat.le_trans (n_used hf) h2) (RL.out W h) hkl h3 (RT.out W h) htl h4))
  have HFI := Lib.hid (show ∀ x ∈ fs, (Lit.int .i64 x.id).wf = true from fun x hx => (hfs x hx).2)
  have HKS := Lib.hid hks
  have HTS := Lib.hid hts
  have HG1 := Lib.hid g1
  have HG2 := Lib.hid g2
  have hm1 : name.size ≤ 9223372036854775807 := by unfold maxLen at g1; exact g1
  have hm2 : to_.size ≤ 9223372036854775807 := by unfold maxLen at g2; exact g2
  have hm3 : n ≤ 9223372036854775807 := HN0
  have HOp := Lib.hid (fun W (h : Below w.heap.size w W) (hn' : n ≤ 1048576) => toDiskOp_any k name to_ A n c ys W ((HR0.below (Nat.le_refl _) h).more h.size) hl0 (by omega))
  clear hf hfl hrb hfs hk hkl hks ht htl hts RF RB RL RT g1 g2 HR0 hl0 hnm
  go_enter Tryz.func3, Tryz.ntmps3
  go_wp2_with fail
  refine (HSz.out _ hb0.out).mono ?_
  rintro e v1 ⟨r, rfl, hr, hb1⟩
  have s1 : w.heap.size < v1.heap.size := by have := hb1.size; simp at this; omega
  have s1p : w.heap.size + 1 < v1.heap.size := by have := hb1.size; simp at this; omega
  have HB1 := Lib.hid (hb0.out.trans (hb1.mono (by simp <;> omega)))
  have XA1 := Lib.hid (hx0.out.below hb1 (by simp <;> omega))
  have XP1 := Lib.hid (hp0.out.below hb1 (by simp <;> omega))
  clear hb1 hb0 hx0 hp0 HSz
  rcases hr with rfl | ⟨hr0, hr1⟩
  · go_wp2_with fail
    go_ret
    exact ⟨rfl, HB1.out⟩
  · have hsz : nf + usedD fs + nk + nt ≤ 1048576 := by omega
    have hrl : r ≤ 1048576 := by omega
    have HSZ := Lib.hid hsz
    have HT1 := Lib.hid (fun W (h : Below w.heap.size w W) => HTo.out W h (by omega) (by omega) (by omega) (by omega))
    clear hr1 hsz HTo
    obtain ⟨p0, p1, p2, p3⟩ := XP1.out
    by_cases hbig : r < (name.size : Int) + to_.size + n
    · have HZ := Lib.hid (fun W => szDiskOp_big k name to_ A n c r W hr0 hrl hm1 hm2 hm3 hbig)
      clear hbig
      go_wp2_with fail
      refine (HZ.out _).mono ?_
      rintro e v2 ⟨rfl, hb2⟩
      have HB2 := Lib.hid (HB1.out.trans (hb2.mono (Nat.le_of_lt s1)))
      clear hb2
      go_wp2_with fail
      go_ret
      exact ⟨rfl, HB2.out⟩
    have HZ := Lib.hid (fun W => szDiskOp_ok k name to_ A n c r W hrl (by omega))
    have hn1 : n ≤ 1048576 := by omega
    have hlf : 0 ≤ r - (name.size : Int) - to_.size - n := by omega
    have HOP := Lib.hid (fun W (h : Below w.heap.size w W) => HOp.out W h hn1)
    clear hbig HOp
    go_wp2_with fail
    refine (HZ.out _).mono ?_
    rintro e v2 ⟨rfl, hb2⟩
    have HB2 := Lib.hid (HB1.out.trans (hb2.mono (Nat.le_of_lt s1)))
    have XA2 := Lib.hid (XA1.out.below hb2 s1)
    have XP2 := Lib.hid (XP1.out.below hb2 s1p)
    have s2 : w.heap.size < v2.heap.size := Nat.lt_of_lt_of_le s1 hb2.size
    have s2p : w.heap.size + 1 < v2.heap.size := Nat.lt_of_lt_of_le s1p hb2.size
    clear hb2 XA1 XP1 s1 s1p p0 p1 p2 p3 HZ HB1
    have z2 := s2
    have HSp := Lib.hid (fun (W : World) (B B2 : Nat) (F1 : Option Addr) (cf1 : Nat) (K1 : Option Addr) (ck1 : Nat) (T1 : Option Addr) (ct1 : Nat) (A1 : Option Addr) (c1 : Nat) (gs : List FileD) (h : OwnD W B F1 nf cf1 gs K1 nk ck1 ks T1 nt ct1 ts) (hc : Own W B2 A1 n c1 ys) (hk : gs.map keyF = fs.map keyF) => specDo_own room fuse next k name to_ HG1.out HG2.out h hc hn1 hk HSZ.out HFI.out HKS.out HTS.out)
    have HIm := Lib.hid (fun (W : World) (B B2 : Nat) (F1 : Option Addr) (cf1 : Nat) (K1 : Option Addr) (ck1 : Nat) (T1 : Option Addr) (ct1 : Nat) (A1 : Option Addr) (c1 : Nat) (gs : List FileD) (h : OwnD W B F1 nf cf1 gs K1 nk ck1 ks T1 nt ct1 ts) (hc : Own W B2 A1 n c1 ys) (hk : gs.map keyF = fs.map keyF) => implDo_own room fuse next k name to_ HG1.out HG2.out h hc hn1 hk HSZ.out HFI.out HKS.out HTS.out)
    have HBD := Lib.hid (show Below w.heap.size w v2.drew from ⟨HB2.out.os, HB2.out.tape, HB2.out.output, HB2.out.size, HB2.out.block⟩)
    have HBZ := HB2
    have ZZ := Lib.hid (Nat.le_of_lt s2)
    have XPC := XP2
    have SPC := Lib.hid s2p
    have HCALL := HSp
    obtain ⟨aq0, aq1, aq2, aq3, aq4, aq5⟩ := XA2.out
    obtain ⟨pq0, pq1, pq2, pq3⟩ := XP2.out
    go_upto_region 8 with fail
    go_cut [6, 7] (fun s o wx => RelDo v2 (DoD (OkS room fuse next fs ks ts ∧ opQ k name to_ n = true) room fuse next fs ks ts k name to_ ys n) s o wx)
    case first =>
      go_region_with (first
        | (go_at_call 7; (with_reducible refine (HT1.out _ ?_).mono ?_); (first | exact HBD.out | exact HBD.out.alloc HBD.out.size _); rintro e y1 ⟨F1, c1_, K1, k1_, T1, t1_, gs1, rfl, ho1, hk1, hx1⟩; (first | (have HS1 := Lib.hid (undrew hx1); have hs1 : v2.heap.size ≤ y1.heap.size := HS1.out.size) | (have HS1 := Lib.hid (undrew (((Below.refl v2.heap.size v2.drew).alloc (Nat.le_refl _) _).trans (hx1.mono (by simp)))); have hs1 : v2.heap.size + 1 ≤ y1.heap.size := (by have := hx1.size; simpa using this); have NB := Lib.hid (show BoxW y1 v2.heap.size #[.int .i64 0, .int .i64 0, .int .i64 0, .slice none 0 0, .slice none 0 0, .slice none 0 0] from BoxW.below (BoxW.new v2.drew #[.int .i64 0, .int .i64 0, .int .i64 0, .slice none 0 0, .slice none 0 0, .slice none 0 0]) hx1 (by simp)))); have HO1 := Lib.hid ho1; have HK1 := Lib.hid hk1; have hp1 : w.heap.size + 1 < y1.heap.size := Nat.lt_of_lt_of_le SPC.out HS1.out.size; have HBY := Lib.hid (HBZ.out.trans (HS1.out.mono ZZ.out)); obtain ⟨rp0, rp1, rp2, rp3⟩ := XPC.out.below HS1.out SPC.out; clear hx1 ho1 hk1)
        | (go_at_call 8; (with_reducible refine (HOP.out _ ?_).mono ?_); (first | exact HBY.out | exact HBY.out.alloc HBY.out.size _); rintro e y2 ⟨A2, a2_, rfl, ho2, hx2⟩; have HP2 := Lib.hid ho2; (first | (have HS2 := Lib.hid (HS1.out.trans (hx2.mono HS1.out.size)); have HO2 := Lib.hid (HO1.out.below (Nat.le_refl _) hx2); have hs2 : y1.heap.size ≤ y2.heap.size := hx2.size; (first | replace NB := Lib.hid (NB.out.below hx2 (by first | exact NB.out.lt)) | skip)) | (have HS2 := Lib.hid (HS1.out.trans (((Below.refl y1.heap.size y1).alloc (Nat.le_refl _) _).trans (hx2.mono (by simp)) |>.mono HS1.out.size)); have HO2 := Lib.hid ((HO1.out.below (Nat.le_refl _) ((Below.refl _ _).alloc (Nat.le_refl _) _)).below (by simp) hx2); have hs2 : y1.heap.size + 1 ≤ y2.heap.size := (by have := hx2.size; simpa using this); have NB := Lib.hid (BoxW.below (BoxW.new y1 #[.int .i64 0, .int .i64 0, .int .i64 0, .slice none 0 0, .slice none 0 0, .slice none 0 0]) hx2 (by simp)))); clear hx2 ho2)
        | (go_at_call 6; (first | (with_reducible refine (HCALL.out _ _ _ _ _ _ _ _ _ _ _ _ HO2.out HP2.out HK1.out).mono ?_) | (with_reducible refine (HCALL.out _ _ _ _ _ _ _ _ _ _ _ _ (HO2.out.below (Nat.le_refl _) ((Below.refl _ _).alloc (Nat.le_refl _) _)) (HP2.out.below (Nat.le_refl _) ((Below.refl _ _).alloc (Nat.le_refl _) _)) HK1.out).mono ?_)); rintro e y3 ⟨r3, f3, x3, F3, nf3, cf3, g3, K3, nk3, ck3, l3, T3, nt3, ct3, t3, o3, rfl, ho3, hd3, hx3⟩; have HD3 := Lib.hid hd3; (first | (have HS3 := Lib.hid (HS2.out.trans (hx3.mono HS2.out.size)); have HO3 := Lib.hid ho3; have hs3 : y2.heap.size ≤ y3.heap.size := hx3.size; (first | replace NB := Lib.hid (NB.out.below hx3 (by first | exact NB.out.lt)) | skip)) | (have HS3 := Lib.hid (HS2.out.trans (((Below.refl y2.heap.size y2).alloc (Nat.le_refl _) _).trans (hx3.mono (by simp)) |>.mono HS2.out.size)); have HO3 := Lib.hid ho3; have hs3 : y2.heap.size + 1 ≤ y3.heap.size := (by have := hx3.size; simpa using this); have NB := Lib.hid (BoxW.below (BoxW.new y2 #[.int .i64 0, .int .i64 0, .int .i64 0, .slice none 0 0, .slice none 0 0, .slice none 0 0]) hx3 (by simp)))); (first | (have n0_ : y3.cell? ⟨_, 0, none⟩ = some (.int .i64 0) := NB.out.cell 0; have f0_ := NB.out.free 0; have n1_ : y3.cell? ⟨_, 1, none⟩ = some (.int .i64 0) := NB.out.cell 1; have f1_ := NB.out.free 1; have n2_ : y3.cell? ⟨_, 2, none⟩ = some (.int .i64 0) := NB.out.cell 2; have f2_ := NB.out.free 2; have n3_ : y3.cell? ⟨_, 3, none⟩ = some (.slice none 0 0) := NB.out.cell 3; have f3_ := NB.out.free 3; have n4_ : y3.cell? ⟨_, 4, none⟩ = some (.slice none 0 0) := NB.out.cell 4; have f4_ := NB.out.free 4; have n5_ : y3.cell? ⟨_, 5, none⟩ = some (.slice none 0 0) := NB.out.cell 5; have f5_ := NB.out.free 5) | skip); clear hx3 ho3 hd3))
      all_goals
        go_wp2_with fail
        go_meet
        case rel =>
          have HS9 : Below v2.heap.size v2 y3 := HS3.out
          (first
            | ((with_reducible refine relDo_al HO3.out HD3.out HS9 ?_); omega)
            | ((with_reducible refine relDo_set NB.out HO3.out HD3.out HS9 ?_ ?_) <;> (first | omega | (simp; done) | (simp; omega))))
    case rest =>
      obtain ⟨Rw, fw, xw, Fw, nfw, cfw, gw, Kw, nkw, ckw, lw, Tw, ntw, ctw, tw, bw, rfl, hbk, ho, hd, hown, hbb, hx⟩ := hcut
      clear aq0 aq1 aq2 aq3 aq4 aq5
      clear pq0 pq1 pq2 pq3
      clear HBD XPC SPC HBZ ZZ HCALL
      obtain ⟨wk3, rfl⟩ : ∃ v : World, v = wc := ⟨_, rfl⟩
      have hst3 : Below v2.heap.size v2 wk3 := hx
      have z3 : v2.heap.size ≤ wk3.heap.size := hst3.size
      have HB3 := Lib.hid (HB2.out.trans (hst3.mono (Nat.le_of_lt s2)))
      have XA2_3 := Lib.hid (XA2.out.below hst3 s2)
      clear XA2
      have s3a : w.heap.size < wk3.heap.size := Nat.lt_of_lt_of_le s2 hst3.size
      clear s2
      have XP2_3 := Lib.hid (XP2.out.below hst3 s2p)
      clear XP2
      have s3p : w.heap.size + 1 < wk3.heap.size := Nat.lt_of_lt_of_le s2p hst3.size
      clear s2p
      have HO3 := Lib.hid ho
      have HD3 := Lib.hid hd
      have HL3 := Lib.hid hown
      have Xbw := Lib.hid hbk
      obtain ⟨lobw, snbw⟩ := hbb
      have tbw := snbw
      clear hx ho hd hown hbk hst3
      obtain ⟨zc, hzc⟩ := HD3.out.int
      subst hzc
      have HSW := Lib.hid (show usedD gw + nfw + nkw + ntw ≤ 1048576 by have h1 := DoD.size HD3.out; rw [HO3.out.lenF, HO3.out.lenL, HO3.out.lenT] at h1; omega)
      have hne : (zc != zc) = false := by simp
      obtain ⟨aq0, aq1, aq2, aq3, aq4, aq5⟩ := XA2_3.out
      have HPB4 := HB3
      go_wp2_with fail
      refine (HT1.out _ HPB4.out).mono ?_
      rintro e v4 ⟨F4, cf4, K4, ck4, T4, ct4, g4, rfl, ho4, hk4, hx4⟩
      clear HPB4
      clear aq0 aq1 aq2 aq3 aq4 aq5
      have HO4 := Lib.hid ho4
      have HK4 := Lib.hid hk4
      have HL4 := Lib.hid (show ∀ i, SD F4 nf cf4 g4 K4 nk ck4 T4 nt ct4 i → wk3.heap.size ≤ i ∧ (wk3.heap.size = i → True) ∧ i < v4.heap.size from fun i hi => by have := ho4.lt i hi; exact ⟨by omega, fun _ => trivial, this.2⟩)
      clear ho4 hk4
      have hst4 : Below wk3.heap.size wk3 v4 := hx4
      have z4 : wk3.heap.size ≤ v4.heap.size := hst4.size
      have HO3_4 := Lib.hid (HO3.out.below (Nat.le_refl _) hst4)
      clear HO3
      have HB4 := Lib.hid (HB3.out.trans (hst4.mono (Nat.le_of_lt s3a)))
      have XA2_3_4 := Lib.hid (XA2_3.out.below hst4 s3a)
      clear XA2_3
      have s4a : w.heap.size < v4.heap.size := Nat.lt_of_lt_of_le s3a hst4.size
      clear s3a
      have XP2_3_4 := Lib.hid (XP2_3.out.below hst4 s3p)
      clear XP2_3
      have s4p : w.heap.size + 1 < v4.heap.size := Nat.lt_of_lt_of_le s3p hst4.size
      clear s3p
      have Xbw_4 := Lib.hid (Xbw.out.below hst4 snbw)
      clear Xbw
      have s4bw : bw < v4.heap.size := Nat.lt_of_lt_of_le snbw hst4.size
      clear snbw
      clear hx4 hst4
      have HSX := Lib.hid (show usedD g4 + nf + nk + nt ≤ 1048576 by rw [keys_used HK4.out]; have := HSZ.out; omega)
      obtain ⟨pq0, pq1, pq2, pq3⟩ := XP2_3_4.out
      have HPB5 := Lib.hid (show Below w.heap.size w (v4.alloc (.cells #[.int .i64 room, .int .i64 fuse, .int .i64 next, .slice F4 nf cf4, .slice K4 nk ck4, .slice T4 nt ct4] 36)) from HB4.out.trans ((Below.refl _ _).alloc (Nat.le_of_lt s4a) _))
      go_wp2_with fail
      refine (HOP.out _ HPB5.out).mono ?_
      rintro e v5 ⟨C5, cc5, rfl, ho5, hx5⟩
      clear HPB5
      clear pq0 pq1 pq2 pq3
      have HO5 := Lib.hid ho5
      have HL5 := Lib.hid (show ∀ i, (Value.slice C5 n cc5).ownBlock = some i → v4.heap.size ≤ i ∧ (v4.heap.size = i → False) ∧ i < v5.heap.size from fun i hi => by have := ho5.blk i hi; simp at this; exact ⟨by omega, fun e => by omega, this.2⟩)
      clear ho5
      have hst5 : Below v4.heap.size v4 v5 := ((Below.refl _ _).alloc (Nat.le_refl _) (.cells #[.int .i64 room, .int .i64 fuse, .int .i64 next, .slice F4 nf cf4, .slice K4 nk ck4, .slice T4 nt ct4] 36)).trans (hx5.mono (by simp))
      have z5 : v4.heap.size ≤ v5.heap.size := hst5.size
      have HO3_4_5 := Lib.hid (HO3_4.out.below (Nat.le_refl _) hst5)
      clear HO3_4
      have HO4_5 := Lib.hid (HO4.out.below (Nat.le_refl _) hst5)
      clear HO4
      have HB5 := Lib.hid (HB4.out.trans (hst5.mono (Nat.le_of_lt s4a)))
      have XA2_3_4_5 := Lib.hid (XA2_3_4.out.below hst5 s4a)
      clear XA2_3_4
      have s5a : w.heap.size < v5.heap.size := Nat.lt_of_lt_of_le s4a hst5.size
      clear s4a
      have XP2_3_4_5 := Lib.hid (XP2_3_4.out.below hst5 s4p)
      clear XP2_3_4
      have s5p : w.heap.size + 1 < v5.heap.size := Nat.lt_of_lt_of_le s4p hst5.size
      clear s4p
      have Xbw_4_5 := Lib.hid (Xbw_4.out.below hst5 s4bw)
      clear Xbw_4
      have s5bw : bw < v5.heap.size := Nat.lt_of_lt_of_le s4bw hst5.size
      clear s4bw
      have Xbx := Lib.hid ((Box6.new v4 (.int .i64 room) (.int .i64 fuse) (.int .i64 next) (.slice F4 nf cf4) (.slice K4 nk ck4) (.slice T4 nt ct4) 36).below hx5 (by simp))
      have s5bx : v4.heap.size < v5.heap.size := by have := hx5.size; simp at this; omega
      have tbx := s5bx
      clear hx5 hst5
      obtain ⟨bxq0, bxq1, bxq2, bxq3, bxq4, bxq5⟩ := Xbx.out
      have HPO6 := Lib.hid (HO4_5.out.below (Nat.le_refl _) ((Below.refl _ v5).alloc (Nat.le_refl _) (.cells #[.int .i64 k, .string name, .string to_, .slice C5 n cc5] 40)))
      have HPU6 := Lib.hid (HO5.out.below (Nat.le_refl _) ((Below.refl _ v5).alloc (Nat.le_refl _) (.cells #[.int .i64 k, .string name, .string to_, .slice C5 n cc5] 40)))
      go_wp2_with fail
      refine (HIm.out _ _ _ _ _ _ _ _ _ _ _ _ HPO6.out HPU6.out HK4.out).mono ?_
      rintro e v6 ⟨r6, f6, x6, F6, nf6, cf6, g6, K6, nk6, ck6, l6, T6, nt6, ct6, t6, o6, rfl, ho6, hd6, hx6⟩
      clear HPO6 HPU6
      clear bxq0 bxq1 bxq2 bxq3 bxq4 bxq5
      have HO6 := Lib.hid ho6
      have HD6 := Lib.hid hd6
      have HL6 := Lib.hid (show ∀ i, SD F6 nf6 cf6 g6 K6 nk6 ck6 T6 nt6 ct6 i → v5.heap.size ≤ i ∧ (v5.heap.size = i → False) ∧ i < v6.heap.size from fun i hi => by have := ho6.lt i hi; simp at this; exact ⟨by omega, fun e => by omega, this.2⟩)
      clear ho6 hd6
      have hst6 : Below v5.heap.size v5 v6 := ((Below.refl _ _).alloc (Nat.le_refl _) (.cells #[.int .i64 k, .string name, .string to_, .slice C5 n cc5] 40)).trans (hx6.mono (by simp))
      have z6 : v5.heap.size ≤ v6.heap.size := hst6.size
      have HO3_4_5_6 := Lib.hid (HO3_4_5.out.below (Nat.le_refl _) hst6)
      clear HO3_4_5
      have HO4_5_6 := Lib.hid (HO4_5.out.below (Nat.le_refl _) hst6)
      clear HO4_5
      have HO5_6 := Lib.hid (HO5.out.below (Nat.le_refl _) hst6)
      clear HO5
      have HB6 := Lib.hid (HB5.out.trans (hst6.mono (Nat.le_of_lt s5a)))
      have XA2_3_4_5_6 := Lib.hid (XA2_3_4_5.out.below hst6 s5a)
      clear XA2_3_4_5
      have s6a : w.heap.size < v6.heap.size := Nat.lt_of_lt_of_le s5a hst6.size
      clear s5a
      have XP2_3_4_5_6 := Lib.hid (XP2_3_4_5.out.below hst6 s5p)
      clear XP2_3_4_5
      have s6p : w.heap.size + 1 < v6.heap.size := Nat.lt_of_lt_of_le s5p hst6.size
      clear s5p
      have Xbw_4_5_6 := Lib.hid (Xbw_4_5.out.below hst6 s5bw)
      clear Xbw_4_5
      have s6bw : bw < v6.heap.size := Nat.lt_of_lt_of_le s5bw hst6.size
      clear s5bw
      have Xbx_6 := Lib.hid (Xbx.out.below hst6 s5bx)
      clear Xbx
      have s6bx : v4.heap.size < v6.heap.size := Nat.lt_of_lt_of_le s5bx hst6.size
      clear s5bx
      have Xby_ := Lib.hid ((Box4.new v5 (.int .i64 k) (.string name) (.string to_) (.slice C5 n cc5) 40).below hx6 (by simp))
      have s6by_ : v5.heap.size < v6.heap.size := by have := hx6.size; simp at this; omega
      have tby_ := s6by_
      clear hx6 hst6
      obtain ⟨e1, e2, e3, hkk6, e5, e6, e7⟩ := DoD.same HD3.out HD6.out
      replace e1 := e1.symm
      replace e2 := e2.symm
      replace e3 := e3.symm
      replace e5 := e5.symm
      replace e6 := e6.symm
      replace e7 := e7.symm
      subst e1 e2 e3 e5 e6 e7
      have HKK6 := Lib.hid hkk6
      clear hkk6 HD6
      have n1 : nfw = nf6 := by rw [← HO6.out.lenF, ← HO3_4_5_6.out.lenF]; exact (keys_len HKK6.out).symm
      have n2 : nkw = nk6 := by rw [← HO6.out.lenL, ← HO3_4_5_6.out.lenL]
      have n3 : ntw = nt6 := by rw [← HO6.out.lenT, ← HO3_4_5_6.out.lenT]
      subst n1 n2 n3
      have HSZ6 := Lib.hid (show usedD g6 + nfw + nkw + ntw ≤ 1048576 by rw [keys_used HKK6.out]; exact HSW.out)
      obtain ⟨bwq0, bwq1, bwq2, bwq3, bwq4, bwq5⟩ := Xbw_4_5_6.out
      have hal7 := ((Below.refl _ v6).alloc (Nat.le_refl _) (.cells #[.int .i64 Rw, .int .i64 fw, .int .i64 xw, .slice F6 nfw cf6, .slice K6 nkw ck6, .slice T6 ntw ct6] 36))
      have HPA7 := Lib.hid (HO6.out.below (Nat.le_refl _) hal7)
      have HPB7 := Lib.hid (HO3_4_5_6.out.below (Nat.le_refl _) hal7)
      clear hal7
      go_wp2_with fail
      refine (eqD Rw fw xw HPA7.out HPB7.out HKK6.out.symm (by have := HSZ6.out; omega)).mono ?_
      rintro e v7 ⟨rfl, hx7⟩
      clear HPA7 HPB7
      clear bwq0 bwq1 bwq2 bwq3 bwq4 bwq5
      have hst7 : Below v6.heap.size v6 v7 := ((Below.refl _ _).alloc (Nat.le_refl _) (.cells #[.int .i64 Rw, .int .i64 fw, .int .i64 xw, .slice F6 nfw cf6, .slice K6 nkw ck6, .slice T6 ntw ct6] 36)).trans (hx7.mono (by simp))
      have z7 : v6.heap.size ≤ v7.heap.size := hst7.size
      have HO3_4_5_6_7 := Lib.hid (HO3_4_5_6.out.below (Nat.le_refl _) hst7)
      clear HO3_4_5_6
      have HO4_5_6_7 := Lib.hid (HO4_5_6.out.below (Nat.le_refl _) hst7)
      clear HO4_5_6
      have HO5_6_7 := Lib.hid (HO5_6.out.below (Nat.le_refl _) hst7)
      clear HO5_6
      have HO6_7 := Lib.hid (HO6.out.below (Nat.le_refl _) hst7)
      clear HO6
      have HB7 := Lib.hid (HB6.out.trans (hst7.mono (Nat.le_of_lt s6a)))
      have XA2_3_4_5_6_7 := Lib.hid (XA2_3_4_5_6.out.below hst7 s6a)
      clear XA2_3_4_5_6
      have s7a : w.heap.size < v7.heap.size := Nat.lt_of_lt_of_le s6a hst7.size
      clear s6a
      have XP2_3_4_5_6_7 := Lib.hid (XP2_3_4_5_6.out.below hst7 s6p)
      clear XP2_3_4_5_6
      have s7p : w.heap.size + 1 < v7.heap.size := Nat.lt_of_lt_of_le s6p hst7.size
      clear s6p
      have Xbw_4_5_6_7 := Lib.hid (Xbw_4_5_6.out.below hst7 s6bw)
      clear Xbw_4_5_6
      have s7bw : bw < v7.heap.size := Nat.lt_of_lt_of_le s6bw hst7.size
      clear s6bw
      have Xbx_6_7 := Lib.hid (Xbx_6.out.below hst7 s6bx)
      clear Xbx_6
      have s7bx : v4.heap.size < v7.heap.size := Nat.lt_of_lt_of_le s6bx hst7.size
      clear s6bx
      have Xby__7 := Lib.hid (Xby_.out.below hst7 s6by_)
      clear Xby_
      have s7by_ : v5.heap.size < v7.heap.size := Nat.lt_of_lt_of_le s6by_ hst7.size
      clear s6by_
      have Xbg := Lib.hid ((Box6.new v6 (.int .i64 Rw) (.int .i64 fw) (.int .i64 xw) (.slice F6 nfw cf6) (.slice K6 nkw ck6) (.slice T6 ntw ct6) 36).below hx7 (by simp))
      have s7bg : v6.heap.size < v7.heap.size := by have := hx7.size; simp at this; omega
      have tbg := s7bg
      clear hx7 hst7
      obtain ⟨aq0, aq1, aq2, aq3, aq4, aq5⟩ := XA2_3_4_5_6_7.out
      obtain ⟨bxq0, bxq1, bxq2, bxq3, bxq4, bxq5⟩ := Xbx_6_7.out
      go_upto_region 14 with fail
      go_cut [58] (fun s wx => s = .bool false ∧ Below v7.heap.size v7 wx)
      case first =>
        go_region_with (first
          | (go_at_call 7; refine (HT1.out _ ?_).mono ?_; exact ⟨HB7.out.os, HB7.out.tape, HB7.out.output, HB7.out.size, HB7.out.block⟩; rintro e y1 ⟨Fy, cfy, Ky, cky, Ty, cty, gy, rfl, hoy, hky, hxy'⟩; have hxy : Below v7.heap.size v7 y1 := undrew hxy'; clear hxy'; have HKY := Lib.hid hky; clear hky; have HOY := Lib.hid hoy; have HPY := Lib.hid (HO4_5_6_7.out.below (Nat.le_refl _) hxy); obtain ⟨r0_, r1_, r2_, r3_, r4_, r5_⟩ := Xbx_6_7.out.below hxy s7bx; have HXY := Lib.hid hxy; have zy := hxy.size; clear hoy hxy)
          | (go_at_call 10; refine (eqD room fuse next HPY.out HOY.out (HKY.out.trans HK4.out.symm) (by have := HSX.out; omega)).mono ?_; rintro e y2 ⟨rfl, hxz⟩))
        all_goals
          have HE := Lib.hid (HXY.out.trans (hxz.mono zy))
          clear hxz
          go_wp2_with fail
          go_meet
          case rel => exact ⟨rfl, HE.out⟩
      case rest =>
        obtain ⟨rfl, hxc⟩ := hcut
        clear aq0 aq1 aq2 aq3 aq4 aq5
        clear bxq0 bxq1 bxq2 bxq3 bxq4 bxq5
        obtain ⟨wj8, rfl⟩ : ∃ v : World, v = wc := ⟨_, rfl⟩
        have hst8 : Below v7.heap.size v7 wj8 := hxc
        have z8 : v7.heap.size ≤ wj8.heap.size := hst8.size
        have HO3_4_5_6_7_8 := Lib.hid (HO3_4_5_6_7.out.below (Nat.le_refl _) hst8)
        clear HO3_4_5_6_7
        have HO4_5_6_7_8 := Lib.hid (HO4_5_6_7.out.below (Nat.le_refl _) hst8)
        clear HO4_5_6_7
        have HO5_6_7_8 := Lib.hid (HO5_6_7.out.below (Nat.le_refl _) hst8)
        clear HO5_6_7
        have HO6_7_8 := Lib.hid (HO6_7.out.below (Nat.le_refl _) hst8)
        clear HO6_7
        have HB8 := Lib.hid (HB7.out.trans (hst8.mono (Nat.le_of_lt s7a)))
        have XA2_3_4_5_6_7_8 := Lib.hid (XA2_3_4_5_6_7.out.below hst8 s7a)
        clear XA2_3_4_5_6_7
        have s8a : w.heap.size < wj8.heap.size := Nat.lt_of_lt_of_le s7a hst8.size
        clear s7a
        have XP2_3_4_5_6_7_8 := Lib.hid (XP2_3_4_5_6_7.out.below hst8 s7p)
        clear XP2_3_4_5_6_7
        have s8p : w.heap.size + 1 < wj8.heap.size := Nat.lt_of_lt_of_le s7p hst8.size
        clear s7p
        have Xbw_4_5_6_7_8 := Lib.hid (Xbw_4_5_6_7.out.below hst8 s7bw)
        clear Xbw_4_5_6_7
        have s8bw : bw < wj8.heap.size := Nat.lt_of_lt_of_le s7bw hst8.size
        clear s7bw
        have Xbx_6_7_8 := Lib.hid (Xbx_6_7.out.below hst8 s7bx)
        clear Xbx_6_7
        have s8bx : v4.heap.size < wj8.heap.size := Nat.lt_of_lt_of_le s7bx hst8.size
        clear s7bx
        have Xby__7_8 := Lib.hid (Xby__7.out.below hst8 s7by_)
        clear Xby__7
        have s8by_ : v5.heap.size < wj8.heap.size := Nat.lt_of_lt_of_le s7by_ hst8.size
        clear s7by_
        have Xbg_8 := Lib.hid (Xbg.out.below hst8 s7bg)
        clear Xbg
        have s8bg : v6.heap.size < wj8.heap.size := Nat.lt_of_lt_of_le s7bg hst8.size
        clear s7bg
        clear hxc hst8
        obtain ⟨pq0, pq1, pq2, pq3⟩ := XP2_3_4_5_6_7_8.out
        obtain ⟨by_q0, by_q1, by_q2, by_q3⟩ := Xby__7_8.out
        go_upto_region 16 with fail
        go_cut [63] (fun s wx => s = .bool false ∧ Below wj8.heap.size wj8 wx)
        case first =>
          go_region_with (first
            | (go_at_call 8; refine (HOP.out _ ?_).mono ?_; exact ⟨HB8.out.os, HB8.out.tape, HB8.out.output, HB8.out.size, HB8.out.block⟩; rintro e y1 ⟨Ay, cy, rfl, hoy, hxy'⟩; have hxy : Below wj8.heap.size wj8 y1 := undrew hxy'; clear hxy'; have HOY := Lib.hid hoy; have HPY := Lib.hid (HO5_6_7_8.out.below (Nat.le_refl _) hxy); obtain ⟨r0_, r1_, r2_, r3_⟩ := Xby__7_8.out.below hxy s8by_; have HXY := Lib.hid hxy; have zy := hxy.size; clear hoy hxy)
            | (go_at_call 11; refine (eqDiskOp_yes k name to_ _ _ n _ _ ys _ HPY.out.rd HOY.out.rd HPY.out.len (by omega)).mono ?_; rintro e y2 ⟨rfl, hxz⟩))
          all_goals
            have HE := Lib.hid (HXY.out.trans (hxz.mono zy))
            clear hxz
            go_wp2_with fail
            go_meet
            case rel => exact ⟨rfl, HE.out⟩
        case rest =>
          obtain ⟨rfl, hxc⟩ := hcut
          clear pq0 pq1 pq2 pq3
          clear by_q0 by_q1 by_q2 by_q3
          obtain ⟨wj9, rfl⟩ : ∃ v : World, v = wc := ⟨_, rfl⟩
          have hst9 : Below wj8.heap.size wj8 wj9 := hxc
          have z9 : wj8.heap.size ≤ wj9.heap.size := hst9.size
          have HO3_4_5_6_7_8_9 := Lib.hid (HO3_4_5_6_7_8.out.below (Nat.le_refl _) hst9)
          clear HO3_4_5_6_7_8
          have HO4_5_6_7_8_9 := Lib.hid (HO4_5_6_7_8.out.below (Nat.le_refl _) hst9)
          clear HO4_5_6_7_8
          have HO5_6_7_8_9 := Lib.hid (HO5_6_7_8.out.below (Nat.le_refl _) hst9)
          clear HO5_6_7_8
          have HO6_7_8_9 := Lib.hid (HO6_7_8.out.below (Nat.le_refl _) hst9)
          clear HO6_7_8
          have HB9 := Lib.hid (HB8.out.trans (hst9.mono (Nat.le_of_lt s8a)))
          have XA2_3_4_5_6_7_8_9 := Lib.hid (XA2_3_4_5_6_7_8.out.below hst9 s8a)
          clear XA2_3_4_5_6_7_8
          have s9a : w.heap.size < wj9.heap.size := Nat.lt_of_lt_of_le s8a hst9.size
          clear s8a
          have XP2_3_4_5_6_7_8_9 := Lib.hid (XP2_3_4_5_6_7_8.out.below hst9 s8p)
          clear XP2_3_4_5_6_7_8
          have s9p : w.heap.size + 1 < wj9.heap.size := Nat.lt_of_lt_of_le s8p hst9.size
          clear s8p
          have Xbw_4_5_6_7_8_9 := Lib.hid (Xbw_4_5_6_7_8.out.below hst9 s8bw)
          clear Xbw_4_5_6_7_8
          have s9bw : bw < wj9.heap.size := Nat.lt_of_lt_of_le s8bw hst9.size
          clear s8bw
          have Xbx_6_7_8_9 := Lib.hid (Xbx_6_7_8.out.below hst9 s8bx)
          clear Xbx_6_7_8
          have s9bx : v4.heap.size < wj9.heap.size := Nat.lt_of_lt_of_le s8bx hst9.size
          clear s8bx
          have Xby__7_8_9 := Lib.hid (Xby__7_8.out.below hst9 s8by_)
          clear Xby__7_8
          have s9by_ : v5.heap.size < wj9.heap.size := Nat.lt_of_lt_of_le s8by_ hst9.size
          clear s8by_
          have Xbg_8_9 := Lib.hid (Xbg_8.out.below hst9 s8bg)
          clear Xbg_8
          have s9bg : v6.heap.size < wj9.heap.size := Nat.lt_of_lt_of_le s8bg hst9.size
          clear s8bg
          clear hxc hst9
          obtain ⟨bxq0, bxq1, bxq2, bxq3, bxq4, bxq5⟩ := Xbx_6_7_8_9.out
          go_wp2_with fail
          refine (markDisk_any room fuse next _ F4 nf cf4 K4 nk ck4 T4 nt ct4 g4 ks ts 1 _ HO4_5_6_7_8_9.out HO4_5_6_7_8_9.out.lenF HO4_5_6_7_8_9.out.lenL HO4_5_6_7_8_9.out.lenT (by decide) (by have := HSX.out; omega)).mono ?_
          rintro e v10 ⟨rfl, ho10, on10⟩
          obtain ⟨m10, hm10⟩ : ∃ m, m = 1 + 2 * nf + usedD g4 + 2 * nk + 4 * nt := ⟨_, rfl⟩
          rw [← hm10]
          have hz10 : decide ((m10 : Int) < 0) = false := decide_eq_false (by omega)
          have HM10 := Lib.hid hm10
          clear hm10
          have HO10 := Lib.hid ho10
          clear ho10
          clear bxq0 bxq1 bxq2 bxq3 bxq4 bxq5
          have HO3_4_5_6_7_8_9_10 := Lib.hid (HO3_4_5_6_7_8_9.out.only on10 (fun i hi hs => by have h1 := HL3.out i hi; have h2 := HL4.out i hs; have hq1 := h1.2.1; have hq2 := h2.2.1; rcases Nat.lt_or_ge i i with h | h <;> omega))
          clear HO3_4_5_6_7_8_9
          have HO5_6_7_8_9_10 := Lib.hid (ownB_only HO5_6_7_8_9.out on10 (fun i hi hs => by have h1 := HL5.out i hi; have h2 := HL4.out i hs; have hq1 := h1.2.1; have hq2 := h2.2.1; rcases Nat.lt_or_ge i i with h | h <;> omega))
          clear HO5_6_7_8_9
          have HO6_7_8_9_10 := Lib.hid (HO6_7_8_9.out.only on10 (fun i hi hs => by have h1 := HL6.out i hi; have h2 := HL4.out i hs; have hq1 := h1.2.1; have hq2 := h2.2.1; rcases Nat.lt_or_ge i i with h | h <;> omega))
          clear HO6_7_8_9
          have HB10 := Lib.hid (Only.below_ on10 HB9.out (Nat.le_of_lt s9a) (fun i hs => by have h2 := HL4.out i hs; omega))
          have z10 : wj9.heap.size ≤ v10.heap.size := on10.size
          have XA2_3_4_5_6_7_8_9_10 := Lib.hid (XA2_3_4_5_6_7_8_9.out.only on10 (fun hs => by have h2 := HL4.out _ hs; first | omega | exact h2.2.1 rfl))
          clear XA2_3_4_5_6_7_8_9
          have s10a : w.heap.size < v10.heap.size := Nat.lt_of_lt_of_le s9a on10.size
          clear s9a
          have XP2_3_4_5_6_7_8_9_10 := Lib.hid (XP2_3_4_5_6_7_8_9.out.only on10 (fun hs => by have h2 := HL4.out _ hs; first | omega | exact h2.2.1 rfl))
          clear XP2_3_4_5_6_7_8_9
          have s10p : w.heap.size + 1 < v10.heap.size := Nat.lt_of_lt_of_le s9p on10.size
          clear s9p
          have Xbw_4_5_6_7_8_9_10 := Lib.hid (Xbw_4_5_6_7_8_9.out.only on10 (fun hs => by have h2 := HL4.out _ hs; first | omega | exact h2.2.1 rfl))
          clear Xbw_4_5_6_7_8_9
          have s10bw : bw < v10.heap.size := Nat.lt_of_lt_of_le s9bw on10.size
          clear s9bw
          have Xbx_6_7_8_9_10 := Lib.hid (Xbx_6_7_8_9.out.only on10 (fun hs => by have h2 := HL4.out _ hs; first | omega | exact h2.2.1 rfl))
          clear Xbx_6_7_8_9
          have s10bx : v4.heap.size < v10.heap.size := Nat.lt_of_lt_of_le s9bx on10.size
          clear s9bx
          have Xby__7_8_9_10 := Lib.hid (Xby__7_8_9.out.only on10 (fun hs => by have h2 := HL4.out _ hs; first | omega | exact h2.2.1 rfl))
          clear Xby__7_8_9
          have s10by_ : v5.heap.size < v10.heap.size := Nat.lt_of_lt_of_le s9by_ on10.size
          clear s9by_
          have Xbg_8_9_10 := Lib.hid (Xbg_8_9.out.only on10 (fun hs => by have h2 := HL4.out _ hs; first | omega | exact h2.2.1 rfl))
          clear Xbg_8_9
          have s10bg : v6.heap.size < v10.heap.size := Nat.lt_of_lt_of_le s9bg on10.size
          clear s9bg
          clear on10 HO4_5_6_7_8_9
          have HMK := Lib.hid (show m10 ≤ 1099511627776 - 2097152 by have h1 := HM10.out; have h2 := HSX.out; omega)
          clear HO10 HL4 HK4 HSX
          obtain ⟨by_q0, by_q1, by_q2, by_q3⟩ := Xby__7_8_9_10.out
          go_wp2_with fail
          refine (markDiskOp_any k name to_ _ n _ _ ys ((m10 : Nat) : Int) _ HO5_6_7_8_9_10.out (by omega) (by omega) (by have := HMK.out; omega)).mono ?_
          rintro e v11 ⟨rfl, ho11, gr11⟩
          have on11 : Only (fun i => (Value.slice C5 n cc5).ownBlock = some i) v10 v11 := Only.grown gr11 (fun i h => h)
          have hz11 : decide (((m10 : Nat) : Int) + (n : Int) < 0) = false := decide_eq_false (by omega)
          clear gr11 ho11
          clear by_q0 by_q1 by_q2 by_q3
          have HO3_4_5_6_7_8_9_10_11 := Lib.hid (HO3_4_5_6_7_8_9_10.out.only on11 (fun i hi hs => by have h1 := HL3.out i hi; have h2 := HL5.out i hs; have hq1 := h1.2.1; have hq2 := h2.2.1; rcases Nat.lt_or_ge i i with h | h <;> omega))
          clear HO3_4_5_6_7_8_9_10
          have HO6_7_8_9_10_11 := Lib.hid (HO6_7_8_9_10.out.only on11 (fun i hi hs => by have h1 := HL6.out i hi; have h2 := HL5.out i hs; have hq1 := h1.2.1; have hq2 := h2.2.1; rcases Nat.lt_or_ge i i with h | h <;> omega))
          clear HO6_7_8_9_10
          have HB11 := Lib.hid (Only.below_ on11 HB10.out (Nat.le_of_lt s10a) (fun i hs => by have h2 := HL5.out i hs; omega))
          have z11 : v10.heap.size ≤ v11.heap.size := on11.size
          have XA2_3_4_5_6_7_8_9_10_11 := Lib.hid (XA2_3_4_5_6_7_8_9_10.out.only on11 (fun hs => by have h2 := HL5.out _ hs; first | omega | exact h2.2.1 rfl))
          clear XA2_3_4_5_6_7_8_9_10
          have s11a : w.heap.size < v11.heap.size := Nat.lt_of_lt_of_le s10a on11.size
          clear s10a
          have XP2_3_4_5_6_7_8_9_10_11 := Lib.hid (XP2_3_4_5_6_7_8_9_10.out.only on11 (fun hs => by have h2 := HL5.out _ hs; first | omega | exact h2.2.1 rfl))
          clear XP2_3_4_5_6_7_8_9_10
          have s11p : w.heap.size + 1 < v11.heap.size := Nat.lt_of_lt_of_le s10p on11.size
          clear s10p
          have Xbw_4_5_6_7_8_9_10_11 := Lib.hid (Xbw_4_5_6_7_8_9_10.out.only on11 (fun hs => by have h2 := HL5.out _ hs; first | omega | exact h2.2.1 rfl))
          clear Xbw_4_5_6_7_8_9_10
          have s11bw : bw < v11.heap.size := Nat.lt_of_lt_of_le s10bw on11.size
          clear s10bw
          have Xbx_6_7_8_9_10_11 := Lib.hid (Xbx_6_7_8_9_10.out.only on11 (fun hs => by have h2 := HL5.out _ hs; first | omega | exact h2.2.1 rfl))
          clear Xbx_6_7_8_9_10
          have s11bx : v4.heap.size < v11.heap.size := Nat.lt_of_lt_of_le s10bx on11.size
          clear s10bx
          have Xby__7_8_9_10_11 := Lib.hid (Xby__7_8_9_10.out.only on11 (fun hs => by have h2 := HL5.out _ hs; first | omega | exact h2.2.1 rfl))
          clear Xby__7_8_9_10
          have s11by_ : v5.heap.size < v11.heap.size := Nat.lt_of_lt_of_le s10by_ on11.size
          clear s10by_
          have Xbg_8_9_10_11 := Lib.hid (Xbg_8_9_10.out.only on11 (fun hs => by have h2 := HL5.out _ hs; first | omega | exact h2.2.1 rfl))
          clear Xbg_8_9_10
          have s11bg : v6.heap.size < v11.heap.size := Nat.lt_of_lt_of_le s10bg on11.size
          clear s10bg
          clear on11 HO5_6_7_8_9_10
          obtain ⟨bgq0, bgq1, bgq2, bgq3, bgq4, bgq5⟩ := Xbg_8_9_10_11.out
          obtain ⟨bwq0, bwq1, bwq2, bwq3, bwq4, bwq5⟩ := Xbw_4_5_6_7_8_9_10_11.out
          have HPA12 := HO6_7_8_9_10_11
          have HPB12 := HO3_4_5_6_7_8_9_10_11
          go_wp2_with fail
          refine (eqD Rw fw xw HPA12.out HPB12.out HKK6.out.symm (by have := HSZ6.out; omega)).mono ?_
          rintro e v12 ⟨rfl, hx12⟩
          clear HPA12 HPB12
          clear bgq0 bgq1 bgq2 bgq3 bgq4 bgq5
          clear bwq0 bwq1 bwq2 bwq3 bwq4 bwq5
          have hst12 : Below v11.heap.size v11 v12 := hx12
          have z12 : v11.heap.size ≤ v12.heap.size := hst12.size
          have HO3_4_5_6_7_8_9_10_11_12 := Lib.hid (HO3_4_5_6_7_8_9_10_11.out.below (Nat.le_refl _) hst12)
          clear HO3_4_5_6_7_8_9_10_11
          have HO6_7_8_9_10_11_12 := Lib.hid (HO6_7_8_9_10_11.out.below (Nat.le_refl _) hst12)
          clear HO6_7_8_9_10_11
          have HB12 := Lib.hid (HB11.out.trans (hst12.mono (Nat.le_of_lt s11a)))
          have XA2_3_4_5_6_7_8_9_10_11_12 := Lib.hid (XA2_3_4_5_6_7_8_9_10_11.out.below hst12 s11a)
          clear XA2_3_4_5_6_7_8_9_10_11
          have s12a : w.heap.size < v12.heap.size := Nat.lt_of_lt_of_le s11a hst12.size
          clear s11a
          have XP2_3_4_5_6_7_8_9_10_11_12 := Lib.hid (XP2_3_4_5_6_7_8_9_10_11.out.below hst12 s11p)
          clear XP2_3_4_5_6_7_8_9_10_11
          have s12p : w.heap.size + 1 < v12.heap.size := Nat.lt_of_lt_of_le s11p hst12.size
          clear s11p
          have Xbw_4_5_6_7_8_9_10_11_12 := Lib.hid (Xbw_4_5_6_7_8_9_10_11.out.below hst12 s11bw)
          clear Xbw_4_5_6_7_8_9_10_11
          have s12bw : bw < v12.heap.size := Nat.lt_of_lt_of_le s11bw hst12.size
          clear s11bw
          have Xbx_6_7_8_9_10_11_12 := Lib.hid (Xbx_6_7_8_9_10_11.out.below hst12 s11bx)
          clear Xbx_6_7_8_9_10_11
          have s12bx : v4.heap.size < v12.heap.size := Nat.lt_of_lt_of_le s11bx hst12.size
          clear s11bx
          have Xby__7_8_9_10_11_12 := Lib.hid (Xby__7_8_9_10_11.out.below hst12 s11by_)
          clear Xby__7_8_9_10_11
          have s12by_ : v5.heap.size < v12.heap.size := Nat.lt_of_lt_of_le s11by_ hst12.size
          clear s11by_
          have Xbg_8_9_10_11_12 := Lib.hid (Xbg_8_9_10_11.out.below hst12 s11bg)
          clear Xbg_8_9_10_11
          have s12bg : v6.heap.size < v12.heap.size := Nat.lt_of_lt_of_le s11bg hst12.size
          clear s11bg
          clear hx12 hst12
          have HN1 := Lib.hid HO6_7_8_9_10_11_12.out.lenF
          have HN2 := Lib.hid HO6_7_8_9_10_11_12.out.lenL
          have HN3 := Lib.hid HO6_7_8_9_10_11_12.out.lenT
          obtain ⟨bgq0, bgq1, bgq2, bgq3, bgq4, bgq5⟩ := Xbg_8_9_10_11_12.out
          go_wp2_with fail
          refine (markDisk_any Rw fw xw _ F6 nfw cf6 K6 nkw ck6 T6 ntw ct6 g6 lw tw 1 _ HO6_7_8_9_10_11_12.out HO6_7_8_9_10_11_12.out.lenF HO6_7_8_9_10_11_12.out.lenL HO6_7_8_9_10_11_12.out.lenT (by decide) (by have := HSZ6.out; omega)).mono ?_
          rintro e v13 ⟨rfl, ho13, on13⟩
          obtain ⟨m13, hm13⟩ : ∃ m, m = 1 + 2 * nfw + usedD g6 + 2 * nkw + 4 * ntw := ⟨_, rfl⟩
          rw [← hm13]
          have hz13 : decide ((m13 : Int) < 0) = false := decide_eq_false (by omega)
          have HM13 := Lib.hid hm13
          clear hm13
          have HO13 := Lib.hid ho13
          clear ho13
          clear bgq0 bgq1 bgq2 bgq3 bgq4 bgq5
          have HO3_4_5_6_7_8_9_10_11_12_13 := Lib.hid (HO3_4_5_6_7_8_9_10_11_12.out.only on13 (fun i hi hs => by have h1 := HL3.out i hi; have h2 := HL6.out i hs; have hq1 := h1.2.1; have hq2 := h2.2.1; rcases Nat.lt_or_ge i i with h | h <;> omega))
          clear HO3_4_5_6_7_8_9_10_11_12
          have HB13 := Lib.hid (Only.below_ on13 HB12.out (Nat.le_of_lt s12a) (fun i hs => by have h2 := HL6.out i hs; omega))
          have z13 : v12.heap.size ≤ v13.heap.size := on13.size
          have XA2_3_4_5_6_7_8_9_10_11_12_13 := Lib.hid (XA2_3_4_5_6_7_8_9_10_11_12.out.only on13 (fun hs => by have h2 := HL6.out _ hs; first | omega | exact h2.2.1 rfl))
          clear XA2_3_4_5_6_7_8_9_10_11_12
          have s13a : w.heap.size < v13.heap.size := Nat.lt_of_lt_of_le s12a on13.size
          clear s12a
          have XP2_3_4_5_6_7_8_9_10_11_12_13 := Lib.hid (XP2_3_4_5_6_7_8_9_10_11_12.out.only on13 (fun hs => by have h2 := HL6.out _ hs; first | omega | exact h2.2.1 rfl))
          clear XP2_3_4_5_6_7_8_9_10_11_12
          have s13p : w.heap.size + 1 < v13.heap.size := Nat.lt_of_lt_of_le s12p on13.size
          clear s12p
          have Xbw_4_5_6_7_8_9_10_11_12_13 := Lib.hid (Xbw_4_5_6_7_8_9_10_11_12.out.only on13 (fun hs => by have h2 := HL6.out _ hs; first | omega | exact h2.2.1 rfl))
          clear Xbw_4_5_6_7_8_9_10_11_12
          have s13bw : bw < v13.heap.size := Nat.lt_of_lt_of_le s12bw on13.size
          clear s12bw
          have Xbx_6_7_8_9_10_11_12_13 := Lib.hid (Xbx_6_7_8_9_10_11_12.out.only on13 (fun hs => by have h2 := HL6.out _ hs; first | omega | exact h2.2.1 rfl))
          clear Xbx_6_7_8_9_10_11_12
          have s13bx : v4.heap.size < v13.heap.size := Nat.lt_of_lt_of_le s12bx on13.size
          clear s12bx
          have Xby__7_8_9_10_11_12_13 := Lib.hid (Xby__7_8_9_10_11_12.out.only on13 (fun hs => by have h2 := HL6.out _ hs; first | omega | exact h2.2.1 rfl))
          clear Xby__7_8_9_10_11_12
          have s13by_ : v5.heap.size < v13.heap.size := Nat.lt_of_lt_of_le s12by_ on13.size
          clear s12by_
          have Xbg_8_9_10_11_12_13 := Lib.hid (Xbg_8_9_10_11_12.out.only on13 (fun hs => by have h2 := HL6.out _ hs; first | omega | exact h2.2.1 rfl))
          clear Xbg_8_9_10_11_12
          have s13bg : v6.heap.size < v13.heap.size := Nat.lt_of_lt_of_le s12bg on13.size
          clear s12bg
          clear on13 HO6_7_8_9_10_11_12
          have hmm : ((m13 : Int) != (m13 : Int)) = false := by simp
          obtain ⟨bgq0, bgq1, bgq2, bgq3, bgq4, bgq5⟩ := Xbg_8_9_10_11_12_13.out
          go_wp2_with fail
          refine (heldD Rw fw xw g6 lw tw 1 HO13.out HN1.out HN2.out HN3.out (by decide) (by have := HSZ6.out; omega)).mono ?_
          rintro e v14 ⟨rfl, hx14⟩
          rw [← HM13.out]
          clear bgq0 bgq1 bgq2 bgq3 bgq4 bgq5
          have hst14 : Below v13.heap.size v13 v14 := hx14
          have z14 : v13.heap.size ≤ v14.heap.size := hst14.size
          have HO3_4_5_6_7_8_9_10_11_12_13_14 := Lib.hid (HO3_4_5_6_7_8_9_10_11_12_13.out.below (Nat.le_refl _) hst14)
          clear HO3_4_5_6_7_8_9_10_11_12_13
          have HO13_14 := Lib.hid (HO13.out.below (Nat.le_refl _) hst14)
          clear HO13
          have HB14 := Lib.hid (HB13.out.trans (hst14.mono (Nat.le_of_lt s13a)))
          have XA2_3_4_5_6_7_8_9_10_11_12_13_14 := Lib.hid (XA2_3_4_5_6_7_8_9_10_11_12_13.out.below hst14 s13a)
          clear XA2_3_4_5_6_7_8_9_10_11_12_13
          have s14a : w.heap.size < v14.heap.size := Nat.lt_of_lt_of_le s13a hst14.size
          clear s13a
          have XP2_3_4_5_6_7_8_9_10_11_12_13_14 := Lib.hid (XP2_3_4_5_6_7_8_9_10_11_12_13.out.below hst14 s13p)
          clear XP2_3_4_5_6_7_8_9_10_11_12_13
          have s14p : w.heap.size + 1 < v14.heap.size := Nat.lt_of_lt_of_le s13p hst14.size
          clear s13p
          have Xbw_4_5_6_7_8_9_10_11_12_13_14 := Lib.hid (Xbw_4_5_6_7_8_9_10_11_12_13.out.below hst14 s13bw)
          clear Xbw_4_5_6_7_8_9_10_11_12_13
          have s14bw : bw < v14.heap.size := Nat.lt_of_lt_of_le s13bw hst14.size
          clear s13bw
          have Xbx_6_7_8_9_10_11_12_13_14 := Lib.hid (Xbx_6_7_8_9_10_11_12_13.out.below hst14 s13bx)
          clear Xbx_6_7_8_9_10_11_12_13
          have s14bx : v4.heap.size < v14.heap.size := Nat.lt_of_lt_of_le s13bx hst14.size
          clear s13bx
          have Xby__7_8_9_10_11_12_13_14 := Lib.hid (Xby__7_8_9_10_11_12_13.out.below hst14 s13by_)
          clear Xby__7_8_9_10_11_12_13
          have s14by_ : v5.heap.size < v14.heap.size := Nat.lt_of_lt_of_le s13by_ hst14.size
          clear s13by_
          have Xbg_8_9_10_11_12_13_14 := Lib.hid (Xbg_8_9_10_11_12_13.out.below hst14 s13bg)
          clear Xbg_8_9_10_11_12_13
          have s14bg : v6.heap.size < v14.heap.size := Nat.lt_of_lt_of_le s13bg hst14.size
          clear s13bg
          clear hx14 hst14
          have HBD := Lib.hid (show Below w.heap.size w v14.drew from ⟨HB14.out.os, HB14.out.tape, HB14.out.output, HB14.out.size, HB14.out.block⟩)
          have HBZ := HB14
          have ZZ := Lib.hid (Nat.le_of_lt s14a)
          have XPC := XP2_3_4_5_6_7_8_9_10_11_12_13_14
          have SPC := Lib.hid s14p
          have HCALL := HIm
          obtain ⟨aq0, aq1, aq2, aq3, aq4, aq5⟩ := XA2_3_4_5_6_7_8_9_10_11_12_13_14.out
          obtain ⟨pq0, pq1, pq2, pq3⟩ := XP2_3_4_5_6_7_8_9_10_11_12_13_14.out
          go_upto_region 31 with fail
          go_cut [15, 16] (fun s o wx => RelDo v14 (DoD (OkS room fuse next fs ks ts ∧ opQ k name to_ n = true) room fuse next fs ks ts k name to_ ys n) s o wx)
          case first =>
            go_region_with (first
              | (go_at_call 7; (with_reducible refine (HT1.out _ ?_).mono ?_); (first | exact HBD.out | exact HBD.out.alloc HBD.out.size _); rintro e y1 ⟨F1, c1_, K1, k1_, T1, t1_, gs1, rfl, ho1, hk1, hx1⟩; (first | (have HS1 := Lib.hid (undrew hx1); have hs1 : v14.heap.size ≤ y1.heap.size := HS1.out.size) | (have HS1 := Lib.hid (undrew (((Below.refl v14.heap.size v14.drew).alloc (Nat.le_refl _) _).trans (hx1.mono (by simp)))); have hs1 : v14.heap.size + 1 ≤ y1.heap.size := (by have := hx1.size; simpa using this); have NB := Lib.hid (show BoxW y1 v14.heap.size #[.int .i64 0, .int .i64 0, .int .i64 0, .slice none 0 0, .slice none 0 0, .slice none 0 0] from BoxW.below (BoxW.new v14.drew #[.int .i64 0, .int .i64 0, .int .i64 0, .slice none 0 0, .slice none 0 0, .slice none 0 0]) hx1 (by simp)))); have HO1 := Lib.hid ho1; have HK1 := Lib.hid hk1; have hp1 : w.heap.size + 1 < y1.heap.size := Nat.lt_of_lt_of_le SPC.out HS1.out.size; have HBY := Lib.hid (HBZ.out.trans (HS1.out.mono ZZ.out)); obtain ⟨rp0, rp1, rp2, rp3⟩ := XPC.out.below HS1.out SPC.out; clear hx1 ho1 hk1)
              | (go_at_call 8; (with_reducible refine (HOP.out _ ?_).mono ?_); (first | exact HBY.out | exact HBY.out.alloc HBY.out.size _); rintro e y2 ⟨A2, a2_, rfl, ho2, hx2⟩; have HP2 := Lib.hid ho2; (first | (have HS2 := Lib.hid (HS1.out.trans (hx2.mono HS1.out.size)); have HO2 := Lib.hid (HO1.out.below (Nat.le_refl _) hx2); have hs2 : y1.heap.size ≤ y2.heap.size := hx2.size; (first | replace NB := Lib.hid (NB.out.below hx2 (by first | exact NB.out.lt)) | skip)) | (have HS2 := Lib.hid (HS1.out.trans (((Below.refl y1.heap.size y1).alloc (Nat.le_refl _) _).trans (hx2.mono (by simp)) |>.mono HS1.out.size)); have HO2 := Lib.hid ((HO1.out.below (Nat.le_refl _) ((Below.refl _ _).alloc (Nat.le_refl _) _)).below (by simp) hx2); have hs2 : y1.heap.size + 1 ≤ y2.heap.size := (by have := hx2.size; simpa using this); have NB := Lib.hid (BoxW.below (BoxW.new y1 #[.int .i64 0, .int .i64 0, .int .i64 0, .slice none 0 0, .slice none 0 0, .slice none 0 0]) hx2 (by simp)))); clear hx2 ho2)
              | (go_at_call 9; (first | (with_reducible refine (HCALL.out _ _ _ _ _ _ _ _ _ _ _ _ HO2.out HP2.out HK1.out).mono ?_) | (with_reducible refine (HCALL.out _ _ _ _ _ _ _ _ _ _ _ _ (HO2.out.below (Nat.le_refl _) ((Below.refl _ _).alloc (Nat.le_refl _) _)) (HP2.out.below (Nat.le_refl _) ((Below.refl _ _).alloc (Nat.le_refl _) _)) HK1.out).mono ?_)); rintro e y3 ⟨r3, f3, x3, F3, nf3, cf3, g3, K3, nk3, ck3, l3, T3, nt3, ct3, t3, o3, rfl, ho3, hd3, hx3⟩; have HD3 := Lib.hid hd3; (first | (have HS3 := Lib.hid (HS2.out.trans (hx3.mono HS2.out.size)); have HO3 := Lib.hid ho3; have hs3 : y2.heap.size ≤ y3.heap.size := hx3.size; (first | replace NB := Lib.hid (NB.out.below hx3 (by first | exact NB.out.lt)) | skip)) | (have HS3 := Lib.hid (HS2.out.trans (((Below.refl y2.heap.size y2).alloc (Nat.le_refl _) _).trans (hx3.mono (by simp)) |>.mono HS2.out.size)); have HO3 := Lib.hid ho3; have hs3 : y2.heap.size + 1 ≤ y3.heap.size := (by have := hx3.size; simpa using this); have NB := Lib.hid (BoxW.below (BoxW.new y2 #[.int .i64 0, .int .i64 0, .int .i64 0, .slice none 0 0, .slice none 0 0, .slice none 0 0]) hx3 (by simp)))); (first | (have n0_ : y3.cell? ⟨_, 0, none⟩ = some (.int .i64 0) := NB.out.cell 0; have f0_ := NB.out.free 0; have n1_ : y3.cell? ⟨_, 1, none⟩ = some (.int .i64 0) := NB.out.cell 1; have f1_ := NB.out.free 1; have n2_ : y3.cell? ⟨_, 2, none⟩ = some (.int .i64 0) := NB.out.cell 2; have f2_ := NB.out.free 2; have n3_ : y3.cell? ⟨_, 3, none⟩ = some (.slice none 0 0) := NB.out.cell 3; have f3_ := NB.out.free 3; have n4_ : y3.cell? ⟨_, 4, none⟩ = some (.slice none 0 0) := NB.out.cell 4; have f4_ := NB.out.free 4; have n5_ : y3.cell? ⟨_, 5, none⟩ = some (.slice none 0 0) := NB.out.cell 5; have f5_ := NB.out.free 5) | skip); clear hx3 ho3 hd3))
            all_goals
              go_wp2_with fail
              go_meet
              case rel =>
                have HS9 : Below v14.heap.size v14 y3 := HS3.out
                (first
                  | ((with_reducible refine relDo_al HO3.out HD3.out HS9 ?_); omega)
                  | ((with_reducible refine relDo_set NB.out HO3.out HD3.out HS9 ?_ ?_) <;> (first | omega | (simp; done) | (simp; omega))))
          case rest =>
            obtain ⟨Rh, fh, xh, Fh, nfh, cfh, gh, Kh, nkh, ckh, lh, Th, nth, cth, th, bh, rfl, hbk, ho, hd, hown, hbb, hx⟩ := hcut
            clear aq0 aq1 aq2 aq3 aq4 aq5
            clear pq0 pq1 pq2 pq3
            clear HBD XPC SPC HBZ ZZ HCALL
            obtain ⟨wk15, rfl⟩ : ∃ v : World, v = wc := ⟨_, rfl⟩
            have hst15 : Below v14.heap.size v14 wk15 := hx
            have z15 : v14.heap.size ≤ wk15.heap.size := hst15.size
            have HO3_4_5_6_7_8_9_10_11_12_13_14_15 := Lib.hid (HO3_4_5_6_7_8_9_10_11_12_13_14.out.below (Nat.le_refl _) hst15)
            clear HO3_4_5_6_7_8_9_10_11_12_13_14
            have HO13_14_15 := Lib.hid (HO13_14.out.below (Nat.le_refl _) hst15)
            clear HO13_14
            have HB15 := Lib.hid (HB14.out.trans (hst15.mono (Nat.le_of_lt s14a)))
            have XA2_3_4_5_6_7_8_9_10_11_12_13_14_15 := Lib.hid (XA2_3_4_5_6_7_8_9_10_11_12_13_14.out.below hst15 s14a)
            clear XA2_3_4_5_6_7_8_9_10_11_12_13_14
            have s15a : w.heap.size < wk15.heap.size := Nat.lt_of_lt_of_le s14a hst15.size
            clear s14a
            have XP2_3_4_5_6_7_8_9_10_11_12_13_14_15 := Lib.hid (XP2_3_4_5_6_7_8_9_10_11_12_13_14.out.below hst15 s14p)
            clear XP2_3_4_5_6_7_8_9_10_11_12_13_14
            have s15p : w.heap.size + 1 < wk15.heap.size := Nat.lt_of_lt_of_le s14p hst15.size
            clear s14p
            have Xbw_4_5_6_7_8_9_10_11_12_13_14_15 := Lib.hid (Xbw_4_5_6_7_8_9_10_11_12_13_14.out.below hst15 s14bw)
            clear Xbw_4_5_6_7_8_9_10_11_12_13_14
            have s15bw : bw < wk15.heap.size := Nat.lt_of_lt_of_le s14bw hst15.size
            clear s14bw
            have Xbx_6_7_8_9_10_11_12_13_14_15 := Lib.hid (Xbx_6_7_8_9_10_11_12_13_14.out.below hst15 s14bx)
            clear Xbx_6_7_8_9_10_11_12_13_14
            have s15bx : v4.heap.size < wk15.heap.size := Nat.lt_of_lt_of_le s14bx hst15.size
            clear s14bx
            have Xby__7_8_9_10_11_12_13_14_15 := Lib.hid (Xby__7_8_9_10_11_12_13_14.out.below hst15 s14by_)
            clear Xby__7_8_9_10_11_12_13_14
            have s15by_ : v5.heap.size < wk15.heap.size := Nat.lt_of_lt_of_le s14by_ hst15.size
            clear s14by_
            have Xbg_8_9_10_11_12_13_14_15 := Lib.hid (Xbg_8_9_10_11_12_13_14.out.below hst15 s14bg)
            clear Xbg_8_9_10_11_12_13_14
            have s15bg : v6.heap.size < wk15.heap.size := Nat.lt_of_lt_of_le s14bg hst15.size
            clear s14bg
            have HO15 := Lib.hid ho
            have HD15 := Lib.hid hd
            have HL15 := Lib.hid hown
            have Xbh := Lib.hid hbk
            obtain ⟨lobh, snbh⟩ := hbb
            have tbh := snbh
            clear hx ho hd hown hbk hst15
            have HOB : True := trivial
            obtain ⟨e1, e2, e3, hkk15, e5, e6, e7⟩ := DoD.same HD3.out HD15.out
            replace e1 := e1.symm
            replace e2 := e2.symm
            replace e3 := e3.symm
            replace e5 := e5.symm
            replace e6 := e6.symm
            replace e7 := e7.symm
            subst e1 e2 e3 e5 e6 e7
            have HKK15 := Lib.hid hkk15
            clear hkk15 HD15
            have n1 : nfw = nfh := by rw [← HO15.out.lenF, ← HO3_4_5_6_7_8_9_10_11_12_13_14_15.out.lenF]; exact (keys_len HKK15.out).symm
            have n2 : nkw = nkh := by rw [← HO15.out.lenL, ← HO3_4_5_6_7_8_9_10_11_12_13_14_15.out.lenL]
            have n3 : ntw = nth := by rw [← HO15.out.lenT, ← HO3_4_5_6_7_8_9_10_11_12_13_14_15.out.lenT]
            subst n1 n2 n3
            have HSZ15 := Lib.hid (show usedD gh + nfw + nkw + ntw ≤ 1048576 by rw [keys_used HKK15.out]; exact HSW.out)
            obtain ⟨bhq0, bhq1, bhq2, bhq3, bhq4, bhq5⟩ := Xbh.out
            obtain ⟨bwq0, bwq1, bwq2, bwq3, bwq4, bwq5⟩ := Xbw_4_5_6_7_8_9_10_11_12_13_14_15.out
            have HPA16 := HO15
            have HPB16 := HO3_4_5_6_7_8_9_10_11_12_13_14_15
            go_wp2_with fail
            refine (eqD Rw fw xw HPA16.out HPB16.out HKK15.out.symm (by have := HSZ15.out; omega)).mono ?_
            rintro e v16 ⟨rfl, hx16⟩
            clear HPA16 HPB16
            clear bhq0 bhq1 bhq2 bhq3 bhq4 bhq5
            clear bwq0 bwq1 bwq2 bwq3 bwq4 bwq5
            have hst16 : Below wk15.heap.size wk15 v16 := hx16
            have z16 : wk15.heap.size ≤ v16.heap.size := hst16.size
            have HO3_4_5_6_7_8_9_10_11_12_13_14_15_16 := Lib.hid (HO3_4_5_6_7_8_9_10_11_12_13_14_15.out.below (Nat.le_refl _) hst16)
            clear HO3_4_5_6_7_8_9_10_11_12_13_14_15
            have HO13_14_15_16 := Lib.hid (HO13_14_15.out.below (Nat.le_refl _) hst16)
            clear HO13_14_15
            have HO15_16 := Lib.hid (HO15.out.below (Nat.le_refl _) hst16)
            clear HO15
            have HB16 := Lib.hid (HB15.out.trans (hst16.mono (Nat.le_of_lt s15a)))
            have XA2_3_4_5_6_7_8_9_10_11_12_13_14_15_16 := Lib.hid (XA2_3_4_5_6_7_8_9_10_11_12_13_14_15.out.below hst16 s15a)
            clear XA2_3_4_5_6_7_8_9_10_11_12_13_14_15
            have s16a : w.heap.size < v16.heap.size := Nat.lt_of_lt_of_le s15a hst16.size
            clear s15a
            have XP2_3_4_5_6_7_8_9_10_11_12_13_14_15_16 := Lib.hid (XP2_3_4_5_6_7_8_9_10_11_12_13_14_15.out.below hst16 s15p)
            clear XP2_3_4_5_6_7_8_9_10_11_12_13_14_15
            have s16p : w.heap.size + 1 < v16.heap.size := Nat.lt_of_lt_of_le s15p hst16.size
            clear s15p
            have Xbw_4_5_6_7_8_9_10_11_12_13_14_15_16 := Lib.hid (Xbw_4_5_6_7_8_9_10_11_12_13_14_15.out.below hst16 s15bw)
            clear Xbw_4_5_6_7_8_9_10_11_12_13_14_15
            have s16bw : bw < v16.heap.size := Nat.lt_of_lt_of_le s15bw hst16.size
            clear s15bw
            have Xbx_6_7_8_9_10_11_12_13_14_15_16 := Lib.hid (Xbx_6_7_8_9_10_11_12_13_14_15.out.below hst16 s15bx)
            clear Xbx_6_7_8_9_10_11_12_13_14_15
            have s16bx : v4.heap.size < v16.heap.size := Nat.lt_of_lt_of_le s15bx hst16.size
            clear s15bx
            have Xby__7_8_9_10_11_12_13_14_15_16 := Lib.hid (Xby__7_8_9_10_11_12_13_14_15.out.below hst16 s15by_)
            clear Xby__7_8_9_10_11_12_13_14_15
            have s16by_ : v5.heap.size < v16.heap.size := Nat.lt_of_lt_of_le s15by_ hst16.size
            clear s15by_
            have Xbg_8_9_10_11_12_13_14_15_16 := Lib.hid (Xbg_8_9_10_11_12_13_14_15.out.below hst16 s15bg)
            clear Xbg_8_9_10_11_12_13_14_15
            have s16bg : v6.heap.size < v16.heap.size := Nat.lt_of_lt_of_le s15bg hst16.size
            clear s15bg
            have Xbh_16 := Lib.hid (Xbh.out.below hst16 snbh)
            clear Xbh
            have s16bh : bh < v16.heap.size := Nat.lt_of_lt_of_le snbh hst16.size
            clear snbh
            clear hx16 hst16
            clear HO15_16 HL15 
            clear HO3_4_5_6_7_8_9_10_11_12_13_14_15_16 HL3 
            obtain ⟨bgq0, bgq1, bgq2, bgq3, bgq4, bgq5⟩ := Xbg_8_9_10_11_12_13_14_15_16.out
            go_wp2_with fail
            refine (heldD Rw fw xw g6 lw tw 1 HO13_14_15_16.out HN1.out HN2.out HN3.out (by decide) (by have := HSZ6.out; omega)).mono ?_
            rintro e v17 ⟨rfl, hx17⟩
            rw [← HM13.out]
            clear bgq0 bgq1 bgq2 bgq3 bgq4 bgq5
            have hst17 : Below v16.heap.size v16 v17 := hx17
            have z17 : v16.heap.size ≤ v17.heap.size := hst17.size
            have HO13_14_15_16_17 := Lib.hid (HO13_14_15_16.out.below (Nat.le_refl _) hst17)
            clear HO13_14_15_16
            have HB17 := Lib.hid (HB16.out.trans (hst17.mono (Nat.le_of_lt s16a)))
            have XA2_3_4_5_6_7_8_9_10_11_12_13_14_15_16_17 := Lib.hid (XA2_3_4_5_6_7_8_9_10_11_12_13_14_15_16.out.below hst17 s16a)
            clear XA2_3_4_5_6_7_8_9_10_11_12_13_14_15_16
            have s17a : w.heap.size < v17.heap.size := Nat.lt_of_lt_of_le s16a hst17.size
            clear s16a
            have XP2_3_4_5_6_7_8_9_10_11_12_13_14_15_16_17 := Lib.hid (XP2_3_4_5_6_7_8_9_10_11_12_13_14_15_16.out.below hst17 s16p)
            clear XP2_3_4_5_6_7_8_9_10_11_12_13_14_15_16
            have s17p : w.heap.size + 1 < v17.heap.size := Nat.lt_of_lt_of_le s16p hst17.size
            clear s16p
            have Xbw_4_5_6_7_8_9_10_11_12_13_14_15_16_17 := Lib.hid (Xbw_4_5_6_7_8_9_10_11_12_13_14_15_16.out.below hst17 s16bw)
            clear Xbw_4_5_6_7_8_9_10_11_12_13_14_15_16
            have s17bw : bw < v17.heap.size := Nat.lt_of_lt_of_le s16bw hst17.size
            clear s16bw
            have Xbx_6_7_8_9_10_11_12_13_14_15_16_17 := Lib.hid (Xbx_6_7_8_9_10_11_12_13_14_15_16.out.below hst17 s16bx)
            clear Xbx_6_7_8_9_10_11_12_13_14_15_16
            have s17bx : v4.heap.size < v17.heap.size := Nat.lt_of_lt_of_le s16bx hst17.size
            clear s16bx
            have Xby__7_8_9_10_11_12_13_14_15_16_17 := Lib.hid (Xby__7_8_9_10_11_12_13_14_15_16.out.below hst17 s16by_)
            clear Xby__7_8_9_10_11_12_13_14_15_16
            have s17by_ : v5.heap.size < v17.heap.size := Nat.lt_of_lt_of_le s16by_ hst17.size
            clear s16by_
            have Xbg_8_9_10_11_12_13_14_15_16_17 := Lib.hid (Xbg_8_9_10_11_12_13_14_15_16.out.below hst17 s16bg)
            clear Xbg_8_9_10_11_12_13_14_15_16
            have s17bg : v6.heap.size < v17.heap.size := Nat.lt_of_lt_of_le s16bg hst17.size
            clear s16bg
            have Xbh_16_17 := Lib.hid (Xbh_16.out.below hst17 s16bh)
            clear Xbh_16
            have s17bh : bh < v17.heap.size := Nat.lt_of_lt_of_le s16bh hst17.size
            clear s16bh
            clear hx17 hst17
            go_wp2_with fail
            go_ret
            exact ⟨rfl, HB17.out⟩
end Go.Proofs.YtfkdfabbpebljaaGreat.fnExactDiskDo
