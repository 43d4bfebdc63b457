/- FnExactDiskRead: the walk of the law from the contracts of the program, of its model and of the laws' helpers; at every input, no condition. -/
import Derived.Test.YtehhophjhjeenaaSetOwn
import Derived.Test.YtehhophjhjeenaaReadSpec2
import Derived.Test.YtehhophjhjeenaaOpenDisk
import Derived.Deep.RegionWith
import Derived.Deep.Cut
import Derived.Deep.CutRange
import Derived.Deep.DeepCutAuto
namespace Go.Proofs.Ytehhophjhjeenaa.fnExactDiskRead
open Go.RowKit Go.Proofs.Ytehhophjhjeenaa.Bytes Go.Proofs.Ytehhophjhjeenaa.Rows_ Go.Proofs.Ytehhophjhjeenaa.DOk
set_option linter.unusedVariables false
theorem own : ownKnob Try.prog.godebug = none := by kernel_rfl
theorem undrew_ {W v : World} {B : Nat} (h : Below B W.drew v) : Below B W v := ⟨h.os, h.tape, h.output, h.size, h.block⟩
/-- what toDisk answers, with one word for what is owned -/
def ToD (room fuse next : Int) (nf nk nt : Nat) (fs : List FileD) (ks : List LinkD) (ts : List TurnD) (w : World) (e : Ending) (w' : World) : Prop :=
  ∃ F' cf' K' ck' T' ct' gs, e = .returned (.agg #[.int .i64 room, .int .i64 fuse, .int .i64 next, .slice F' nf cf', .slice K' nk ck', .slice T' nt ct']) ∧ OwnD w' w.heap.size F' nf cf' gs K' nk ck' ks T' nt ct' ts ∧ gs.map keyF = fs.map keyF ∧ Below w.heap.size w w'
theorem toOwn {room fuse next : Int} {nf nk nt : Nat} {fs : List FileD} {ks : List LinkD} {ts : List TurnD} {args : Array Value} {w : World} (h : Calls Try.prog 38 args w fun e w' => ∃ F' cf' K' ck' T' ct' gs, e = .returned (.agg #[.int .i64 room, .int .i64 fuse, .int .i64 next, .slice F' nf cf', .slice K' nk ck', .slice T' nt ct']) ∧
        OwnF w' w.heap.size F' nf cf' gs ∧ gs.map keyF = fs.map keyF ∧ OwnBs w' w.heap.size gs ∧ OwnL w' w.heap.size K' nk ck' ks ∧ OwnT w' w.heap.size T' nt ct' ts ∧ Below w.heap.size w w') : Calls Try.prog 38 args w (ToD room fuse next nf nk nt fs ks ts w) :=
  h.mono fun e w' ⟨F', cf', K', ck', T', ct', gs, h1, h2, h3, h4, h5, h6, h7⟩ => ⟨F', cf', K', ck', T', ct', gs, h1, ⟨h2, h4, h5, h6⟩, h3, h7⟩

/-- what reading answers over a disk of the call's own -/
def AnsR (P : Prop) (gs : List FileD) (l : List LinkD) (s : List UInt8) (w : World) (e : Ending) (w' : World) : Prop :=
  ∃ zs o A c, e = .returned (.tuple #[.slice A zs.length c, .bool o]) ∧ zs.length ≤ 1048576 ∧ ReadD P gs l s zs o ∧ Own w' w.heap.size A zs.length c zs ∧ Below w.heap.size w w'
theorem ansR {P : Prop} {gs : List FileD} {l : List LinkD} {s : List UInt8} {w w0 : World} {B : Nat} {e : Ending} {w' : World} (hb : RdB w0 B gs) (hu : usedD gs ≤ 1048576) (h : AnsRead P gs l s w e w') : AnsR P gs l s w e w' := by
  obtain ⟨zs, o, A, c, h1, h2, h3, h4⟩ := h
  refine ⟨zs, o, A, c, h1, ?_, h2, h3, h4⟩
  rcases h2 with ⟨_, _, ⟨i, hi, _, _, rfl⟩, _⟩ | ⟨_, rfl, _⟩
  · have h5 := (hb _ (List.getElem_mem hi)).2
    have h6 := n_used (List.getElem_mem hi)
    omega
  · simp
section
variable (room fuse next : Int) {nf nk nt : Nat} {fs : List FileD} {ks : List LinkD} {ts : List TurnD} (s : ByteArray) {W : World} {B : Nat} {F1 : Option Addr} {cf1 : Nat} {K1 : Option Addr} {ck1 : Nat} {T1 : Option Addr} {ct1 : Nat} {gs : List FileD}
theorem spec_own (hs : s.size ≤ maxLen) (h : OwnD W B F1 nf cf1 gs K1 nk ck1 ks T1 nt ct1 ts) (hk : gs.map keyF = fs.map keyF) (hn : nf + usedD fs + nk + nt ≤ 1048576) (hids : ∀ x ∈ fs, (Lit.int .i64 x.id).wf = true) (hks : ∀ x ∈ ks, x.1.size ≤ maxLen ∧ (Lit.int .i64 x.2).wf = true) (hts : ∀ x ∈ ts, x.name.size ≤ maxLen ∧ x.to_.size ≤ maxLen ∧ (Lit.int .i64 x.id).wf = true) :
    Calls Try.prog 43 #[.agg #[.int .i64 room, .int .i64 fuse, .int .i64 next, .slice F1 nf cf1, .slice K1 nk ck1, .slice T1 nt ct1], .string s] W (AnsR (OkS room fuse next gs ks ts) gs (dirAt ks ts) s.toList W) :=
  (spec_DiskRead_any room fuse next F1 nf cf1 K1 nk ck1 T1 nt ct1 gs ks ts s W h.f.rd h.lenF h.b.rdB (fun f hf => own_none (h.b.1 f hf)) (by rw [keys_used hk]; omega)
    h.l.rd h.lenL (own_noneK h.l) (fun x hx => (hks x hx).1) h.t.rd h.lenT (fun x hx => ⟨(hts x hx).1, (hts x hx).2.1⟩)).mono fun e w' ha => ansR h.b.rdB (by rw [keys_used hk]; omega) ha
theorem impl_own (hs : s.size ≤ maxLen) (h : OwnD W B F1 nf cf1 gs K1 nk ck1 ks T1 nt ct1 ts) (hk : gs.map keyF = fs.map keyF) (hn : nf + usedD fs + nk + nt ≤ 1048576) (hids : ∀ x ∈ fs, (Lit.int .i64 x.id).wf = true) (hks : ∀ x ∈ ks, x.1.size ≤ maxLen ∧ (Lit.int .i64 x.2).wf = true) (hts : ∀ x ∈ ts, x.name.size ≤ maxLen ∧ x.to_.size ≤ maxLen ∧ (Lit.int .i64 x.id).wf = true) :
    Calls Try.prog 44 #[.agg #[.int .i64 room, .int .i64 fuse, .int .i64 next, .slice F1 nf cf1, .slice K1 nk ck1, .slice T1 nt ct1], .string s] W (AnsR (OkS room fuse next gs ks ts) gs (dirAt ks ts) s.toList W) :=
  (impl_DiskRead_any room fuse next F1 nf cf1 K1 nk ck1 T1 nt ct1 gs ks ts s hs W h.f.rd h.lenF (by omega) h.b.rdB (fun f hf => own_none (h.b.1 f hf)) (keys_mem hk (P := fun f => (Lit.int .i64 f.id).wf = true) (fun f g e h => by show (Lit.int .i64 g.id).wf = true; rw [key_id e]; exact h) hids) (by rw [keys_used hk]; omega)
    h.l.rd h.lenL (by omega) hks h.t.rd h.lenT (by omega) hts).mono fun e w' ha => ansR h.b.rdB (by rw [keys_used hk]; omega) ha
end

set_option maxRecDepth 100000 in
set_option maxHeartbeats 16000000 in
theorem walk (room fuse next : Int) (F : Option Addr) (nf cf : Nat) (K : Option Addr) (nk ck : Nat) (T : Option Addr) (nt ct : Nat) (fs : List FileD) (ks : List LinkD) (ts : List TurnD) (a1 : ByteArray) (w : World)
    (hf : RdF w w.heap.size F fs) (hfl : fs.length = nf) (hfn : nf ≤ 9223372036854775807) (hrb : RdB w w.heap.size fs) (hfs : ∀ x ∈ fs, x.n ≤ 9223372036854775807 ∧ (Lit.int .i64 x.id).wf = true)
    (hk : RdL w w.heap.size K ks) (hkl : ks.length = nk) (hkn : nk ≤ 9223372036854775807) (hks : ∀ x ∈ ks, x.1.size ≤ maxLen ∧ (Lit.int .i64 x.2).wf = true)
    (ht : RdT w w.heap.size T ts) (htl : ts.length = nt) (htn : nt ≤ 9223372036854775807) (hts : ∀ x ∈ ts, x.name.size ≤ maxLen ∧ x.to_.size ≤ maxLen ∧ (Lit.int .i64 x.id).wf = true) (w1 : a1.size ≤ maxLen) :
    Calls Try.prog 10 #[.agg #[.int .i64 room, .int .i64 fuse, .int .i64 next, .slice F nf cf, .slice K nk ck, .slice T nt ct], .string a1] w fun e w' => e = .returned (.bool true) ∧ Below w.heap.size w w' := by
  have hb0 := Lib.hid ((Below.refl w.heap.size w).alloc (Nat.le_refl _) (.cells #[.int .i64 room, .int .i64 fuse, .int .i64 next, .slice F nf cf, .slice K nk ck, .slice T nt ct] 66))
  have hx0 := Lib.hid (Box6.new w (.int .i64 room) (.int .i64 fuse) (.int .i64 next) (.slice F nf cf) (.slice K nk ck) (.slice T nt ct) 66)
  have RF := Lib.hid (fun W (h : Below w.heap.size w W) => (hf.below (Nat.le_refl _) h).more h.size)
  have RB := Lib.hid (fun W (h : Below w.heap.size w W) => (hrb.below (Nat.le_refl _) h).more h.size)
  have RL := Lib.hid (fun W (h : Below w.heap.size w W) => (hk.below (Nat.le_refl _) h).more h.size)
  have RT := Lib.hid (fun W (h : Below w.heap.size w W) => (ht.below (Nat.le_refl _) h).more h.size)
  have HSz := Lib.hid (fun W (h : Below w.heap.size w W) => szDisk_any room fuse next F nf cf K nk ck T nt ct fs ks ts 1048576 W (RF.out W h) hfl hfn (fun x hx => (hfs x hx).1) (RL.out W h) hkl hkn (fun x hx => by have := (hks x hx).1; unfold maxLen at this; exact this) (RT.out W h) htl htn (fun x hx => by have := hts x hx; unfold maxLen at this; exact ⟨this.1, this.2.1⟩) (by omega) (by omega))
  have HTo := Lib.hid (fun W (h : Below w.heap.size w W) (h1 : nf ≤ 2097152) (h2 : usedD fs ≤ 1099511627776) (h3 : nk ≤ 2097152) (h4 : nt ≤ 2097152) => toOwn (toDisk_any room fuse next F nf cf K nk ck T nt ct fs ks ts W (RF.out W h) hfl h1 (RB.out W h) (fun f hf => Nat.le_trans (n_used hf) h2) (RL.out W h) hkl h3 (RT.out W h) htl h4))
  have HFI := Lib.hid (show ∀ x ∈ fs, (Lit.int .i64 x.id).wf = true from fun x hx => (hfs x hx).2)
  have HKS := Lib.hid hks
  have HTS := Lib.hid hts
  have HS1 := Lib.hid w1
  clear w1 hf hfl hrb hfs hk hkl hks ht htl hts RF RB RL RT
  rcases Nat.lt_or_ge 1048576 a1.size with hbig | hbig
  · have hb1 := hb0
    go_enter Try.func10, Try.ntmps10
    go_wp2_with fail
    go_ret
    exact ⟨rfl, hb1.out⟩
  go_enter Try.func10, Try.ntmps10
  go_wp2_with fail
  refine (HSz.out _ hb0.out).mono ?_
  rintro e v1 ⟨r, rfl, hr, hb1⟩
  have s1 : w.heap.size < v1.heap.size := by have := hb1.size; simp at this; omega
  have HB1 := Lib.hid (hb0.out.trans (hb1.mono (by simp)))
  have XA1 := Lib.hid (hx0.out.below hb1 (by simp))
  clear hb1 hb0 hx0 HSz
  rcases hr with rfl | ⟨hr0, hr1⟩
  · go_wp2_with fail
    go_ret
    exact ⟨rfl, HB1.out⟩
  · have hsz : nf + usedD fs + nk + nt ≤ 1048576 := by omega
    have HSZ := Lib.hid hsz
    have HT1 := Lib.hid (fun W (h : Below w.heap.size w W) => HTo.out W h (by omega) (by omega) (by omega) (by omega))
    clear hr1 hsz HTo
    have z1 := s1
    obtain ⟨aq0, aq1, aq2, aq3, aq4, aq5⟩ := XA1.out
    have HPB2 := HB1
    go_wp2_with fail
    refine (HT1.out _ HPB2.out).mono ?_
    rintro e v2 ⟨F2, cf2, K2, ck2, T2, ct2, g2, rfl, ho2, hk2, hx2⟩
    clear HPB2
    clear aq0 aq1 aq2 aq3 aq4 aq5
    have HO2 := Lib.hid ho2
    have HK2 := Lib.hid hk2
    have HL2 := Lib.hid (show ∀ i, SD F2 nf cf2 g2 K2 nk ck2 T2 nt ct2 i → v1.heap.size ≤ i ∧ (v1.heap.size = i → True) ∧ i < v2.heap.size from fun i hi => by have := ho2.lt i hi; exact ⟨by omega, fun _ => trivial, this.2⟩)
    clear ho2 hk2
    have hst2 : Below v1.heap.size v1 v2 := hx2
    have z2 : v1.heap.size ≤ v2.heap.size := hst2.size
    have HB2 := Lib.hid (HB1.out.trans (hst2.mono (Nat.le_of_lt s1)))
    have XA1_2 := Lib.hid (XA1.out.below hst2 s1)
    clear XA1
    have s2a : w.heap.size < v2.heap.size := Nat.lt_of_lt_of_le s1 hst2.size
    clear s1
    clear hx2 hst2
    have HPO3 := HO2
    go_wp2_with fail
    refine (spec_own room fuse next a1 HS1.out HPO3.out HK2.out HSZ.out HFI.out HKS.out HTS.out).mono ?_
    rintro e v3 ⟨b3, o3, A3, c3, rfl, hn3, hr3, ho3, hx3⟩
    clear HPO3
    have HO3 := Lib.hid ho3
    have HR3 := Lib.hid hr3
    have HN3 := Lib.hid hn3
    have HL3 := Lib.hid (show ∀ i, (Value.slice A3 b3.length c3).ownBlock = some i → v2.heap.size ≤ i ∧ (v2.heap.size = i → True) ∧ i < v3.heap.size from fun i hi => by have := ho3.blk i hi; exact ⟨by omega, fun _ => trivial, this.2⟩)
    clear ho3 hr3 hn3
    have hst3 : Below v2.heap.size v2 v3 := hx3
    have z3 : v2.heap.size ≤ v3.heap.size := hst3.size
    have HO2_3 := Lib.hid (HO2.out.below (Nat.le_refl _) hst3)
    clear HO2
    have HB3 := Lib.hid (HB2.out.trans (hst3.mono (Nat.le_of_lt s2a)))
    have XA1_2_3 := Lib.hid (XA1_2.out.below hst3 s2a)
    clear XA1_2
    have s3a : w.heap.size < v3.heap.size := Nat.lt_of_lt_of_le s2a hst3.size
    clear s2a
    clear hx3 hst3
    clear HO2_3 HL2
    obtain ⟨aq0, aq1, aq2, aq3, aq4, aq5⟩ := XA1_2_3.out
    have HPB4 := HB3
    go_wp2_with fail
    refine (HT1.out _ HPB4.out).mono ?_
    rintro e v4 ⟨F4, cf4, K4, ck4, T4, ct4, g4, rfl, ho4, hk4, hx4⟩
    clear HPB4
    clear aq0 aq1 aq2 aq3 aq4 aq5
    have HO4 := Lib.hid ho4
    have HK4 := Lib.hid hk4
    have HL4 := Lib.hid (show ∀ i, SD F4 nf cf4 g4 K4 nk ck4 T4 nt ct4 i → v3.heap.size ≤ i ∧ (v3.heap.size = i → True) ∧ i < v4.heap.size from fun i hi => by have := ho4.lt i hi; exact ⟨by omega, fun _ => trivial, this.2⟩)
    clear ho4 hk4
    have hst4 : Below v3.heap.size v3 v4 := hx4
    have z4 : v3.heap.size ≤ v4.heap.size := hst4.size
    have HO3_4 := Lib.hid (HO3.out.below (Nat.le_refl _) hst4)
    clear HO3
    have HB4 := Lib.hid (HB3.out.trans (hst4.mono (Nat.le_of_lt s3a)))
    have XA1_2_3_4 := Lib.hid (XA1_2_3.out.below hst4 s3a)
    clear XA1_2_3
    have s4a : w.heap.size < v4.heap.size := Nat.lt_of_lt_of_le s3a hst4.size
    clear s3a
    clear hx4 hst4
    have HSX := Lib.hid (show usedD g4 + nf + nk + nt ≤ 1048576 by rw [keys_used HK4.out]; have := HSZ.out; omega)
    have HPO5 := Lib.hid (HO4.out.below (Nat.le_refl _) ((Below.refl _ v4).alloc (Nat.le_refl _) (.cells #[.int .i64 room, .int .i64 fuse, .int .i64 next, .slice F4 nf cf4, .slice K4 nk ck4, .slice T4 nt ct4] 51)))
    go_wp2_with fail
    refine (impl_own room fuse next a1 HS1.out HPO5.out HK4.out HSZ.out HFI.out HKS.out HTS.out).mono ?_
    rintro e v5 ⟨b5, o5, A5, c5, rfl, hn5, hr5, ho5, hx5⟩
    clear HPO5
    have HO5 := Lib.hid ho5
    have HR5 := Lib.hid hr5
    have HN5 := Lib.hid hn5
    have HL5 := Lib.hid (show ∀ i, (Value.slice A5 b5.length c5).ownBlock = some i → v4.heap.size ≤ i ∧ (v4.heap.size = i → False) ∧ i < v5.heap.size from fun i hi => by have := ho5.blk i hi; simp at this; exact ⟨by omega, fun e => by omega, this.2⟩)
    clear ho5 hr5 hn5
    have hst5 : Below v4.heap.size v4 v5 := ((Below.refl _ _).alloc (Nat.le_refl _) (.cells #[.int .i64 room, .int .i64 fuse, .int .i64 next, .slice F4 nf cf4, .slice K4 nk ck4, .slice T4 nt ct4] 51)).trans (hx5.mono (by simp))
    have z5 : v4.heap.size ≤ v5.heap.size := hst5.size
    have HO3_4_5 := Lib.hid (HO3_4.out.below (Nat.le_refl _) hst5)
    clear HO3_4
    have HO4_5 := Lib.hid (HO4.out.below (Nat.le_refl _) hst5)
    clear HO4
    have HB5 := Lib.hid (HB4.out.trans (hst5.mono (Nat.le_of_lt s4a)))
    have XA1_2_3_4_5 := Lib.hid (XA1_2_3_4.out.below hst5 s4a)
    clear XA1_2_3_4
    have s5a : w.heap.size < v5.heap.size := Nat.lt_of_lt_of_le s4a hst5.size
    clear s4a
    have Xbx := Lib.hid ((Box6.new v4 (.int .i64 room) (.int .i64 fuse) (.int .i64 next) (.slice F4 nf cf4) (.slice K4 nk ck4) (.slice T4 nt ct4) 51).below hx5 (by simp))
    have s5bx : v4.heap.size < v5.heap.size := by have := hx5.size; simp at this; omega
    have tbx := s5bx
    clear hx5 hst5
    obtain ⟨ez5, eo5⟩ := ReadD.same (okS_iff (HK4.out.trans HK2.out.symm)).symm (HK4.out.trans HK2.out.symm) HR3.out HR5.out
    replace ez5 := ez5.symm
    replace eo5 := eo5.symm
    subst ez5 eo5
    clear HR5 HN5
    have hne6 : (o3 != o3) = false := by simp
    have HQA6 := Lib.hid HO5.out.rd
    have HQB6 := Lib.hid HO3_4_5.out.rd
    go_wp2_with fail
    refine (eqByteS_yes A5 A3 b3.length c5 b3.length c3 b3 _ HQA6.out HQB6.out rfl rfl (by have := HN3.out; omega)).mono ?_
    rintro e v6 ⟨rfl, hx6⟩
    clear HQA6 HQB6
    have hst6 : Below v5.heap.size v5 v6 := hx6
    have z6 : v5.heap.size ≤ v6.heap.size := hst6.size
    have HO3_4_5_6 := Lib.hid (HO3_4_5.out.below (Nat.le_refl _) hst6)
    clear HO3_4_5
    have HO4_5_6 := Lib.hid (HO4_5.out.below (Nat.le_refl _) hst6)
    clear HO4_5
    have HO5_6 := Lib.hid (HO5.out.below (Nat.le_refl _) hst6)
    clear HO5
    have HB6 := Lib.hid (HB5.out.trans (hst6.mono (Nat.le_of_lt s5a)))
    have XA1_2_3_4_5_6 := Lib.hid (XA1_2_3_4_5.out.below hst6 s5a)
    clear XA1_2_3_4_5
    have s6a : w.heap.size < v6.heap.size := Nat.lt_of_lt_of_le s5a hst6.size
    clear s5a
    have Xbx_6 := Lib.hid (Xbx.out.below hst6 s5bx)
    clear Xbx
    have s6bx : v4.heap.size < v6.heap.size := Nat.lt_of_lt_of_le s5bx hst6.size
    clear s5bx
    clear hx6 hst6
    obtain ⟨aq0, aq1, aq2, aq3, aq4, aq5⟩ := XA1_2_3_4_5_6.out
    obtain ⟨bxq0, bxq1, bxq2, bxq3, bxq4, bxq5⟩ := Xbx_6.out
    go_upto_region 12 with fail
    go_cut [52] (fun s wx => s = .bool false ∧ Below v6.heap.size v6 wx)
    case first =>
      go_region_with (first
        | (go_at_call 38; refine (HT1.out _ ?_).mono ?_; exact ⟨HB6.out.os, HB6.out.tape, HB6.out.output, HB6.out.size, HB6.out.block⟩; rintro e y1 ⟨Fy, cfy, Ky, cky, Ty, cty, gy, rfl, hoy, hky, hxy'⟩; have hxy : Below v6.heap.size v6 y1 := undrew_ hxy'; clear hxy'; have HKY := Lib.hid hky; have HOY := Lib.hid hoy; have HPY := Lib.hid (HO4_5_6.out.below (Nat.le_refl _) hxy); obtain ⟨r0, r1, r2, r3, r4, r5⟩ := Xbx_6.out.below hxy s6bx; have HXY := Lib.hid hxy; have zy := hxy.size; clear hoy hky hxy)
        | (go_at_call 40; refine (eqD room fuse next HPY.out HOY.out (HKY.out.trans HK4.out.symm) (by have := HSX.out; omega)).mono ?_; rintro e y2 ⟨rfl, hxz⟩))
      all_goals
        have HE := Lib.hid (HXY.out.trans (hxz.mono zy))
        clear hxz
        go_wp2_with fail
        go_meet
        case rel => exact ⟨rfl, HE.out⟩
    case rest =>
      obtain ⟨rfl, hxc⟩ := hcut
      clear aq0 aq1 aq2 aq3 aq4 aq5
      clear bxq0 bxq1 bxq2 bxq3 bxq4 bxq5
      have hst7 : Below v6.heap.size v6 wc := hxc
      have z7 : v6.heap.size ≤ wc.heap.size := hst7.size
      have HO3_4_5_6_7 := Lib.hid (HO3_4_5_6.out.below (Nat.le_refl _) hst7)
      clear HO3_4_5_6
      have HO4_5_6_7 := Lib.hid (HO4_5_6.out.below (Nat.le_refl _) hst7)
      clear HO4_5_6
      have HO5_6_7 := Lib.hid (HO5_6.out.below (Nat.le_refl _) hst7)
      clear HO5_6
      have HB7 := Lib.hid (HB6.out.trans (hst7.mono (Nat.le_of_lt s6a)))
      have XA1_2_3_4_5_6_7 := Lib.hid (XA1_2_3_4_5_6.out.below hst7 s6a)
      clear XA1_2_3_4_5_6
      have s7a : w.heap.size < wc.heap.size := Nat.lt_of_lt_of_le s6a hst7.size
      clear s6a
      have Xbx_6_7 := Lib.hid (Xbx_6.out.below hst7 s6bx)
      clear Xbx_6
      have s7bx : v4.heap.size < wc.heap.size := Nat.lt_of_lt_of_le s6bx hst7.size
      clear s6bx
      clear hxc hst7
      obtain ⟨bxq0, bxq1, bxq2, bxq3, bxq4, bxq5⟩ := Xbx_6_7.out
      go_wp2_with fail
      refine (markDisk_any room fuse next _ F4 nf cf4 K4 nk ck4 T4 nt ct4 g4 ks ts 1 _ HO4_5_6_7.out HO4_5_6_7.out.lenF HO4_5_6_7.out.lenL HO4_5_6_7.out.lenT (by decide) (by have := HSX.out; omega)).mono ?_
      rintro e v8 ⟨rfl, ho8, on8⟩
      obtain ⟨m8, hm8⟩ : ∃ m, m = 1 + 2 * nf + usedD g4 + 2 * nk + 4 * nt := ⟨_, rfl⟩
      rw [← hm8]
      have hz8 : decide ((m8 : Int) < 0) = false := decide_eq_false (by omega)
      have HM8 := Lib.hid hm8
      clear hm8
      have HO8 := Lib.hid ho8
      clear ho8
      clear bxq0 bxq1 bxq2 bxq3 bxq4 bxq5
      have HO3_4_5_6_7_8 := Lib.hid (show Own _ _ A3 b3.length c3 b3 from Only.own HO3_4_5_6_7.out on8 (fun i hi hs => by have h1 := HL3.out i hi; have h2 := HL4.out i hs; have hq1 := h1.2.1; have hq2 := h2.2.1; omega))
      clear HO3_4_5_6_7
      have HO5_6_7_8 := Lib.hid (show Own _ _ A5 b3.length c5 b3 from Only.own HO5_6_7.out on8 (fun i hi hs => by have h1 := HL5.out i hi; have h2 := HL4.out i hs; have hq1 := h1.2.1; have hq2 := h2.2.1; omega))
      clear HO5_6_7
      have HB8 := Lib.hid (Only.below_ on8 HB7.out (Nat.le_of_lt s7a) (fun i hs => by have h2 := HL4.out i hs; omega))
      have z8 : wc.heap.size ≤ v8.heap.size := on8.size
      have XA1_2_3_4_5_6_7_8 := Lib.hid (XA1_2_3_4_5_6_7.out.only on8 (fun hs => by have h2 := HL4.out _ hs; first | omega | exact h2.2.1 rfl))
      clear XA1_2_3_4_5_6_7
      have s8a : w.heap.size < v8.heap.size := Nat.lt_of_lt_of_le s7a on8.size
      clear s7a
      have Xbx_6_7_8 := Lib.hid (Xbx_6_7.out.only on8 (fun hs => by have h2 := HL4.out _ hs; first | omega | exact h2.2.1 rfl))
      clear Xbx_6_7
      have s8bx : v4.heap.size < v8.heap.size := Nat.lt_of_lt_of_le s7bx on8.size
      clear s7bx
      clear on8 HO4_5_6_7
      clear HO8 HL4 HSX
      clear Xbx_6_7_8 s8bx
      have hne9 : (o3 != o3) = false := by simp
      have HQA9 := Lib.hid HO5_6_7_8.out.rd
      have HQB9 := Lib.hid HO3_4_5_6_7_8.out.rd
      go_wp2_with fail
      refine (eqByteS_yes A5 A3 b3.length c5 b3.length c3 b3 _ HQA9.out HQB9.out rfl rfl (by have := HN3.out; omega)).mono ?_
      rintro e v9 ⟨rfl, hx9⟩
      clear HQA9 HQB9
      have hst9 : Below v8.heap.size v8 v9 := hx9
      have z9 : v8.heap.size ≤ v9.heap.size := hst9.size
      have HO3_4_5_6_7_8_9 := Lib.hid (HO3_4_5_6_7_8.out.below (Nat.le_refl _) hst9)
      clear HO3_4_5_6_7_8
      have HO5_6_7_8_9 := Lib.hid (HO5_6_7_8.out.below (Nat.le_refl _) hst9)
      clear HO5_6_7_8
      have HB9 := Lib.hid (HB8.out.trans (hst9.mono (Nat.le_of_lt s8a)))
      have XA1_2_3_4_5_6_7_8_9 := Lib.hid (XA1_2_3_4_5_6_7_8.out.below hst9 s8a)
      clear XA1_2_3_4_5_6_7_8
      have s9a : w.heap.size < v9.heap.size := Nat.lt_of_lt_of_le s8a hst9.size
      clear s8a
      clear hx9 hst9
      go_wp2_with fail
      refine (markByteS_any A5 b3.length c5 _ b3 1 _ HO5_6_7_8_9.out (by have := HN3.out; omega) (by omega) (by omega)).mono ?_
      rintro e v10 ⟨rfl, ho10, hg10⟩
      have hst10 : Below v4.heap.size v9 v10 := (Below.refl _ _).grown hg10 (by omega) (fun g h => (HL5.out g h).1)
      have z10 : v9.heap.size ≤ v10.heap.size := hst10.size
      have HO10 := Lib.hid ho10
      have HB10 := Lib.hid (HB9.out.trans (hst10.mono (by omega)))
      clear ho10 HO5_6_7_8_9
      have HO3_4_5_6_7_8_9_10 := Lib.hid (HO3_4_5_6_7_8_9.out.keep hg10 (fun g h1 h2 => by have h3 := HL3.out g h1; have h4 := HL5.out g h2; have h5 := h3.2.1; have h6 := h4.2.1; omega))
      clear HO3_4_5_6_7_8_9
      have XA1_2_3_4_5_6_7_8_9_10 := Lib.hid (XA1_2_3_4_5_6_7_8_9.out.below hst10 (by omega))
      clear XA1_2_3_4_5_6_7_8_9
      have s10a : w.heap.size < v10.heap.size := Nat.lt_of_lt_of_le s9a z10
      clear s9a
      clear hst10 hg10
      have hq1 : decide ((1 : Int) + (b3.length : Int) < 0) = false := decide_eq_false (by omega)
      have hq2 : (((1 : Int) + (b3.length : Int)) != ((1 : Int) + (b3.length : Int))) = false := by simp
      have HQ10 := Lib.hid HO10.out.rd
      go_wp2_with fail
      refine (heldByteS_any A5 b3.length c5 1 _ HQ10.out (by have := HN3.out; omega) (by omega) (by omega)).mono ?_
      rintro e w' ⟨rfl, rfl⟩
      clear HQ10
      obtain ⟨aq0, aq1, aq2, aq3, aq4, aq5⟩ := XA1_2_3_4_5_6_7_8_9_10.out
      have HPB11 := HB10
      go_wp2_with fail
      refine (HT1.out _ HPB11.out).mono ?_
      rintro e v11 ⟨F11, cf11, K11, ck11, T11, ct11, g11, rfl, ho11, hk11, hx11⟩
      clear HPB11
      clear aq0 aq1 aq2 aq3 aq4 aq5
      have HO11 := Lib.hid ho11
      have HK11 := Lib.hid hk11
      have HL11 := Lib.hid (show ∀ i, SD F11 nf cf11 g11 K11 nk ck11 T11 nt ct11 i → v10.heap.size ≤ i ∧ (v10.heap.size = i → True) ∧ i < v11.heap.size from fun i hi => by have := ho11.lt i hi; exact ⟨by omega, fun _ => trivial, this.2⟩)
      clear ho11 hk11
      have hst11 : Below v10.heap.size v10 v11 := hx11
      have z11 : v10.heap.size ≤ v11.heap.size := hst11.size
      have HO3_4_5_6_7_8_9_10_11 := Lib.hid (HO3_4_5_6_7_8_9_10.out.below (Nat.le_refl _) hst11)
      clear HO3_4_5_6_7_8_9_10
      have HO10_11 := Lib.hid (HO10.out.below (Nat.le_refl _) hst11)
      clear HO10
      have HB11 := Lib.hid (HB10.out.trans (hst11.mono (Nat.le_of_lt s10a)))
      have XA1_2_3_4_5_6_7_8_9_10_11 := Lib.hid (XA1_2_3_4_5_6_7_8_9_10.out.below hst11 s10a)
      clear XA1_2_3_4_5_6_7_8_9_10
      have s11a : w.heap.size < v11.heap.size := Nat.lt_of_lt_of_le s10a hst11.size
      clear s10a
      clear hx11 hst11
      have HPO12 := HO11
      go_wp2_with fail
      refine (impl_own room fuse next a1 HS1.out HPO12.out HK11.out HSZ.out HFI.out HKS.out HTS.out).mono ?_
      rintro e v12 ⟨b12, o12, A12, c12, rfl, hn12, hr12, ho12, hx12⟩
      clear HPO12
      have HO12 := Lib.hid ho12
      have HR12 := Lib.hid hr12
      have HN12 := Lib.hid hn12
      have HL12 := Lib.hid (show ∀ i, (Value.slice A12 b12.length c12).ownBlock = some i → v11.heap.size ≤ i ∧ (v11.heap.size = i → True) ∧ i < v12.heap.size from fun i hi => by have := ho12.blk i hi; exact ⟨by omega, fun _ => trivial, this.2⟩)
      clear ho12 hr12 hn12
      have hst12 : Below v11.heap.size v11 v12 := hx12
      have z12 : v11.heap.size ≤ v12.heap.size := hst12.size
      have HO3_4_5_6_7_8_9_10_11_12 := Lib.hid (HO3_4_5_6_7_8_9_10_11.out.below (Nat.le_refl _) hst12)
      clear HO3_4_5_6_7_8_9_10_11
      have HO10_11_12 := Lib.hid (HO10_11.out.below (Nat.le_refl _) hst12)
      clear HO10_11
      have HO11_12 := Lib.hid (HO11.out.below (Nat.le_refl _) hst12)
      clear HO11
      have HB12 := Lib.hid (HB11.out.trans (hst12.mono (Nat.le_of_lt s11a)))
      have XA1_2_3_4_5_6_7_8_9_10_11_12 := Lib.hid (XA1_2_3_4_5_6_7_8_9_10_11.out.below hst12 s11a)
      clear XA1_2_3_4_5_6_7_8_9_10_11
      have s12a : w.heap.size < v12.heap.size := Nat.lt_of_lt_of_le s11a hst12.size
      clear s11a
      clear hx12 hst12
      clear HO11_12 HL11
      obtain ⟨ez12, eo12⟩ := ReadD.same (okS_iff (HK11.out.trans HK2.out.symm)).symm (HK11.out.trans HK2.out.symm) HR3.out HR12.out
      replace ez12 := ez12.symm
      replace eo12 := eo12.symm
      subst ez12 eo12
      clear HR12 HN12
      have hne13 : (o3 != o3) = false := by simp
      have HQA13 := Lib.hid HO12.out.rd
      have HQB13 := Lib.hid HO3_4_5_6_7_8_9_10_11_12.out.rd
      go_wp2_with fail
      refine (eqByteS_yes A12 A3 b3.length c12 b3.length c3 b3 _ HQA13.out HQB13.out rfl rfl (by have := HN3.out; omega)).mono ?_
      rintro e v13 ⟨rfl, hx13⟩
      clear HQA13 HQB13
      have hst13 : Below v12.heap.size v12 v13 := hx13
      have z13 : v12.heap.size ≤ v13.heap.size := hst13.size
      have HO3_4_5_6_7_8_9_10_11_12_13 := Lib.hid (HO3_4_5_6_7_8_9_10_11_12.out.below (Nat.le_refl _) hst13)
      clear HO3_4_5_6_7_8_9_10_11_12
      have HO10_11_12_13 := Lib.hid (HO10_11_12.out.below (Nat.le_refl _) hst13)
      clear HO10_11_12
      have HO12_13 := Lib.hid (HO12.out.below (Nat.le_refl _) hst13)
      clear HO12
      have HB13 := Lib.hid (HB12.out.trans (hst13.mono (Nat.le_of_lt s12a)))
      have XA1_2_3_4_5_6_7_8_9_10_11_12_13 := Lib.hid (XA1_2_3_4_5_6_7_8_9_10_11_12.out.below hst13 s12a)
      clear XA1_2_3_4_5_6_7_8_9_10_11_12
      have s13a : w.heap.size < v13.heap.size := Nat.lt_of_lt_of_le s12a hst13.size
      clear s12a
      clear hx13 hst13
      have HQ13 := Lib.hid HO10_11_12_13.out.rd
      go_wp2_with fail
      refine (heldByteS_any A5 b3.length c5 1 _ HQ13.out (by have := HN3.out; omega) (by omega) (by omega)).mono ?_
      rintro e w' ⟨rfl, rfl⟩
      clear HQ13
      go_wp2_with fail
      go_ret
      exact ⟨rfl, HB13.out⟩
end Go.Proofs.Ytehhophjhjeenaa.fnExactDiskRead
