/- FnExactDepotOk: the walk of the law from the contracts of the program, of its model and of the laws' helpers; at every depot, no condition. -/
import Derived.Test.YtckiloacbanbmaaDoorDepImpl2
import Derived.Test.YtckiloacbanbmaaDoorDepSpec
import Derived.Test.YtckiloacbanbmaaDoorDepHelp
import Derived.Test.YtckiloacbanbmaaDoorTabs
import Derived.Deep.RegionWith
namespace Go.Proofs.YtckiloacbanbmaaDoor.DepLaw
open Go.RowKit Go.Proofs.YtckiloacbanbmaaDoor.Bytes Go.Proofs.YtckiloacbanbmaaDoor.Rows_ Go.Proofs.YtckiloacbanbmaaDoor.DOk
open Go.Proofs.YtckiloacbanbmaaDoor.Num (var_below)
set_option linter.unusedVariables false
theorem undrewW {W v : World} {B : Nat} (h : Below B W.drew v) : Below B W v := ⟨h.os, h.tape, h.output, h.size, h.block⟩

set_option maxRecDepth 100000 in
set_option maxHeartbeats 12000000 in
theorem walk (room fuse next : Int) (F : Option Addr) (nf cf : Nat) (K : Option Addr) (nk ck : Nat) (T : Option Addr) (nt ct : Nat) (fs : List FileD) (ks : List LinkD) (ts : List TurnD) (gen seq size : Int) (stuck : Bool) (w : World)
    (hf : RdF w w.heap.size F fs) (hfl : fs.length = nf) (hfn : nf ≤ 9223372036854775807) (hrb : RdB w w.heap.size fs) (hfs : ∀ x ∈ fs, x.n ≤ 9223372036854775807 ∧ (Lit.int .i64 x.id).wf = true)
    (hk : RdL w w.heap.size K ks) (hkl : ks.length = nk) (hkn : nk ≤ 9223372036854775807) (hks : ∀ x ∈ ks, x.1.size ≤ maxLen ∧ (Lit.int .i64 x.2).wf = true)
    (ht : RdT w w.heap.size T ts) (htl : ts.length = nt) (htn : nt ≤ 9223372036854775807) (hts : ∀ x ∈ ts, x.name.size ≤ maxLen ∧ x.to_.size ≤ maxLen ∧ (Lit.int .i64 x.id).wf = true)
    (htab : Lib.TabIs Tryd.prog w "internal/strconv.uint64pow10" .u64 Lib.pow10Tab) :
    Calls Tryd.prog 3 #[.agg #[.int .i64 room, .int .i64 fuse, .int .i64 next, .slice F nf cf, .slice K nk ck, .slice T nt ct, .int .i64 gen, .int .i64 seq, .int .i64 size, .bool stuck]] w fun e w' => e = .returned (.bool true) ∧ Below w.heap.size w w' := by
  have hb0 := Lib.hid ((Below.refl w.heap.size w).alloc (Nat.le_refl _) (.cells #[.int .i64 room, .int .i64 fuse, .int .i64 next, .slice F nf cf, .slice K nk ck, .slice T nt ct, .int .i64 gen, .int .i64 seq, .int .i64 size, .bool stuck] 28))
  have hx0 := Lib.hid (Box10.new w (.int .i64 room) (.int .i64 fuse) (.int .i64 next) (.slice F nf cf) (.slice K nk ck) (.slice T nt ct) (.int .i64 gen) (.int .i64 seq) (.int .i64 size) (.bool stuck) 28)
  have RF := Lib.hid (fun W (h : Below w.heap.size w W) => (hf.below (Nat.le_refl _) h).more h.size)
  have RB := Lib.hid (fun W (h : Below w.heap.size w W) => (hrb.below (Nat.le_refl _) h).more h.size)
  have RL := Lib.hid (fun W (h : Below w.heap.size w W) => (hk.below (Nat.le_refl _) h).more h.size)
  have RT := Lib.hid (fun W (h : Below w.heap.size w W) => (ht.below (Nat.le_refl _) h).more h.size)
  have HSz0 := Lib.hid (fun W (h : Below w.heap.size w W) => szDisk_any room fuse next F nf cf K nk ck T nt ct fs ks ts 1048576 W (RF.out W h) hfl hfn (fun x hx => (hfs x hx).1) (RL.out W h) hkl hkn (fun x hx => by have := (hks x hx).1; unfold maxLen at this; exact this) (RT.out W h) htl htn (fun x hx => by have := hts x hx; unfold maxLen at this; exact ⟨this.1, this.2.1⟩) (by omega) (by omega))
  have HSz := Lib.hid (fun W (h : Below w.heap.size w W) => szDepot_any room fuse next F nf cf K nk ck T nt ct fs ks ts gen seq size stuck W 1048576 (fun W' h' => HSz0.out W' (h.trans (h'.mono h.size))))
  have HTo0 := Lib.hid (fun W (h : Below w.heap.size w W) (h1 : nf ≤ 2097152) (h2 : usedD fs ≤ 1099511627776) (h3 : nk ≤ 2097152) (h4 : nt ≤ 2097152) => toDisk_any room fuse next F nf cf K nk ck T nt ct fs ks ts W (RF.out W h) hfl h1 (RB.out W h) (fun f hf => Nat.le_trans (n_used hf) h2) (RL.out W h) hkl h3 (RT.out W h) htl h4)
  have HTo := Lib.hid (fun W (h : Below w.heap.size w W) (h1 : nf ≤ 2097152) (h2 : usedD fs ≤ 1099511627776) (h3 : nk ≤ 2097152) (h4 : nt ≤ 2097152) => toDepot_any room fuse next F nf cf K nk ck T nt ct fs ks ts gen seq size stuck W (fun W' h' => HTo0.out W' (h.trans (h'.mono h.size)) h1 h2 h3 h4))
  have HFI := Lib.hid (show ∀ x ∈ fs, (Lit.int .i64 x.id).wf = true from fun x hx => (hfs x hx).2)
  have HKS := Lib.hid hks
  have HTS := Lib.hid hts
  have HKL := Lib.hid hkl
  have HTL := Lib.hid htl
  have HFL := Lib.hid hfl
  have HTAB := Lib.hid (fun W (h : Below w.heap.size w W) => var_below h htab)
  clear hf hfl hrb hfs hk hkl hks ht htl hts RF RB RL RT HSz0 HTo0 htab
  go_enter Tryd.func3, Tryd.ntmps3
  go_wp2_with fail
  refine (HSz.out _ hb0.out).mono ?_
  rintro e v1 ⟨r, rfl, hr, hb1⟩
  have s1 : w.heap.size < v1.heap.size := by have := hb1.size; simp at this; omega
  have HB1 := Lib.hid (hb0.out.trans (hb1.mono (by simp)))
  have HX1 := Lib.hid (hx0.out.below hb1 (by simp))
  clear hb1 hb0 hx0 HSz
  rcases hr with rfl | ⟨hr0, hr1⟩
  · go_wp2_with fail
    go_ret
    exact ⟨rfl, HB1.out⟩
  · have g1 : nf ≤ 2000000 := by omega
    have g2 : usedD fs ≤ 2000000 := by omega
    have g3 : nk ≤ 2000000 := by omega
    have g4 : nt ≤ 2000000 := by omega
    have HU := Lib.hid g2
    have HT1 := Lib.hid (fun W (h : Below w.heap.size w W) => HTo.out W h (by omega) (by omega) (by omega) (by omega))
    clear hr1 g2 HTo
    obtain ⟨⟨q0, q1, q2, q3, q4, q5⟩, q6, q7, q8, q9⟩ := HX1.out
    go_wp2_with fail
    refine (HT1.out _ HB1.out).mono ?_
    rintro e v2 ⟨F2, cf2, K2, ck2, T2, ct2, gs2, rfl, hF2, hk2, hB2, hL2, hT2, hb2⟩
    have s2 : w.heap.size < v2.heap.size := by have := hb2.size; omega
    have HB2 := Lib.hid (HB1.out.trans (hb2.mono (Nat.le_of_lt s1)))
    have HX2 := Lib.hid (HX1.out.below hb2 s1)
    have HK2 := Lib.hid hk2
    have HSp := Lib.hid (spec_DepotOk_any room fuse next F2 nf cf2 K2 nk ck2 T2 nt ct2 gs2 ks ts gen seq size stuck v2 hF2.rd ((keys_len hk2).trans HFL.out) g1 hB2.rdB (fun f hf => own_none (hB2.1 f hf)) (keys_mem hk2 (P := fun f => (Lit.int .i64 f.id).wf = true) (fun f g e h => by show (Lit.int .i64 g.id).wf = true; rw [key_id e]; exact h) HFI.out) (by rw [keys_used hk2]; have := HU.out; omega) hL2.rd HKL.out g3 (own_noneK hL2) HKS.out hT2.rd HTL.out g4 HTS.out)
    clear q0 q1 q2 q3 q4 q5 q6 q7 q8 q9 hb2 hF2 hk2 hB2 hL2 hT2 HX1 HB1
    go_wp2_with fail
    refine HSp.out.mono ?_
    rintro e v3 ⟨b1, rfl, hv1, hb3⟩
    have HV1 := Lib.hid (hv1.trans (DepP.congr (okS_iff HK2.out) HK2.out))
    have s3 : w.heap.size < v3.heap.size := by have := hb3.size; omega
    have HB3 := Lib.hid (HB2.out.trans (hb3.mono (Nat.le_of_lt s2)))
    have HX3 := Lib.hid (HX2.out.below hb3 s2)
    clear hb3 hv1 HB2 HX2 HK2 HSp
    obtain ⟨⟨q0, q1, q2, q3, q4, q5⟩, q6, q7, q8, q9⟩ := HX3.out
    go_wp2_with fail
    refine (HT1.out _ HB3.out).mono ?_
    rintro e v4 ⟨F4, cf4, K4, ck4, T4, ct4, gs4, rfl, hF4, hk4, hB4, hL4, hT4, hb4⟩
    have s4 : w.heap.size < v4.heap.size := by have := hb4.size; omega
    have HB4 := Lib.hid (HB3.out.trans (hb4.mono (Nat.le_of_lt s3)))
    have HX4 := Lib.hid (HX3.out.below hb4 s3)
    have HK4 := Lib.hid hk4
    have HF4 := Lib.hid hF4.rd
    have HE4 := Lib.hid hB4.rdB
    have HL4 := Lib.hid hL4.rd
    have HT4 := Lib.hid hT4.rd
    have HN4 := Lib.hid (show ∀ f ∈ gs4, f.A = none → f.n = 0 ∧ f.c = 0 from fun f hf => own_none (hB4.1 f hf))
    have HM4 := Lib.hid (own_noneK hL4)
    clear q0 q1 q2 q3 q4 q5 q6 q7 q8 q9 hb4 hF4 hk4 hB4 hL4 hT4 HX3 HB3
    go_wp2_with fail
    have hy : Below v4.heap.size v4 (v4.alloc (.cells #[.int .i64 room, .int .i64 fuse, .int .i64 next, .slice F4 nf cf4, .slice K4 nk ck4, .slice T4 nt ct4, .int .i64 gen, .int .i64 seq, .int .i64 size, .bool stuck] 37)) := (Below.refl _ _).alloc (Nat.le_refl _) _
    have HI := Lib.hid (fun W (h : Below v4.heap.size v4 W) => impl_DepotOk_any room fuse next F4 nf cf4 K4 nk ck4 T4 nt ct4 gs4 ks ts gen seq size stuck W (HTAB.out W (HB4.out.trans (h.mono (Nat.le_of_lt s4)))) ((HF4.out.below (Nat.le_refl _) h).more h.size) ((keys_len HK4.out).trans HFL.out) g1 ((HE4.out.below (Nat.le_refl _) h).more h.size) HN4.out (keys_mem HK4.out (P := fun f => (Lit.int .i64 f.id).wf = true) (fun f g e h => by show (Lit.int .i64 g.id).wf = true; rw [key_id e]; exact h) HFI.out) (by rw [keys_used HK4.out]; have := HU.out; omega) ((HL4.out.below (Nat.le_refl _) h).more h.size) HKL.out g3 HM4.out HKS.out ((HT4.out.below (Nat.le_refl _) h).more h.size) HTL.out g4 HTS.out)
    refine (HI.out _ hy).mono ?_
    rintro e v5 ⟨b2, rfl, hv2, hb5⟩
    obtain rfl : b2 = b1 := bool_eq HV1.out hv2 (DepP.congr (okS_iff HK4.out) HK4.out).symm
    have hy5 : Below v4.heap.size v4 v5 := hy.trans (hb5.mono (by simp))
    have s5 : v4.heap.size < v5.heap.size := by have := hb5.size; simp at this; omega
    have s6 : w.heap.size < v5.heap.size := by omega
    have HB5 := Lib.hid (HB4.out.trans (hy5.mono (Nat.le_of_lt s4)))
    have HX5 := Lib.hid (HX4.out.below hy5 s4)
    have HY5 := Lib.hid ((Box10.new v4 (.int .i64 room) (.int .i64 fuse) (.int .i64 next) (.slice F4 nf cf4) (.slice K4 nk ck4) (.slice T4 nt ct4) (.int .i64 gen) (.int .i64 seq) (.int .i64 size) (.bool stuck) 37).below hb5 (by simp))
    have PF := Lib.hid ((HF4.out.below (Nat.le_refl _) hy5).more (Nat.le_of_lt s5))
    have PE := Lib.hid ((HE4.out.below (Nat.le_refl _) hy5).more (Nat.le_of_lt s5))
    have PL := Lib.hid ((HL4.out.below (Nat.le_refl _) hy5).more (Nat.le_of_lt s5))
    have PT := Lib.hid ((HT4.out.below (Nat.le_refl _) hy5).more (Nat.le_of_lt s5))
    clear hv2 hb5 hy hy5 HX4 HB4 HF4 HE4 HL4 HT4 HI HV1 HN4 HM4 HTAB
    obtain ⟨⟨q0, q1, q2, q3, q4, q5⟩, q6, q7, q8, q9⟩ := HX5.out
    obtain ⟨⟨p0, p1, p2, p3, p4, p5⟩, p6, p7, p8, p9⟩ := HY5.out
    have hbb : (b2 != b2) = false := by cases b2 <;> rfl
    go_wp2_with fail
    go_region_with (first
      | (go_at_call 6; refine (HT1.out _ ?_).mono ?_; exact ⟨HB5.out.os, HB5.out.tape, HB5.out.output, HB5.out.size, HB5.out.block⟩; rintro e v6 ⟨F6, cf6, K6, ck6, T6, ct6, gs6, rfl, hF6, hk6, hB6, hL6, hT6, hb6'⟩; have hb6 : Below v5.heap.size v5 v6 := undrewW hb6'; clear hb6'; have HB6 := Lib.hid (HB5.out.trans (Below.mono hb6 (Nat.le_of_lt s6))); have HK6 := Lib.hid hk6; have HF6 := Lib.hid hF6.rd; have HE6 := Lib.hid hB6.rdB; have HL6 := Lib.hid hL6.rd; have HT6 := Lib.hid hT6.rd; have QF := Lib.hid ((PF.out.below (Nat.le_refl _) hb6).more hb6.size); have QE := Lib.hid ((PE.out.below (Nat.le_refl _) hb6).more hb6.size); have QL := Lib.hid ((PL.out.below (Nat.le_refl _) hb6).more hb6.size); have QT := Lib.hid ((PT.out.below (Nat.le_refl _) hb6).more hb6.size); have s7 : v5.heap.size ≤ v6.heap.size := hb6.size; obtain ⟨⟨r0, r1, r2, r3, r4, r5⟩, r6, r7, r8, r9⟩ := HY5.out.below hb6 s5; clear hb6 hF6 hk6 hB6 hL6 hT6)
      | (go_at_call 8; refine (eqDepot_yes room fuse next F4 _ nf cf4 _ K4 _ nk ck4 _ T4 _ nt ct4 _ gen seq size stuck _ (fun W h => eqDisk_yes room fuse next F4 _ nf cf4 _ K4 _ nk ck4 _ T4 _ nt ct4 _ gs4 gs6 ks ts W ((QF.out.below (Nat.le_refl _) h).more h.size) ((HF6.out.below (Nat.le_refl _) h).more h.size) ((keys_len HK4.out).trans HFL.out) (same_of_keys (HK6.out.trans HK4.out.symm)) ((QE.out.below (Nat.le_refl _) h).more h.size) ((HE6.out.below (Nat.le_refl _) h).more h.size) (by omega) (fun f hf => by have h1 := n_used hf; rw [keys_used HK4.out] at h1; have h2 := HU.out; omega) ((QL.out.below (Nat.le_refl _) h).more h.size) ((HL6.out.below (Nat.le_refl _) h).more h.size) HKL.out (by omega) ((QT.out.below (Nat.le_refl _) h).more h.size) ((HT6.out.below (Nat.le_refl _) h).more h.size) HTL.out (by omega))).mono ?_; rintro e v7 ⟨rfl, hb7⟩))
    all_goals
      have HE := Lib.hid (HB6.out.trans (hb7.mono (by omega)))
      clear hb7
      go_wp2_with fail
      go_ret
      exact ⟨rfl, HE.out⟩
end Go.Proofs.YtckiloacbanbmaaDoor.DepLaw
