/- FnExactDiskOk: the walk of the law from the contracts of the program, of its model and of the laws' helpers; at every disk, no condition. -/
import Derived.Test.YtmdohcmlfjijpaaTurnMath
import Derived.Test.YtmdohcmlfjijpaaSzDisk
import Derived.Test.YtmdohcmlfjijpaaToDisk
import Derived.Test.YtmdohcmlfjijpaaOpenDisk
import Derived.Deep.RegionWith
namespace Go.Proofs.Ytmdohcmlfjijpaa.fnExactDiskOk
open Go.RowKit Go.Proofs.Ytmdohcmlfjijpaa.Bytes Go.Proofs.Ytmdohcmlfjijpaa.Rows_ Go.Proofs.Ytmdohcmlfjijpaa.DOk
set_option linter.unusedVariables false
theorem own : ownKnob Try.prog.godebug = none := by kernel_rfl

theorem undrew {W v : World} {B : Nat} (h : Below B W.drew v) : Below B W v := ⟨h.os, h.tape, h.output, h.size, h.block⟩
/-- six cells of a block -/
def Box6 (w : World) (b : Nat) (x0 x1 x2 x3 x4 x5 : Value) : Prop := w.cell? ⟨b, 0, none⟩ = some x0 ∧ w.cell? ⟨b, 1, none⟩ = some x1 ∧ w.cell? ⟨b, 2, none⟩ = some x2 ∧ w.cell? ⟨b, 3, none⟩ = some x3 ∧ w.cell? ⟨b, 4, none⟩ = some x4 ∧ w.cell? ⟨b, 5, none⟩ = some x5
theorem Box6.below {w w' : World} {B b : Nat} {x0 x1 x2 x3 x4 x5 : Value} (h : Box6 w b x0 x1 x2 x3 x4 x5) (hb : Below B w w') (hlt : b < B) : Box6 w' b x0 x1 x2 x3 x4 x5 :=
  ⟨(hb.cell (p := ⟨b, 0, none⟩) hlt).trans h.1, (hb.cell (p := ⟨b, 1, none⟩) hlt).trans h.2.1, (hb.cell (p := ⟨b, 2, none⟩) hlt).trans h.2.2.1, (hb.cell (p := ⟨b, 3, none⟩) hlt).trans h.2.2.2.1, (hb.cell (p := ⟨b, 4, none⟩) hlt).trans h.2.2.2.2.1, (hb.cell (p := ⟨b, 5, none⟩) hlt).trans h.2.2.2.2.2⟩
theorem Box6.new (w : World) (x0 x1 x2 x3 x4 x5 : Value) (t : TypeId) : Box6 (w.alloc (.cells #[x0, x1, x2, x3, x4, x5] t)) w.heap.size x0 x1 x2 x3 x4 x5 := by
  refine ⟨?_, ?_, ?_, ?_, ?_, ?_⟩ <;> (rw [World.cell?_alloc_at _ _ _ _ rfl]; rfl)

/-! ### what depends on the keys of the files only -/
theorem keys_len {fs gs : List FileD} (h : gs.map keyF = fs.map keyF) : gs.length = fs.length := by have := congrArg List.length h; simpa using this
theorem keys_used {fs gs : List FileD} (h : gs.map keyF = fs.map keyF) : usedD gs = usedD fs := by
  have e : ∀ l : List FileD, usedD l = ((l.map keyF).map (fun k => k.2.1)).sum := by intro l; unfold usedD; rw [List.map_map]; rfl
  rw [e, e, h]
theorem keys_ids {fs gs : List FileD} (h : gs.map keyF = fs.map keyF) : fidsD gs = fidsD fs := by
  have e : ∀ l : List FileD, fidsD l = (l.map keyF).map (fun k => k.1) := by intro l; unfold fidsD; rw [List.map_map]; rfl
  rw [e, e, h]
theorem fileAt_of {next : Int} {fs gs : List FileD} (hs : SameF fs gs) (h : ∀ j h, FileAt next fs j h) : ∀ j h, FileAt next gs j h := by
  intro j hj
  have hj' : j < fs.length := by rw [← hs.1]; exact hj
  obtain ⟨a1, a2, a3, a4⟩ := hs.2 j hj' hj
  obtain ⟨b1, b2, b3, b4, b5⟩ := h j hj'
  refine ⟨by rw [a1]; exact b1, by rw [a1]; exact b2, fun h0 => ?_, by rw [a3]; exact b4, by rw [a3, a2]; exact b5⟩
  obtain ⟨c1, _⟩ := hs.2 (j - 1) (by omega) (by omega)
  rw [c1, a1]; exact b3 h0
theorem okS_of {room fuse next : Int} {fs gs : List FileD} {ks : List LinkD} {ts : List TurnD} (h : gs.map keyF = fs.map keyF) (ho : OkS room fuse next fs ks ts) : OkS room fuse next gs ks ts := by
  obtain ⟨h0, h1, h2, h3, r1, r2, r3, r4, r5, r6⟩ := ho
  exact ⟨h0, by rw [keys_len h]; exact h1, h2, h3, by rw [keys_used h]; exact r1, fileAt_of (same_of_keys h) r2, r3, by rw [keys_len h]; exact r4, by rw [keys_ids h]; exact r5, r6⟩
theorem okS_iff {room fuse next : Int} {fs gs : List FileD} {ks : List LinkD} {ts : List TurnD} (h : gs.map keyF = fs.map keyF) : OkS room fuse next gs ks ts ↔ OkS room fuse next fs ks ts := ⟨okS_of h.symm, okS_of h⟩
theorem n_used : ∀ {fs : List FileD} {f : FileD}, f ∈ fs → f.n ≤ usedD fs
  | g :: fs, f, h => by
    have e : usedD (g :: fs) = g.n + usedD fs := by unfold usedD; simp
    rw [e]
    rcases List.mem_cons.1 h with rfl | h'
    · omega
    · have := n_used h'; omega
theorem keys_mem {P : FileD → Prop} {fs gs : List FileD} (h : gs.map keyF = fs.map keyF) (hP : ∀ f g : FileD, keyF g = keyF f → P f → P g) (hf : ∀ f ∈ fs, P f) : ∀ g ∈ gs, P g := by
  intro g hg
  have : keyF g ∈ fs.map keyF := by rw [← h]; exact List.mem_map.2 ⟨g, hg, rfl⟩
  obtain ⟨f, hf1, hf2⟩ := List.mem_map.1 this
  exact hP f g hf2.symm (hf f hf1)
theorem key_n {f g : FileD} (h : keyF g = keyF f) : g.n = f.n := by have := congrArg (fun k => k.2.1) h; exact this
theorem key_id {f g : FileD} (h : keyF g = keyF f) : g.id = f.id := by have := congrArg (fun k => k.1) h; exact this
theorem bool_eq {b1 b2 : Bool} {P Q : Prop} (h1 : b1 = true ↔ P) (h2 : b2 = true ↔ Q) (h : P ↔ Q) : b2 = b1 := by
  cases b1 <;> cases b2 <;> simp_all

set_option maxRecDepth 100000 in
set_option maxHeartbeats 8000000 in
theorem walk (room fuse next : Int) (F : Option Addr) (nf cf : Nat) (K : Option Addr) (nk ck : Nat) (T : Option Addr) (nt ct : Nat) (fs : List FileD) (ks : List LinkD) (ts : List TurnD) (w : World)
    (hf : RdF w w.heap.size F fs) (hfl : fs.length = nf) (hfn : nf ≤ 9223372036854775807) (hrb : RdB w w.heap.size fs) (hfs : ∀ x ∈ fs, x.n ≤ 9223372036854775807 ∧ (Lit.int .i64 x.id).wf = true)
    (hk : RdL w w.heap.size K ks) (hkl : ks.length = nk) (hkn : nk ≤ 9223372036854775807) (hks : ∀ x ∈ ks, x.1.size ≤ maxLen ∧ (Lit.int .i64 x.2).wf = true)
    (ht : RdT w w.heap.size T ts) (htl : ts.length = nt) (htn : nt ≤ 9223372036854775807) (hts : ∀ x ∈ ts, x.name.size ≤ maxLen ∧ x.to_.size ≤ maxLen ∧ (Lit.int .i64 x.id).wf = true) :
    Calls Try.prog 6 #[.agg #[.int .i64 room, .int .i64 fuse, .int .i64 next, .slice F nf cf, .slice K nk ck, .slice T nt ct]] w fun e w' => e = .returned (.bool true) ∧ Below w.heap.size w w' := by
  have hb0 := Lib.hid ((Below.refl w.heap.size w).alloc (Nat.le_refl _) (.cells #[.int .i64 room, .int .i64 fuse, .int .i64 next, .slice F nf cf, .slice K nk ck, .slice T nt ct] 44))
  have hx0 := Lib.hid (Box6.new w (.int .i64 room) (.int .i64 fuse) (.int .i64 next) (.slice F nf cf) (.slice K nk ck) (.slice T nt ct) 44)
  have RF := Lib.hid (fun W (h : Below w.heap.size w W) => (hf.below (Nat.le_refl _) h).more h.size)
  have RB := Lib.hid (fun W (h : Below w.heap.size w W) => (hrb.below (Nat.le_refl _) h).more h.size)
  have RL := Lib.hid (fun W (h : Below w.heap.size w W) => (hk.below (Nat.le_refl _) h).more h.size)
  have RT := Lib.hid (fun W (h : Below w.heap.size w W) => (ht.below (Nat.le_refl _) h).more h.size)
  have HSz := Lib.hid (fun W (h : Below w.heap.size w W) => szDisk_any room fuse next F nf cf K nk ck T nt ct fs ks ts 1048576 W (RF.out W h) hfl hfn (fun x hx => (hfs x hx).1) (RL.out W h) hkl hkn (fun x hx => by have := (hks x hx).1; unfold maxLen at this; exact this) (RT.out W h) htl htn (fun x hx => by have := hts x hx; unfold maxLen at this; exact ⟨this.1, this.2.1⟩) (by omega) (by omega))
  have HTo := Lib.hid (fun W (h : Below w.heap.size w W) (h1 : nf ≤ 2097152) (h2 : usedD fs ≤ 1099511627776) (h3 : nk ≤ 2097152) (h4 : nt ≤ 2097152) => toDisk_any room fuse next F nf cf K nk ck T nt ct fs ks ts W (RF.out W h) hfl h1 (RB.out W h) (fun f hf => Nat.le_trans (n_used hf) h2) (RL.out W h) hkl h3 (RT.out W h) htl h4)
  have HFI := Lib.hid (show ∀ x ∈ fs, (Lit.int .i64 x.id).wf = true from fun x hx => (hfs x hx).2)
  have HKS := Lib.hid hks
  have HTS := Lib.hid hts
  have HKL := Lib.hid hkl
  have HTL := Lib.hid htl
  have HFL := Lib.hid hfl
  clear hf hfl hrb hfs hk hkl hks ht htl hts RF RB RL RT
  go_enter Try.func6, Try.ntmps6
  go_wp2_with fail
  refine (HSz.out _ hb0.out).mono ?_
  rintro e v1 ⟨r, rfl, hr, hb1⟩
  have s1 : w.heap.size < v1.heap.size := by have := hb1.size; simp at this; omega
  have HB1 := Lib.hid (hb0.out.trans (hb1.mono (by simp)))
  have HX1 := Lib.hid (hx0.out.below hb1 (by simp))
  clear hb1 hb0 hx0 HSz
  rcases hr with rfl | ⟨hr0, hr1⟩
  · go_wp2_with fail
    go_ret
    exact ⟨rfl, HB1.out⟩
  · have g1 : nf ≤ 2000000 := by omega
    have g2 : usedD fs ≤ 2000000 := by omega
    have g3 : nk ≤ 2000000 := by omega
    have g4 : nt ≤ 2000000 := by omega
    have HU := Lib.hid g2
    have HT1 := Lib.hid (fun W (h : Below w.heap.size w W) => HTo.out W h (by omega) (by omega) (by omega) (by omega))
    clear hr1 g2 HTo
    obtain ⟨q0, q1, q2, q3, q4, q5⟩ := HX1.out
    go_wp2_with fail
    refine (HT1.out _ HB1.out).mono ?_
    rintro e v2 ⟨F2, cf2, K2, ck2, T2, ct2, gs2, rfl, hF2, hk2, hB2, hL2, hT2, hb2⟩
    have s2 : w.heap.size < v2.heap.size := by have := hb2.size; omega
    have HB2 := Lib.hid (HB1.out.trans (hb2.mono (Nat.le_of_lt s1)))
    have HX2 := Lib.hid (HX1.out.below hb2 s1)
    have HK2 := Lib.hid hk2
    have HF2 := Lib.hid hF2.rd
    have HL2 := Lib.hid hL2.rd
    have HT2 := Lib.hid hT2.rd
    clear q0 q1 q2 q3 q4 q5 hb2 hF2 hk2 hB2 hL2 hT2 HX1 HB1
    go_wp2_with fail
    refine (specOk_any room fuse next F2 nf cf2 K2 nk ck2 T2 nt ct2 gs2 ks ts _ HF2.out ((keys_len HK2.out).trans HFL.out) (by rw [keys_used HK2.out]; have := HU.out; omega) HL2.out HKL.out (fun x hx => (HKS.out x hx).1) HT2.out HTL.out (fun x hx => ⟨(HTS.out x hx).1, (HTS.out x hx).2.1⟩)).mono ?_
    rintro e v3 ⟨b1, rfl, hv1, hb3⟩
    have HV1 := Lib.hid (hv1.trans (okS_iff HK2.out))
    have s3 : w.heap.size < v3.heap.size := by have := hb3.size; omega
    have HB3 := Lib.hid (HB2.out.trans (hb3.mono (Nat.le_of_lt s2)))
    have HX3 := Lib.hid (HX2.out.below hb3 s2)
    clear hb3 hv1 HB2 HX2 HK2 HF2 HL2 HT2
    obtain ⟨q0, q1, q2, q3, q4, q5⟩ := HX3.out
    go_wp2_with fail
    refine (HT1.out _ HB3.out).mono ?_
    rintro e v4 ⟨F4, cf4, K4, ck4, T4, ct4, gs4, rfl, hF4, hk4, hB4, hL4, hT4, hb4⟩
    have s4 : w.heap.size < v4.heap.size := by have := hb4.size; omega
    have HB4 := Lib.hid (HB3.out.trans (hb4.mono (Nat.le_of_lt s3)))
    have HX4 := Lib.hid (HX3.out.below hb4 s3)
    have HK4 := Lib.hid hk4
    have HF4 := Lib.hid hF4.rd
    have HE4 := Lib.hid hB4.rdB
    have HL4 := Lib.hid hL4.rd
    have HT4 := Lib.hid hT4.rd
    clear q0 q1 q2 q3 q4 q5 hb4 hF4 hk4 hB4 hL4 hT4 HX3 HB3
    go_wp2_with fail
    have hy : Below v4.heap.size v4 (v4.alloc (.cells #[.int .i64 room, .int .i64 fuse, .int .i64 next, .slice F4 nf cf4, .slice K4 nk ck4, .slice T4 nt ct4] 27)) := (Below.refl _ _).alloc (Nat.le_refl _) _
    have HI := Lib.hid (fun W (h : Below v4.heap.size v4 W) => implOk_any room fuse next F4 nf cf4 K4 nk ck4 T4 nt ct4 gs4 ks ts W ((HF4.out.below (Nat.le_refl _) h).more h.size) ((keys_len HK4.out).trans HFL.out) g1 (keys_mem HK4.out (P := fun f => (Lit.int .i64 f.id).wf = true) (fun f g e h => by show (Lit.int .i64 g.id).wf = true; rw [key_id e]; exact h) HFI.out) (by rw [keys_used HK4.out]; have := HU.out; omega) ((HL4.out.below (Nat.le_refl _) h).more h.size) HKL.out g3 HKS.out ((HT4.out.below (Nat.le_refl _) h).more h.size) HTL.out g4 HTS.out)
    refine (HI.out _ hy).mono ?_
    rintro e v5 ⟨b2, rfl, hv2, hb5⟩
    obtain rfl : b2 = b1 := bool_eq HV1.out hv2 (((ok_iff room fuse next gs4 ks ts).symm.trans (okS_iff HK4.out)).symm)
    have hy5 : Below v4.heap.size v4 v5 := hy.trans (hb5.mono (by simp))
    have s5 : v4.heap.size < v5.heap.size := by have := hb5.size; simp at this; omega
    have s6 : w.heap.size < v5.heap.size := by omega
    have HB5 := Lib.hid (HB4.out.trans (hy5.mono (Nat.le_of_lt s4)))
    have HX5 := Lib.hid (HX4.out.below hy5 s4)
    have HY5 := Lib.hid ((Box6.new v4 (.int .i64 room) (.int .i64 fuse) (.int .i64 next) (.slice F4 nf cf4) (.slice K4 nk ck4) (.slice T4 nt ct4) 27).below hb5 (by simp))
    have PF := Lib.hid ((HF4.out.below (Nat.le_refl _) hy5).more (Nat.le_of_lt s5))
    have PE := Lib.hid ((HE4.out.below (Nat.le_refl _) hy5).more (Nat.le_of_lt s5))
    have PL := Lib.hid ((HL4.out.below (Nat.le_refl _) hy5).more (Nat.le_of_lt s5))
    have PT := Lib.hid ((HT4.out.below (Nat.le_refl _) hy5).more (Nat.le_of_lt s5))
    clear hv2 hb5 hy hy5 HX4 HB4 HF4 HE4 HL4 HT4 HI HV1
    obtain ⟨q0, q1, q2, q3, q4, q5⟩ := HX5.out
    obtain ⟨p0, p1, p2, p3, p4, p5⟩ := HY5.out
    cases b2 <;>
    · go_wp2_with fail
      go_region_with (first
        | (go_at_call 23; refine (HT1.out _ ?_).mono ?_; exact ⟨HB5.out.os, HB5.out.tape, HB5.out.output, HB5.out.size, HB5.out.block⟩; rintro e v6 ⟨F6, cf6, K6, ck6, T6, ct6, gs6, rfl, hF6, hk6, hB6, hL6, hT6, hb6'⟩; have hb6 : Below v5.heap.size v5 v6 := undrew hb6'; clear hb6'; have HB6 := Lib.hid (HB5.out.trans (Below.mono hb6 (Nat.le_of_lt s6))); have HK6 := Lib.hid hk6; have HF6 := Lib.hid hF6.rd; have HE6 := Lib.hid hB6.rdB; have HL6 := Lib.hid hL6.rd; have HT6 := Lib.hid hT6.rd; have QF := Lib.hid ((PF.out.below (Nat.le_refl _) hb6).more hb6.size); have QE := Lib.hid ((PE.out.below (Nat.le_refl _) hb6).more hb6.size); have QL := Lib.hid ((PL.out.below (Nat.le_refl _) hb6).more hb6.size); have QT := Lib.hid ((PT.out.below (Nat.le_refl _) hb6).more hb6.size); have s7 : v5.heap.size ≤ v6.heap.size := hb6.size; obtain ⟨r0, r1, r2, r3, r4, r5⟩ := HY5.out.below hb6 s5; clear hb6 hF6 hk6 hB6 hL6 hT6)
        | (go_at_call 24; refine (eqDisk_yes room fuse next F4 _ nf cf4 _ K4 _ nk ck4 _ T4 _ nt ct4 _ gs4 gs6 ks ts _ ?_ ?_ ?_ ?_ ?_ ?_ (by omega) ?_ ?_ ?_ HKL.out (by omega) ?_ ?_ HTL.out (by omega)).mono ?_; exact QF.out; exact HF6.out; exact (keys_len HK4.out).trans HFL.out; exact same_of_keys (HK6.out.trans HK4.out.symm); exact QE.out; exact HE6.out; exact (fun f hf => by have h1 := n_used hf; rw [keys_used HK4.out] at h1; have h2 := HU.out; omega); exact QL.out; exact HL6.out; exact QT.out; exact HT6.out; rintro e v7 ⟨rfl, hb7⟩))
      all_goals
        have HE := Lib.hid (HB6.out.trans (hb7.mono (by omega)))
        clear hb7
        go_wp2_with fail
        go_ret
        exact ⟨rfl, HE.out⟩
end Go.Proofs.Ytmdohcmlfjijpaa.fnExactDiskOk
