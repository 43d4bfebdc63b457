/- FnExactGridNew: the walk of the law from the contracts of the program, of its model and of the laws' helpers; at every input, no condition. -/
import Derived.Test.YtgejjdkgeoojmaaGrLaw
import Derived.Test.YtgejjdkgeoojmaaGrNew
import Derived.Test.YtgejjdkgeoojmaaGrMark
import Derived.Deep.RegionWith
import Derived.Deep.Cut
import Derived.Deep.CutRange
import Derived.Deep.DeepCutAuto
import Derived.Deep.DrawnRows
namespace Go.Proofs.Ytgejjdkgeoojmaa.fnExactGridNew
open Go.RowKit Go.Proofs.Ytgejjdkgeoojmaa.Bytes Go.Proofs.Ytgejjdkgeoojmaa.Rows_ Go.Proofs.Ytgejjdkgeoojmaa.RowK Go.Proofs.Ytgejjdkgeoojmaa.Gr
set_option linter.unusedVariables false
attribute [local go_sem ↓] Go.wp_at_zero Go.wp_at_succ
theorem own : ownKnob Try.prog.godebug = none := by kernel_rfl
set_option maxRecDepth 100000 in
set_option maxHeartbeats 16000000 in
theorem walk (gw gh : Int) (w : World) (w0 : (Lit.int .i64 gw).wf = true) (w1 : (Lit.int .i64 gh).wf = true) :
    Calls Try.prog 4 #[.int .i64 gw, .int .i64 gh] w fun e w' => e = .returned (.bool true) ∧ Below w.heap.size w w' := by
  clear w0 w1
  obtain ⟨rw_, rh_, m, rcs, ok, hm, hans⟩ := newR gw gh
  have HSpec := Lib.hid (fun W => (spec_GridNew_any gw gh W).mono (fun e w' h => hans _ _ _ _ h))
  have HImpl := Lib.hid (fun W => (impl_GridNew_any gw gh W).mono (fun e w' h => hans _ _ _ _ h))
  clear hans
  have HB0 := Lib.hid (Below.refl w.heap.size w)
  have z0 : w.heap.size ≤ w.heap.size := Nat.le_refl _
  have hne : (ok != ok) = false := by simp
  have hne2 : (1 + 6 * (m : Int) != 1 + 6 * (m : Int)) = false := by simp
  have hge : decide (1 + 6 * (m : Int) < 0) = false := decide_eq_false (by omega)
  go_enter Try.func4, Try.ntmps4
  go_wp2_with fail
  refine (HSpec.out _).mono ?_
  rintro e v1 ⟨F1, d1, rfl, ho1, hx1⟩
  have HO1 := Lib.hid ho1
  have HL1 := Lib.hid (show ∀ i, (Value.slice F1 m d1).ownBlock = some i → w.heap.size ≤ i ∧ (w.heap.size = i → True) ∧ i < v1.heap.size from fun i hi => by have := ho1.blk i hi; exact ⟨by omega, fun _ => trivial, this.2⟩)
  clear ho1
  have hst1 : Below w.heap.size w v1 := hx1
  have HB1 := Lib.hid (HB0.out.trans (hst1.mono z0))
  clear HB0
  have z1 : w.heap.size ≤ v1.heap.size := HB1.out.size
  clear z0
  have ch1 : w.heap.size ≤ v1.heap.size := hst1.size
  clear hx1 hst1
  have HAL := Lib.hid ((Below.refl v1.heap.size v1).alloc (Nat.le_refl _) (.cells #[.int .i64 rw_, .int .i64 rh_, .slice F1 m d1] 29))
  go_wp2_with fail
  refine (HImpl.out _).mono ?_
  rintro e v2 ⟨F2, d2, rfl, ho2, hx2⟩
  have HO2 := Lib.hid ho2
  have HL2 := Lib.hid (show ∀ i, (Value.slice F2 m d2).ownBlock = some i → v1.heap.size ≤ i ∧ (v1.heap.size = i → False) ∧ i < v2.heap.size from fun i hi => by have := ho2.blk i hi; simp at this; exact ⟨by omega, fun e => by omega, this.2⟩)
  clear ho2
  have hst2 : Below v1.heap.size v1 v2 := HAL.out.trans (hx2.mono (by simp))
  have HO1_2 := Lib.hid (HO1.out.below (Nat.le_refl _) hst2)
  clear HO1
  have HB2 := Lib.hid (HB1.out.trans (hst2.mono z1))
  clear HB1
  have z2 : w.heap.size ≤ v2.heap.size := HB2.out.size
  clear z1
  have ch2 : v1.heap.size ≤ v2.heap.size := hst2.size
  have Xbw := Lib.hid (BoxK.below (BoxK.new v1 [.int .i64 rw_, .int .i64 rh_, .slice F1 m d1] 29) hx2 (by simp))
  have s2bw : v1.heap.size < v2.heap.size := by have := hx2.size; simp at this; omega
  have tbw := s2bw
  clear HAL
  clear hx2 hst2
  have bwq0 := Xbw.out 0 _ rfl
  have bwq1 := Xbw.out 1 _ rfl
  have bwq2 := Xbw.out 2 _ rfl
  have HAL := Lib.hid ((Below.refl v2.heap.size v2).alloc (Nat.le_refl _) (.cells #[.int .i64 rw_, .int .i64 rh_, .slice F2 m d2] 29))
  have HP0 := Lib.hid (HO2.out.below (Nat.le_refl _) HAL.out)
  have HP1 := Lib.hid (HO1_2.out.below (Nat.le_refl _) HAL.out)
  go_wp2_with fail
  refine (eqG rw_ rh_ HP0.out HP1.out (by omega)).mono ?_
  rintro e v3 ⟨rfl, hx3⟩
  clear HP0
  clear HP1
  clear bwq0 bwq1 bwq2
  have hst3 : Below v2.heap.size v2 v3 := HAL.out.trans (hx3.mono (by simp))
  have HO1_2_3 := Lib.hid (HO1_2.out.below (Nat.le_refl _) hst3)
  clear HO1_2
  have HO2_3 := Lib.hid (HO2.out.below (Nat.le_refl _) hst3)
  clear HO2
  have HB3 := Lib.hid (HB2.out.trans (hst3.mono z2))
  clear HB2
  have z3 : w.heap.size ≤ v3.heap.size := HB3.out.size
  clear z2
  have ch3 : v2.heap.size ≤ v3.heap.size := hst3.size
  have Xbw_3 := Lib.hid (BoxK.below Xbw.out hst3 s2bw)
  clear Xbw
  have s3bw : v1.heap.size < v3.heap.size := Nat.lt_of_lt_of_le s2bw hst3.size
  clear s2bw
  have Xbg := Lib.hid (BoxK.below (BoxK.new v2 [.int .i64 rw_, .int .i64 rh_, .slice F2 m d2] 29) hx3 (by simp))
  have s3bg : v2.heap.size < v3.heap.size := by have := hx3.size; simp at this; omega
  have tbg := s3bg
  clear HAL
  clear hx3 hst3
  have bgq0 := Xbg.out 0 _ rfl
  have bgq1 := Xbg.out 1 _ rfl
  have bgq2 := Xbg.out 2 _ rfl
  go_wp2_with fail
  refine (markGrid_any rw_ rh_ _ m _ _ rcs (1) _ HO2_3.out (by omega) (by omega) (by omega)).mono ?_
  rintro e v4 ⟨rfl, ho4, on4⟩
  clear bgq0 bgq1 bgq2
  have HO4 := Lib.hid ho4
  clear ho4
  have HO1_2_3_4 := Lib.hid (HO1_2_3.out.only on4 (fun i hi hs => by have h1 := HL1.out i hi; have h2 := HL2.out i hs; have hq1 := h1.2.1; have hq2 := h2.2.1; omega))
  clear HO1_2_3
  have HB4 := Lib.hid (Only.below_ on4 HB3.out z3 (fun i hs => by have h2 := HL2.out i hs; omega))
  clear HB3
  have z4 : w.heap.size ≤ v4.heap.size := HB4.out.size
  clear z3
  have ch4 : v3.heap.size ≤ v4.heap.size := on4.size
  have Xbw_3_4 := Lib.hid (BoxK.only Xbw_3.out on4 (fun hs => by have h2 := HL2.out _ hs; first | omega | exact h2.2.1 rfl))
  clear Xbw_3
  have s4bw : v1.heap.size < v4.heap.size := Nat.lt_of_lt_of_le s3bw on4.size
  clear s3bw
  have Xbg_4 := Lib.hid (BoxK.only Xbg.out on4 (fun hs => by have h2 := HL2.out _ hs; first | omega | exact h2.2.1 rfl))
  clear Xbg
  have s4bg : v2.heap.size < v4.heap.size := Nat.lt_of_lt_of_le s3bg on4.size
  clear s3bg
  clear on4 HO2_3
  have bgq0 := Xbg_4.out 0 _ rfl
  have bgq1 := Xbg_4.out 1 _ rfl
  have bgq2 := Xbg_4.out 2 _ rfl
  have HP0 := HO4
  go_wp2_with fail
  refine (heldGrid_any rw_ rh_ _ m _ (1) _ HP0.out.rd (by omega) (by omega) (by omega)).mono ?_
  rintro e v5 ⟨rfl, hx5⟩
  clear bgq0 bgq1 bgq2
  have hst5 : Below v4.heap.size v4 v5 := hx5
  have HO1_2_3_4_5 := Lib.hid (HO1_2_3_4.out.below (Nat.le_refl _) hst5)
  clear HO1_2_3_4
  have HO4_5 := Lib.hid (HO4.out.below (Nat.le_refl _) hst5)
  clear HO4
  have HB5 := Lib.hid (HB4.out.trans (hst5.mono z4))
  clear HB4
  have z5 : w.heap.size ≤ v5.heap.size := HB5.out.size
  clear z4
  have ch5 : v4.heap.size ≤ v5.heap.size := hst5.size
  have Xbw_3_4_5 := Lib.hid (BoxK.below Xbw_3_4.out hst5 s4bw)
  clear Xbw_3_4
  have s5bw : v1.heap.size < v5.heap.size := Nat.lt_of_lt_of_le s4bw hst5.size
  clear s4bw
  have Xbg_4_5 := Lib.hid (BoxK.below Xbg_4.out hst5 s4bg)
  clear Xbg_4
  have s5bg : v2.heap.size < v5.heap.size := Nat.lt_of_lt_of_le s4bg hst5.size
  clear s4bg
  clear hx5 hst5
  go_wp2_with fail
  refine (HImpl.out _).mono ?_
  rintro e v6 ⟨F6, d6, rfl, ho6, hx6⟩
  have HO6 := Lib.hid ho6
  have HL6 := Lib.hid (show ∀ i, (Value.slice F6 m d6).ownBlock = some i → v5.heap.size ≤ i ∧ (v5.heap.size = i → True) ∧ i < v6.heap.size from fun i hi => by have := ho6.blk i hi; exact ⟨by omega, fun _ => trivial, this.2⟩)
  clear ho6
  have hst6 : Below v5.heap.size v5 v6 := hx6
  have HO1_2_3_4_5_6 := Lib.hid (HO1_2_3_4_5.out.below (Nat.le_refl _) hst6)
  clear HO1_2_3_4_5
  have HO4_5_6 := Lib.hid (HO4_5.out.below (Nat.le_refl _) hst6)
  clear HO4_5
  have HB6 := Lib.hid (HB5.out.trans (hst6.mono z5))
  clear HB5
  have z6 : w.heap.size ≤ v6.heap.size := HB6.out.size
  clear z5
  have ch6 : v5.heap.size ≤ v6.heap.size := hst6.size
  have Xbw_3_4_5_6 := Lib.hid (BoxK.below Xbw_3_4_5.out hst6 s5bw)
  clear Xbw_3_4_5
  have s6bw : v1.heap.size < v6.heap.size := Nat.lt_of_lt_of_le s5bw hst6.size
  clear s5bw
  have Xbg_4_5_6 := Lib.hid (BoxK.below Xbg_4_5.out hst6 s5bg)
  clear Xbg_4_5
  have s6bg : v2.heap.size < v6.heap.size := Nat.lt_of_lt_of_le s5bg hst6.size
  clear s5bg
  clear hx6 hst6
  have bwq0 := Xbw_3_4_5_6.out 0 _ rfl
  have bwq1 := Xbw_3_4_5_6.out 1 _ rfl
  have bwq2 := Xbw_3_4_5_6.out 2 _ rfl
  have HAL := Lib.hid ((Below.refl v6.heap.size v6).alloc (Nat.le_refl _) (.cells #[.int .i64 rw_, .int .i64 rh_, .slice F6 m d6] 29))
  have HP0 := Lib.hid (HO6.out.below (Nat.le_refl _) HAL.out)
  have HP1 := Lib.hid (HO1_2_3_4_5_6.out.below (Nat.le_refl _) HAL.out)
  go_wp2_with fail
  refine (eqG rw_ rh_ HP0.out HP1.out (by omega)).mono ?_
  rintro e v7 ⟨rfl, hx7⟩
  clear HP0
  clear HP1
  clear bwq0 bwq1 bwq2
  have hst7 : Below v6.heap.size v6 v7 := HAL.out.trans (hx7.mono (by simp))
  have HO1_2_3_4_5_6_7 := Lib.hid (HO1_2_3_4_5_6.out.below (Nat.le_refl _) hst7)
  clear HO1_2_3_4_5_6
  have HO4_5_6_7 := Lib.hid (HO4_5_6.out.below (Nat.le_refl _) hst7)
  clear HO4_5_6
  have HO6_7 := Lib.hid (HO6.out.below (Nat.le_refl _) hst7)
  clear HO6
  have HB7 := Lib.hid (HB6.out.trans (hst7.mono z6))
  clear HB6
  have z7 : w.heap.size ≤ v7.heap.size := HB7.out.size
  clear z6
  have ch7 : v6.heap.size ≤ v7.heap.size := hst7.size
  have Xbw_3_4_5_6_7 := Lib.hid (BoxK.below Xbw_3_4_5_6.out hst7 s6bw)
  clear Xbw_3_4_5_6
  have s7bw : v1.heap.size < v7.heap.size := Nat.lt_of_lt_of_le s6bw hst7.size
  clear s6bw
  have Xbg_4_5_6_7 := Lib.hid (BoxK.below Xbg_4_5_6.out hst7 s6bg)
  clear Xbg_4_5_6
  have s7bg : v2.heap.size < v7.heap.size := Nat.lt_of_lt_of_le s6bg hst7.size
  clear s6bg
  have Xbh := Lib.hid (BoxK.below (BoxK.new v6 [.int .i64 rw_, .int .i64 rh_, .slice F6 m d6] 29) hx7 (by simp))
  have s7bh : v6.heap.size < v7.heap.size := by have := hx7.size; simp at this; omega
  have tbh := s7bh
  clear HAL
  clear hx7 hst7
  have bgq0 := Xbg_4_5_6_7.out 0 _ rfl
  have bgq1 := Xbg_4_5_6_7.out 1 _ rfl
  have bgq2 := Xbg_4_5_6_7.out 2 _ rfl
  have HP0 := HO4_5_6_7
  go_wp2_with fail
  refine (heldGrid_any rw_ rh_ _ m _ (1) _ HP0.out.rd (by omega) (by omega) (by omega)).mono ?_
  rintro e v8 ⟨rfl, hx8⟩
  clear bgq0 bgq1 bgq2
  have hst8 : Below v7.heap.size v7 v8 := hx8
  have HO1_2_3_4_5_6_7_8 := Lib.hid (HO1_2_3_4_5_6_7.out.below (Nat.le_refl _) hst8)
  clear HO1_2_3_4_5_6_7
  have HO4_5_6_7_8 := Lib.hid (HO4_5_6_7.out.below (Nat.le_refl _) hst8)
  clear HO4_5_6_7
  have HO6_7_8 := Lib.hid (HO6_7.out.below (Nat.le_refl _) hst8)
  clear HO6_7
  have HB8 := Lib.hid (HB7.out.trans (hst8.mono z7))
  clear HB7
  have z8 : w.heap.size ≤ v8.heap.size := HB8.out.size
  clear z7
  have ch8 : v7.heap.size ≤ v8.heap.size := hst8.size
  have Xbw_3_4_5_6_7_8 := Lib.hid (BoxK.below Xbw_3_4_5_6_7.out hst8 s7bw)
  clear Xbw_3_4_5_6_7
  have s8bw : v1.heap.size < v8.heap.size := Nat.lt_of_lt_of_le s7bw hst8.size
  clear s7bw
  have Xbg_4_5_6_7_8 := Lib.hid (BoxK.below Xbg_4_5_6_7.out hst8 s7bg)
  clear Xbg_4_5_6_7
  have s8bg : v2.heap.size < v8.heap.size := Nat.lt_of_lt_of_le s7bg hst8.size
  clear s7bg
  have Xbh_8 := Lib.hid (BoxK.below Xbh.out hst8 s7bh)
  clear Xbh
  have s8bh : v6.heap.size < v8.heap.size := Nat.lt_of_lt_of_le s7bh hst8.size
  clear s7bh
  clear hx8 hst8
  go_wp2_with fail
  go_ret
  exact ⟨rfl, HB8.out⟩
end Go.Proofs.Ytgejjdkgeoojmaa.fnExactGridNew

