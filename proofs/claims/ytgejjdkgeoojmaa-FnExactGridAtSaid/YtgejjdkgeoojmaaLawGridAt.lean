/- FnExactGridAt: the walk of the law from the contracts of the program, of its model and of the laws' helpers; at every input, no condition. -/
import Derived.Test.YtgejjdkgeoojmaaGrLaw
import Derived.Test.YtgejjdkgeoojmaaGrAtO
import Derived.Deep.RegionWith
import Derived.Deep.Cut
import Derived.Deep.CutRange
import Derived.Deep.DeepCutAuto
import Derived.Deep.DrawnRows
namespace Go.Proofs.Ytgejjdkgeoojmaa.fnExactGridAt
open Go.RowKit Go.Proofs.Ytgejjdkgeoojmaa.Bytes Go.Proofs.Ytgejjdkgeoojmaa.Rows_ Go.Proofs.Ytgejjdkgeoojmaa.RowK Go.Proofs.Ytgejjdkgeoojmaa.Gr
set_option linter.unusedVariables false
attribute [local go_sem ↓] Go.wp_at_zero Go.wp_at_succ
theorem own : ownKnob Try.prog.godebug = none := by kernel_rfl
set_option maxRecDepth 100000 in
set_option maxHeartbeats 16000000 in
theorem walk (gw gh : Int) (A : Option Addr) (n c : Nat) (cs : List CellD) (x y : Int) (w : World) (hr : RdC w w.heap.size A cs) (hl : cs.length = n) (hn : n ≤ 9223372036854775807) (wx : (Lit.int .i64 x).wf = true) (wy : (Lit.int .i64 y).wf = true) :
    Calls Try.prog 5 #[.agg #[.int .i64 gw, .int .i64 gh, .slice A n c], .int .i64 x, .int .i64 y] w fun e w' => e = .returned (.bool true) ∧ Below w.heap.size w w' := by
  have hb0 := Lib.hid ((Below.refl w.heap.size w).alloc (by simp <;> omega) (.cells #[.int .i64 gw, .int .i64 gh, .slice A n c] 24))
  have x0a : BoxK (w.alloc (.cells #[.int .i64 gw, .int .i64 gh, .slice A n c] 24)) (w.heap.size) [.int .i64 gw, .int .i64 gh, .slice A n c] := BoxK.new w _ _
  have X0a := Lib.hid x0a
  clear x0a
  have HTB := Lib.hid (fun W (h : Below w.heap.size w W) (hn' : n ≤ 1048576) => toG (B := 0) gw gh A n c cs hr hl hn' h)
  have HLN := Lib.hid hl
  clear wx wy
  obtain ⟨zr, hzr⟩ : ∃ z, z = atG gw gh cs x y := ⟨_, rfl⟩
  obtain ⟨zr0, zr1, zr2, zr3, zr4, zr5⟩ := zr
  have HV := Lib.hid (show cellV (atG gw gh cs x y) = .agg #[.int .i64 zr0, .int .i64 zr1, .int .i64 zr2, .bool zr3, .bool zr4, .bool zr5] by rw [← hzr]; rfl)
  clear hzr
  have HSZ := Lib.hid (fun W => szGrid_any gw gh A n c (1048576) W hn (by omega) (by omega))
  by_cases hbig : (1048576 : Int) < (n : Int)
  · rw [if_pos hbig] at HSZ
    clear hr hl
    go_enter Try.func5, Try.ntmps5
    go_wp2_with fail
    refine (HSZ.out _).mono ?_
    rintro e v1 ⟨rfl, hx1⟩
    have HB1 := Lib.hid (hb0.out.trans (hx1.mono (by simp <;> omega)))
    have z1 : w.heap.size ≤ v1.heap.size := HB1.out.size
    have XXa := Lib.hid (BoxK.below X0a.out hx1 (by simp <;> omega))
    have s1a : w.heap.size < v1.heap.size := by have := hx1.size; simp at this; omega
    have t1a := s1a
    clear hx1 hb0 X0a
    clear HSZ
    go_wp2_with fail
    go_ret
    exact ⟨rfl, HB1.out⟩
  rw [if_neg hbig] at HSZ
  have HT := Lib.hid (fun W (h : Below w.heap.size w W) => HTB.out W h (by omega))
  clear HTB hr hl
  have hlf0 : 0 ≤ (1048576 : Int) - n := by omega
  have hN : n ≤ 1048576 := by omega
  clear hbig
  go_enter Try.func5, Try.ntmps5
  go_wp2_with fail
  refine (HSZ.out _).mono ?_
  rintro e v1 ⟨rfl, hx1⟩
  have HB1 := Lib.hid (hb0.out.trans (hx1.mono (by simp <;> omega)))
  have z1 : w.heap.size ≤ v1.heap.size := HB1.out.size
  have XXa := Lib.hid (BoxK.below X0a.out hx1 (by simp <;> omega))
  have s1a : w.heap.size < v1.heap.size := by have := hx1.size; simp at this; omega
  have t1a := s1a
  clear hx1 hb0 X0a
  clear HSZ
  have aq0 := XXa.out 0 _ rfl
  have aq1 := XXa.out 1 _ rfl
  have aq2 := XXa.out 2 _ rfl
  have HPB := HB1
  go_wp2_with fail
  refine (HT.out _ HPB.out).mono ?_
  rintro e v2 ⟨F2, d2, rfl, ho2, hx2⟩
  clear aq0 aq1 aq2
  have HO2 := Lib.hid ho2
  have HL2 := Lib.hid (show ∀ i, (Value.slice F2 n d2).ownBlock = some i → v1.heap.size ≤ i ∧ (v1.heap.size = i → True) ∧ i < v2.heap.size from fun i hi => by have := ho2.blk i hi; exact ⟨by omega, fun _ => trivial, this.2⟩)
  clear ho2
  have hst2 : Below v1.heap.size v1 v2 := hx2
  have HB2 := Lib.hid (HB1.out.trans (hst2.mono z1))
  clear HB1
  have z2 : w.heap.size ≤ v2.heap.size := HB2.out.size
  clear z1
  have c2 : v1.heap.size ≤ v2.heap.size := hst2.size
  have XXa_2 := Lib.hid (BoxK.below XXa.out hst2 s1a)
  clear XXa
  have s2a : w.heap.size < v2.heap.size := Nat.lt_of_lt_of_le s1a hst2.size
  clear s1a
  clear hx2 hst2
  have HP0 := HO2
  go_wp2_with fail
  refine (spec_GridAt_own gw gh x y HP0.out (by omega)).mono ?_
  rintro e v3 ⟨rfl, hx3⟩
  have hst3 : Below v2.heap.size v2 v3 := hx3
  have HO2_3 := Lib.hid (HO2.out.below (Nat.le_refl _) hst3)
  clear HO2
  have HB3 := Lib.hid (HB2.out.trans (hst3.mono z2))
  clear HB2
  have z3 : w.heap.size ≤ v3.heap.size := HB3.out.size
  clear z2
  have c3 : v2.heap.size ≤ v3.heap.size := hst3.size
  have XXa_2_3 := Lib.hid (BoxK.below XXa_2.out hst3 s2a)
  clear XXa_2
  have s3a : w.heap.size < v3.heap.size := Nat.lt_of_lt_of_le s2a hst3.size
  clear s2a
  clear hx3 hst3
  rw [HV.out]
  clear HO2_3 HL2
  have aq0 := XXa_2_3.out 0 _ rfl
  have aq1 := XXa_2_3.out 1 _ rfl
  have aq2 := XXa_2_3.out 2 _ rfl
  have HAL := Lib.hid ((Below.refl v3.heap.size v3).alloc (Nat.le_refl _) (.cells #[.int .i64 zr0, .int .i64 zr1, .int .i64 zr2, .bool zr3, .bool zr4, .bool zr5] 40))
  have HPB := Lib.hid (HB3.out.trans (HAL.out.mono z3))
  go_wp2_with fail
  refine (HT.out _ HPB.out).mono ?_
  rintro e v4 ⟨F4, d4, rfl, ho4, hx4⟩
  clear HPB
  clear aq0 aq1 aq2
  have HO4 := Lib.hid ho4
  have HL4 := Lib.hid (show ∀ i, (Value.slice F4 n d4).ownBlock = some i → v3.heap.size ≤ i ∧ (v3.heap.size = i → False) ∧ i < v4.heap.size from fun i hi => by have := ho4.blk i hi; simp at this; exact ⟨by omega, fun e => by omega, this.2⟩)
  clear ho4
  have hst4 : Below v3.heap.size v3 v4 := HAL.out.trans (hx4.mono (by simp))
  have HB4 := Lib.hid (HB3.out.trans (hst4.mono z3))
  clear HB3
  have z4 : w.heap.size ≤ v4.heap.size := HB4.out.size
  clear z3
  have c4 : v3.heap.size ≤ v4.heap.size := hst4.size
  have XXa_2_3_4 := Lib.hid (BoxK.below XXa_2_3.out hst4 s3a)
  clear XXa_2_3
  have s4a : w.heap.size < v4.heap.size := Nat.lt_of_lt_of_le s3a hst4.size
  clear s3a
  have Xbw := Lib.hid (BoxK.below (BoxK.new v3 [.int .i64 zr0, .int .i64 zr1, .int .i64 zr2, .bool zr3, .bool zr4, .bool zr5] 40) hx4 (by simp))
  have s4bw : v3.heap.size < v4.heap.size := by have := hx4.size; simp at this; omega
  have tbw := s4bw
  clear HAL
  clear hx4 hst4
  have HAL := Lib.hid ((Below.refl v4.heap.size v4).alloc (Nat.le_refl _) (.cells #[.int .i64 gw, .int .i64 gh, .slice F4 n d4] 29))
  have HP0 := Lib.hid (HO4.out.below (Nat.le_refl _) HAL.out)
  go_wp2_with fail
  refine (impl_GridAt_own gw gh x y HP0.out (by omega)).mono ?_
  rintro e v5 ⟨rfl, hx5⟩
  clear HP0
  have hst5 : Below v4.heap.size v4 v5 := HAL.out.trans (hx5.mono (by simp))
  have HO4_5 := Lib.hid (HO4.out.below (Nat.le_refl _) hst5)
  clear HO4
  have HB5 := Lib.hid (HB4.out.trans (hst5.mono z4))
  clear HB4
  have z5 : w.heap.size ≤ v5.heap.size := HB5.out.size
  clear z4
  have c5 : v4.heap.size ≤ v5.heap.size := hst5.size
  have XXa_2_3_4_5 := Lib.hid (BoxK.below XXa_2_3_4.out hst5 s4a)
  clear XXa_2_3_4
  have s5a : w.heap.size < v5.heap.size := Nat.lt_of_lt_of_le s4a hst5.size
  clear s4a
  have Xbw_5 := Lib.hid (BoxK.below Xbw.out hst5 s4bw)
  clear Xbw
  have s5bw : v3.heap.size < v5.heap.size := Nat.lt_of_lt_of_le s4bw hst5.size
  clear s4bw
  have Xbx := Lib.hid (BoxK.below (BoxK.new v4 [.int .i64 gw, .int .i64 gh, .slice F4 n d4] 29) hx5 (by simp))
  have s5bx : v4.heap.size < v5.heap.size := by have := hx5.size; simp at this; omega
  have tbx := s5bx
  clear HAL
  clear hx5 hst5
  rw [HV.out]
  have bwq0 := Xbw_5.out 0 _ rfl
  have bwq1 := Xbw_5.out 1 _ rfl
  have bwq2 := Xbw_5.out 2 _ rfl
  have bwq3 := Xbw_5.out 3 _ rfl
  have bwq4 := Xbw_5.out 4 _ rfl
  have bwq5 := Xbw_5.out 5 _ rfl
  have HAL := Lib.hid ((Below.refl v5.heap.size v5).alloc (Nat.le_refl _) (.cells #[.int .i64 zr0, .int .i64 zr1, .int .i64 zr2, .bool zr3, .bool zr4, .bool zr5] 40))
  go_wp2_with fail
  refine (eqCell_yes _ _ _ _ _ _ _).mono ?_
  rintro e v6 ⟨rfl, hx6⟩
  clear bwq0 bwq1 bwq2 bwq3 bwq4 bwq5
  have hst6 : Below v5.heap.size v5 v6 := HAL.out.trans (hx6.mono (by simp))
  have HO4_5_6 := Lib.hid (HO4_5.out.below (Nat.le_refl _) hst6)
  clear HO4_5
  have HB6 := Lib.hid (HB5.out.trans (hst6.mono z5))
  clear HB5
  have z6 : w.heap.size ≤ v6.heap.size := HB6.out.size
  clear z5
  have c6 : v5.heap.size ≤ v6.heap.size := hst6.size
  have XXa_2_3_4_5_6 := Lib.hid (BoxK.below XXa_2_3_4_5.out hst6 s5a)
  clear XXa_2_3_4_5
  have s6a : w.heap.size < v6.heap.size := Nat.lt_of_lt_of_le s5a hst6.size
  clear s5a
  have Xbw_5_6 := Lib.hid (BoxK.below Xbw_5.out hst6 s5bw)
  clear Xbw_5
  have s6bw : v3.heap.size < v6.heap.size := Nat.lt_of_lt_of_le s5bw hst6.size
  clear s5bw
  have Xbx_6 := Lib.hid (BoxK.below Xbx.out hst6 s5bx)
  clear Xbx
  have s6bx : v4.heap.size < v6.heap.size := Nat.lt_of_lt_of_le s5bx hst6.size
  clear s5bx
  have Xbg := Lib.hid (BoxK.below (BoxK.new v5 [.int .i64 zr0, .int .i64 zr1, .int .i64 zr2, .bool zr3, .bool zr4, .bool zr5] 40) hx6 (by simp))
  have s6bg : v5.heap.size < v6.heap.size := by have := hx6.size; simp at this; omega
  have tbg := s6bg
  clear HAL
  clear hx6 hst6
  have aq0 := XXa_2_3_4_5_6.out 0 _ rfl
  have aq1 := XXa_2_3_4_5_6.out 1 _ rfl
  have aq2 := XXa_2_3_4_5_6.out 2 _ rfl
  have bxq0 := Xbx_6.out 0 _ rfl
  have bxq1 := Xbx_6.out 1 _ rfl
  have bxq2 := Xbx_6.out 2 _ rfl
  go_upto_region 10 with fail
  go_cut [35] (fun s wx => s = .bool false ∧ Below v6.heap.size v6 wx)
  case first =>
    go_region_with (first
      | (go_at_call 17; refine (HT.out _ ?_).mono ?_; exact ⟨HB6.out.os, HB6.out.tape, HB6.out.output, HB6.out.size, HB6.out.block⟩; rintro e y1 ⟨Fy, dy, rfl, hoy, hxy'⟩; have hxy : Below v6.heap.size v6 y1 := undrew hxy'; clear hxy'; have HOY := Lib.hid hoy; have HPY := Lib.hid (HO4_5_6.out.below (Nat.le_refl _) hxy); obtain ⟨r0, r1, r2⟩ : y1.cell? ⟨v4.heap.size, 0, none⟩ = some (.int .i64 gw) ∧ y1.cell? ⟨v4.heap.size, 1, none⟩ = some (.int .i64 gh) ∧ y1.cell? ⟨v4.heap.size, 2, none⟩ = some (.slice F4 n d4) := ⟨BoxK.below Xbx_6.out hxy s6bx 0 _ rfl, BoxK.below Xbx_6.out hxy s6bx 1 _ rfl, BoxK.below Xbx_6.out hxy s6bx 2 _ rfl⟩; have HXY := Lib.hid hxy; have zy := hxy.size; clear hoy hxy)
      | (go_at_call 19; refine (eqG gw gh HPY.out HOY.out (by omega)).mono ?_; rintro e y2 ⟨rfl, hxz⟩))
    all_goals
      have HE := Lib.hid (HXY.out.trans (hxz.mono zy))
      clear hxz
      go_wp2_with fail
      go_meet
      case rel => exact ⟨rfl, HE.out⟩
  case rest =>
    obtain ⟨rfl, hx⟩ := hcut
    clear aq0 aq1 aq2
    clear bxq0 bxq1 bxq2
    have HO4_5_6_7 := Lib.hid (HO4_5_6.out.below (Nat.le_refl _) hx)
    clear HO4_5_6
    have HB7 := Lib.hid (HB6.out.trans (hx.mono z6))
    clear HB6
    have z7 : w.heap.size ≤ wc.heap.size := HB7.out.size
    clear z6
    have c7 : v6.heap.size ≤ wc.heap.size := hx.size
    have XXa_2_3_4_5_6_7 := Lib.hid (BoxK.below XXa_2_3_4_5_6.out hx s6a)
    clear XXa_2_3_4_5_6
    have s7a : w.heap.size < wc.heap.size := Nat.lt_of_lt_of_le s6a hx.size
    clear s6a
    have Xbw_5_6_7 := Lib.hid (BoxK.below Xbw_5_6.out hx s6bw)
    clear Xbw_5_6
    have s7bw : v3.heap.size < wc.heap.size := Nat.lt_of_lt_of_le s6bw hx.size
    clear s6bw
    have Xbx_6_7 := Lib.hid (BoxK.below Xbx_6.out hx s6bx)
    clear Xbx_6
    have s7bx : v4.heap.size < wc.heap.size := Nat.lt_of_lt_of_le s6bx hx.size
    clear s6bx
    have Xbg_7 := Lib.hid (BoxK.below Xbg.out hx s6bg)
    clear Xbg
    have s7bg : v5.heap.size < wc.heap.size := Nat.lt_of_lt_of_le s6bg hx.size
    clear s6bg
    clear hx
    go_wp2_with fail
    go_ret
    exact ⟨rfl, HB7.out⟩
end Go.Proofs.Ytgejjdkgeoojmaa.fnExactGridAt

