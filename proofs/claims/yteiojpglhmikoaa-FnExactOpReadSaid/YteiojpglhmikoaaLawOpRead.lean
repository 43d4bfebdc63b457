/- FnExactOpRead: the walk of the law from the contracts of the program, of its model and of the laws' helpers; at every list of bytes, no condition. -/
import Derived.Test.YteiojpglhmikoaaOqU
import Derived.Test.YteiojpglhmikoaaOqH
import Derived.Test.YteiojpglhmikoaaBytesC
import Derived.Deep.Cut
namespace Go.Proofs.Yteiojpglhmikoaa.fnExactOpRead
open Go.RowKit Go.Proofs.Yteiojpglhmikoaa.Bytes Go.Proofs.Yteiojpglhmikoaa.OpOk Go.Proofs.Yteiojpglhmikoaa.Made Go.Proofs.Yteiojpglhmikoaa.Oq Go.Proofs.Yteiojpglhmikoaa.Var
set_option linter.unusedVariables false
theorem own : ownKnob Try.prog.godebug = none := by kernel_rfl
theorem Box8.grown {w w' : World} {b : Nat} {row : Option Nat} {x0 x1 x2 x3 x4 x5 x6 x7 : Value} (h : Box8 w b x0 x1 x2 x3 x4 x5 x6 x7) (hg : w.grownBy w' row) (hlt : b < w.heap.size) (hne : some b ≠ row) : Box8 w' b x0 x1 x2 x3 x4 x5 x6 x7 := by
  have e : ∀ i, w'.cell? ⟨b, i, none⟩ = w.cell? ⟨b, i, none⟩ := fun i => World.cell?_of_block (a := ⟨b, i, none⟩) (hg.block b hlt hne)
  exact ⟨(e 0).trans h.1, (e 1).trans h.2.1, (e 2).trans h.2.2.1, (e 3).trans h.2.2.2.1, (e 4).trans h.2.2.2.2.1, (e 5).trans h.2.2.2.2.2.1, (e 6).trans h.2.2.2.2.2.2.1, (e 7).trans h.2.2.2.2.2.2.2⟩
set_option maxRecDepth 100000 in
set_option maxHeartbeats 4000000 in
theorem walk (a0 : Option Addr) (len0 cap0 : Nat) (z0 : List Int) (w : World) (w0 : IsRow .u8 w a0 len0 cap0 z0) :
    Calls Try.prog 10 #[.slice a0 len0 cap0] w fun e w' => e = .returned (.bool true) ∧ Below w.heap.size w w' := by
  obtain ⟨hr, hl, hA, hrng⟩ := w0.open_
  clear w0
  generalize z0.take len0 = zs at *
  by_cases hbig : len0 ≤ 1048576
  · have hn : len0 ≤ 1099511627776 := by omega
    have HR := Lib.hid hr
    have HL := Lib.hid hl
    have HG := Lib.hid hrng
    have HLEN := Lib.hid (ansS_len zs)
    have HS := Lib.hid (fun (A' : Option Addr) (c' : Nat) W (hq : Rd W W.heap.size A' zs) (hA : A' = none → len0 = 0 ∧ c' = 0) (hnc : len0 ≤ c') => spec_OpRead_any A' len0 c' zs W hq hrng hl hn hnc hA)
    have HI := Lib.hid (fun (A' : Option Addr) (c' : Nat) W (hq : Rd W W.heap.size A' zs) (hA : A' = none → len0 = 0 ∧ c' = 0) (hnc : len0 ≤ c') => impl_OpRead_any A' len0 c' zs W hq hrng hl hn hnc hA)
    unfold RdSp ansV at HS
    unfold RdAns ansV at HI
    clear hr hl hA hrng
    generalize ansS zs = ds at HS HI HLEN
    generalize aI (rdB zs) (gvN zs 0) = f0 at HS HI
    generalize aI (rdB zs) (gvN zs (q1 zs)) = f1 at HS HI
    generalize aI (rdB zs) (gvN zs (q2 zs)) = f2 at HS HI
    generalize aI (rdB zs) (gvN zs (q3 zs)) = f3 at HS HI
    generalize aT (rdB zs) (gtS zs (q4 zs)) = f4 at HS HI
    generalize aT (rdB zs) (gtS zs (q5 zs)) = f5 at HS HI
    generalize aT (rdB zs) (gtS zs (q6 zs)) = f6 at HS HI
    generalize rdB zs = okb at HS HI
    cases okb
    all_goals
      have HB0 := Lib.hid (Below.refl w.heap.size w)
      have s0 : w.heap.size ≤ w.heap.size := Nat.le_refl _
      go_enter Try.func10, Try.ntmps10
      go_wp2_with fail
      refine (toByteS_any a0 len0 cap0 zs _ ((HR.out.below (Nat.le_refl _) HB0.out).more s0) HL.out hn).mono ?_
      rintro e v1 ⟨A1, c1, rfl, ho1, hb1⟩
      have z1 : w.heap.size ≤ v1.heap.size := hb1.size
      have s1 : w.heap.size ≤ v1.heap.size := Nat.le_trans s0 z1
      have HB1 := Lib.hid (HB0.out.trans (hb1.mono s0))
      have T1 := Lib.hid ho1
      clear hb1 ho1
      go_wp2_with fail
      refine (HS.out A1 c1 _ T1.out.rd (own_none T1.out) T1.out.cap).mono ?_
      rintro e v2 ⟨A2, n2, c2, rfl, hq2, hl2, hblk2, hb2⟩
      have z2 : v1.heap.size ≤ v2.heap.size := hb2.size
      have s2 : w.heap.size ≤ v2.heap.size := Nat.le_trans s1 z2
      have HB2 := Lib.hid (HB1.out.trans (hb2.mono s1))
      have RW := Lib.hid hq2
      have HL2 := Lib.hid hl2
      have hn2 : n2 ≤ 4000 := by have := HLEN.out; omega
      clear hb2 hq2 hl2 hblk2
      obtain ⟨v3, hv3⟩ : ∃ v, v = v2.alloc (.cells #[.int .i64 f0, .int .i64 f1, .int .i64 f2, .int .i64 f3, .string f4, .string f5, .string f6, .slice A2 n2 c2] 58) := ⟨_, rfl⟩
      have BW := Lib.hid (show Box8 v3 v2.heap.size (.int .i64 f0) (.int .i64 f1) (.int .i64 f2) (.int .i64 f3) (.string f4) (.string f5) (.string f6) (.slice A2 n2 c2) from hv3 ▸ Box8.new v2 (.int .i64 f0) (.int .i64 f1) (.int .i64 f2) (.int .i64 f3) (.string f4) (.string f5) (.string f6) (.slice A2 n2 c2) 58)
      have hb3 : Below v2.heap.size v2 v3 := hv3 ▸ (Below.refl _ _).alloc (Nat.le_refl _) _
      have lt3 : v2.heap.size < v3.heap.size := by rw [hv3]; simp
      have z3 : v2.heap.size ≤ v3.heap.size := hb3.size
      have s3 : w.heap.size ≤ v3.heap.size := Nat.le_trans s2 z3
      have HB3 := Lib.hid (HB2.out.trans (hb3.mono s2))
      have RW_3 := Lib.hid (RW.out.below (by omega) hb3)
      have HV3 := Lib.hid hv3
      clear hb3 hv3
      go_wp2_with fail
      rw [← HV3.out]
      go_wp2_with fail
      refine (toByteS_any a0 len0 cap0 zs _ ((HR.out.below (Nat.le_refl _) HB3.out).more s3) HL.out hn).mono ?_
      rintro e v4 ⟨A4, c4, rfl, ho4, hb4⟩
      have z4 : v3.heap.size ≤ v4.heap.size := hb4.size
      have s4 : w.heap.size ≤ v4.heap.size := Nat.le_trans s3 z4
      have HB4 := Lib.hid (HB3.out.trans (hb4.mono s3))
      have RW_4 := Lib.hid (RW_3.out.below (by omega) hb4)
      have BW_4 := Lib.hid (BW.out.below hb4 (by omega))
      have X0 := Lib.hid ho4
      clear hb4 ho4
      go_wp2_with fail
      refine (HI.out A4 c4 _ X0.out.rd (own_none X0.out) X0.out.cap).mono ?_
      rintro e v5 ⟨A5, n5, c5, rfl, ho5, hb5⟩
      have z5 : v4.heap.size ≤ v5.heap.size := hb5.size
      have s5 : w.heap.size ≤ v5.heap.size := Nat.le_trans s4 z5
      have HB5 := Lib.hid (HB4.out.trans (hb5.mono s4))
      have RW_5 := Lib.hid (RW_4.out.below (by omega) hb5)
      have BW_5 := Lib.hid (BW_4.out.below hb5 (by omega))
      have X0_5 := Lib.hid (X0.out.below (Nat.le_refl _) hb5)
      have G0 := Lib.hid ho5
      have hn5 : n5 ≤ 4000 := by have h := ho5.len; have := HLEN.out; omega
      clear hb5 ho5
      obtain ⟨v6, hv6⟩ : ∃ v, v = v5.alloc (.cells #[.int .i64 f0, .int .i64 f1, .int .i64 f2, .int .i64 f3, .string f4, .string f5, .string f6, .slice A5 n5 c5] 58) := ⟨_, rfl⟩
      have BG := Lib.hid (show Box8 v6 v5.heap.size (.int .i64 f0) (.int .i64 f1) (.int .i64 f2) (.int .i64 f3) (.string f4) (.string f5) (.string f6) (.slice A5 n5 c5) from hv6 ▸ Box8.new v5 (.int .i64 f0) (.int .i64 f1) (.int .i64 f2) (.int .i64 f3) (.string f4) (.string f5) (.string f6) (.slice A5 n5 c5) 58)
      have hb6 : Below v5.heap.size v5 v6 := hv6 ▸ (Below.refl _ _).alloc (Nat.le_refl _) _
      have lt6 : v5.heap.size < v6.heap.size := by rw [hv6]; simp
      have z6 : v5.heap.size ≤ v6.heap.size := hb6.size
      have s6 : w.heap.size ≤ v6.heap.size := Nat.le_trans s5 z6
      have HB6 := Lib.hid (HB5.out.trans (hb6.mono s5))
      have RW_6 := Lib.hid (RW_5.out.below (by omega) hb6)
      have BW_6 := Lib.hid (BW_5.out.below hb6 (by omega))
      have X0_6 := Lib.hid (X0_5.out.below (Nat.le_refl _) hb6)
      have G0_6 := Lib.hid (G0.out.below (Nat.le_refl _) hb6)
      have HV6 := Lib.hid hv6
      clear hb6 hv6
      have HKX := Lib.hid (show ∀ g, (Value.slice A4 len0 c4).ownBlock = some g → v3.heap.size ≤ g ∧ g < v4.heap.size from X0.out.blk)
      have HKG := Lib.hid (show ∀ g, (Value.slice A5 n5 c5).ownBlock = some g → v4.heap.size ≤ g ∧ g < v5.heap.size from G0.out.blk)
      obtain ⟨p0, p1, p2, p3, p4, p5, p6, p7⟩ := BW_6.out
      obtain ⟨q0, q1, q2, q3, q4, q5, q6, q7⟩ := BG.out
      go_upto_region 6 with fail
      rw [← HV6.out]
      go_wp2_with fail
      refine (eqOp_yes f0 f1 f2 f3 f4 f5 f6 A5 A2 n5 c5 n2 c2 ds _ G0_6.out.rd (RW_6.out.more (by omega)) G0_6.out.len HL2.out (by omega)).mono ?_
      rintro e v7 ⟨rfl, hb7⟩
      clear p0 p1 p2 p3 p4 p5 p6 p7
      clear q0 q1 q2 q3 q4 q5 q6 q7
      have z7 : v6.heap.size ≤ v7.heap.size := hb7.size
      have s7 : w.heap.size ≤ v7.heap.size := Nat.le_trans s6 z7
      have HB7 := Lib.hid (HB6.out.trans (hb7.mono s6))
      have RW_7 := Lib.hid (RW_6.out.below (by omega) hb7)
      have BW_7 := Lib.hid (BW_6.out.below hb7 (by omega))
      have X0_7 := Lib.hid (X0_6.out.below (Nat.le_refl _) hb7)
      have G0_7 := Lib.hid (G0_6.out.below (Nat.le_refl _) hb7)
      have BG_7 := Lib.hid (BG.out.below hb7 (by omega))
      clear hb7
      go_wp2_with fail
      refine (toByteS_any a0 len0 cap0 zs _ ((HR.out.below (Nat.le_refl _) HB7.out).more s7) HL.out hn).mono ?_
      rintro e v8 ⟨A8, c8, rfl, ho8, hb8⟩
      have z8 : v7.heap.size ≤ v8.heap.size := hb8.size
      have s8 : w.heap.size ≤ v8.heap.size := Nat.le_trans s7 z8
      have HB8 := Lib.hid (HB7.out.trans (hb8.mono s7))
      have RW_8 := Lib.hid (RW_7.out.below (by omega) hb8)
      have BW_8 := Lib.hid (BW_7.out.below hb8 (by omega))
      have X0_8 := Lib.hid (X0_7.out.below (Nat.le_refl _) hb8)
      have G0_8 := Lib.hid (G0_7.out.below (Nat.le_refl _) hb8)
      have BG_8 := Lib.hid (BG_7.out.below hb8 (by omega))
      have Y8 := Lib.hid ho8
      clear hb8 ho8
      go_wp2_with fail
      refine (eqByteS_yes A4 A8 len0 c4 len0 c8 _ _ X0_8.out.rd Y8.out.rd X0_8.out.len Y8.out.len hn).mono ?_
      rintro e v9 ⟨rfl, hb9⟩
      have z9 : v8.heap.size ≤ v9.heap.size := hb9.size
      have s9 : w.heap.size ≤ v9.heap.size := Nat.le_trans s8 z9
      have HB9 := Lib.hid (HB8.out.trans (hb9.mono s8))
      have RW_9 := Lib.hid (RW_8.out.below (by omega) hb9)
      have BW_9 := Lib.hid (BW_8.out.below hb9 (by omega))
      have X0_9 := Lib.hid (X0_8.out.below (Nat.le_refl _) hb9)
      have G0_9 := Lib.hid (G0_8.out.below (Nat.le_refl _) hb9)
      have BG_9 := Lib.hid (BG_8.out.below hb9 (by omega))
      clear hb9
      go_wp2_with fail
      refine (markByteS_any A4 len0 c4 _ _ 1 _ X0_9.out hn (by omega) (by omega)).mono ?_
      rintro e v10 ⟨rfl, ho10, hg10⟩
      have hb10 : Below v3.heap.size v9 v10 := (Below.refl v3.heap.size v9).grown hg10 (by omega) (fun g h => (HKX.out g h).1)
      have z10 : v9.heap.size ≤ v10.heap.size := hg10.size
      have s10 : w.heap.size ≤ v10.heap.size := Nat.le_trans s9 z10
      have HB10 := Lib.hid (HB9.out.trans (hb10.mono (by omega)))
      have RW_10 := Lib.hid (RW_9.out.below (B' := v3.heap.size) (by omega) hb10)
      have BW_10 := Lib.hid (BW_9.out.below hb10 lt3)
      have G0_10 := Lib.hid (G0_9.out.keep hg10 (fun g h1 h2 => by have := (HKG.out g h1).1; have := (HKX.out g h2).2; omega))
      have BG_10 := Lib.hid (Box8.grown BG_9.out hg10 (by omega) (fun e => by have := (HKX.out _ e.symm).2; omega))
      clear ho10 hg10 hb10
      obtain ⟨p0, p1, p2, p3, p4, p5, p6, p7⟩ := BW_10.out
      obtain ⟨q0, q1, q2, q3, q4, q5, q6, q7⟩ := BG_10.out
      go_wp2_with fail
      refine (eqOp_yes f0 f1 f2 f3 f4 f5 f6 A5 A2 n5 c5 n2 c2 ds _ G0_10.out.rd (RW_10.out.more (by omega)) G0_10.out.len HL2.out (by omega)).mono ?_
      rintro e v11 ⟨rfl, hb11⟩
      clear p0 p1 p2 p3 p4 p5 p6 p7
      clear q0 q1 q2 q3 q4 q5 q6 q7
      have z11 : v10.heap.size ≤ v11.heap.size := hb11.size
      have s11 : w.heap.size ≤ v11.heap.size := Nat.le_trans s10 z11
      have HB11 := Lib.hid (HB10.out.trans (hb11.mono s10))
      have RW_11 := Lib.hid (RW_10.out.below (by omega) hb11)
      have BW_11 := Lib.hid (BW_10.out.below hb11 (by omega))
      have G0_11 := Lib.hid (G0_10.out.below (Nat.le_refl _) hb11)
      have BG_11 := Lib.hid (BG_10.out.below hb11 (by omega))
      clear hb11
      obtain ⟨q0, q1, q2, q3, q4, q5, q6, q7⟩ := BG_11.out
      go_wp2_with fail
      refine (markOp_any f0 f1 f2 f3 f4 f5 f6 A5 n5 c5 v4.heap.size _ 1 _ G0_11.out (by omega) (by omega) (by omega) (by omega)).mono ?_
      rintro e v12 ⟨rfl, ho12, hg12⟩
      have hb12 : Below v4.heap.size v11 v12 := (Below.refl v4.heap.size v11).grown hg12 (by omega) (fun g h => (HKG.out g h).1)
      have z12 : v11.heap.size ≤ v12.heap.size := hg12.size
      have s12 : w.heap.size ≤ v12.heap.size := Nat.le_trans s11 z12
      have HB12 := Lib.hid (HB11.out.trans (hb12.mono (by omega)))
      have RW_12 := Lib.hid (RW_11.out.below (B' := v4.heap.size) (by omega) hb12)
      have BW_12 := Lib.hid (BW_11.out.below hb12 (by omega))
      have BG_12 := Lib.hid (Box8.grown BG_11.out hg12 (by omega) (fun e => by have := (HKG.out _ e.symm).2; omega))
      have M0 := Lib.hid ho12
      clear ho12 hg12 hb12
      clear q0 q1 q2 q3 q4 q5 q6 q7
      obtain ⟨q0, q1, q2, q3, q4, q5, q6, q7⟩ := BG_12.out
      go_wp2_with fail
      refine (heldOp_any f0 f1 f2 f3 f4 f5 f6 A5 n5 c5 1 _ M0.out.rd (by omega) (by omega) (by omega)).mono ?_
      rintro e v13 ⟨rfl, hb13⟩
      clear q0 q1 q2 q3 q4 q5 q6 q7
      have z13 : v12.heap.size ≤ v13.heap.size := hb13.size
      have s13 : w.heap.size ≤ v13.heap.size := Nat.le_trans s12 z13
      have HB13 := Lib.hid (HB12.out.trans (hb13.mono s12))
      have RW_13 := Lib.hid (RW_12.out.below (by omega) hb13)
      have BW_13 := Lib.hid (BW_12.out.below hb13 (by omega))
      have BG_13 := Lib.hid (BG_12.out.below hb13 (by omega))
      have M0_13 := Lib.hid (M0.out.below (Nat.le_refl _) hb13)
      clear hb13
      go_wp2_with fail
      refine (toByteS_any a0 len0 cap0 zs _ ((HR.out.below (Nat.le_refl _) HB13.out).more s13) HL.out hn).mono ?_
      rintro e v14 ⟨A14, c14, rfl, ho14, hb14⟩
      have z14 : v13.heap.size ≤ v14.heap.size := hb14.size
      have s14 : w.heap.size ≤ v14.heap.size := Nat.le_trans s13 z14
      have HB14 := Lib.hid (HB13.out.trans (hb14.mono s13))
      have RW_14 := Lib.hid (RW_13.out.below (by omega) hb14)
      have BW_14 := Lib.hid (BW_13.out.below hb14 (by omega))
      have BG_14 := Lib.hid (BG_13.out.below hb14 (by omega))
      have M0_14 := Lib.hid (M0_13.out.below (Nat.le_refl _) hb14)
      have T14 := Lib.hid ho14
      clear hb14 ho14
      go_wp2_with fail
      refine (HI.out A14 c14 _ T14.out.rd (own_none T14.out) T14.out.cap).mono ?_
      rintro e v15 ⟨A15, n15, c15, rfl, ho15, hb15⟩
      have z15 : v14.heap.size ≤ v15.heap.size := hb15.size
      have s15 : w.heap.size ≤ v15.heap.size := Nat.le_trans s14 z15
      have HB15 := Lib.hid (HB14.out.trans (hb15.mono s14))
      have RW_15 := Lib.hid (RW_14.out.below (by omega) hb15)
      have BW_15 := Lib.hid (BW_14.out.below hb15 (by omega))
      have BG_15 := Lib.hid (BG_14.out.below hb15 (by omega))
      have M0_15 := Lib.hid (M0_14.out.below (Nat.le_refl _) hb15)
      have H0 := Lib.hid ho15
      have hn15 : n15 ≤ 4000 := by have h := ho15.len; have := HLEN.out; omega
      clear hb15 ho15
      obtain ⟨v16, hv16⟩ : ∃ v, v = v15.alloc (.cells #[.int .i64 f0, .int .i64 f1, .int .i64 f2, .int .i64 f3, .string f4, .string f5, .string f6, .slice A15 n15 c15] 58) := ⟨_, rfl⟩
      have BH := Lib.hid (show Box8 v16 v15.heap.size (.int .i64 f0) (.int .i64 f1) (.int .i64 f2) (.int .i64 f3) (.string f4) (.string f5) (.string f6) (.slice A15 n15 c15) from hv16 ▸ Box8.new v15 (.int .i64 f0) (.int .i64 f1) (.int .i64 f2) (.int .i64 f3) (.string f4) (.string f5) (.string f6) (.slice A15 n15 c15) 58)
      have hb16 : Below v15.heap.size v15 v16 := hv16 ▸ (Below.refl _ _).alloc (Nat.le_refl _) _
      have lt16 : v15.heap.size < v16.heap.size := by rw [hv16]; simp
      have z16 : v15.heap.size ≤ v16.heap.size := hb16.size
      have s16 : w.heap.size ≤ v16.heap.size := Nat.le_trans s15 z16
      have HB16 := Lib.hid (HB15.out.trans (hb16.mono s15))
      have RW_16 := Lib.hid (RW_15.out.below (by omega) hb16)
      have BW_16 := Lib.hid (BW_15.out.below hb16 (by omega))
      have BG_16 := Lib.hid (BG_15.out.below hb16 (by omega))
      have M0_16 := Lib.hid (M0_15.out.below (Nat.le_refl _) hb16)
      have H0_16 := Lib.hid (H0.out.below (Nat.le_refl _) hb16)
      have HV16 := Lib.hid hv16
      clear hb16 hv16
      obtain ⟨p0, p1, p2, p3, p4, p5, p6, p7⟩ := BW_16.out
      obtain ⟨q0, q1, q2, q3, q4, q5, q6, q7⟩ := BH.out
      go_upto_region 23 with fail
      rw [← HV16.out]
      go_wp2_with fail
      refine (eqOp_yes f0 f1 f2 f3 f4 f5 f6 A15 A2 n15 c15 n2 c2 ds _ H0_16.out.rd (RW_16.out.more (by omega)) H0_16.out.len HL2.out (by omega)).mono ?_
      rintro e v17 ⟨rfl, hb17⟩
      clear p0 p1 p2 p3 p4 p5 p6 p7
      clear q0 q1 q2 q3 q4 q5 q6 q7
      have z17 : v16.heap.size ≤ v17.heap.size := hb17.size
      have s17 : w.heap.size ≤ v17.heap.size := Nat.le_trans s16 z17
      have HB17 := Lib.hid (HB16.out.trans (hb17.mono s16))
      have RW_17 := Lib.hid (RW_16.out.below (by omega) hb17)
      have BW_17 := Lib.hid (BW_16.out.below hb17 (by omega))
      have BG_17 := Lib.hid (BG_16.out.below hb17 (by omega))
      have M0_17 := Lib.hid (M0_16.out.below (Nat.le_refl _) hb17)
      have H0_17 := Lib.hid (H0_16.out.below (Nat.le_refl _) hb17)
      have BH_17 := Lib.hid (BH.out.below hb17 (by omega))
      clear hb17
      obtain ⟨q0, q1, q2, q3, q4, q5, q6, q7⟩ := BG_17.out
      go_wp2_with fail
      refine (heldOp_any f0 f1 f2 f3 f4 f5 f6 A5 n5 c5 1 _ M0_17.out.rd (by omega) (by omega) (by omega)).mono ?_
      rintro e v18 ⟨rfl, hb18⟩
      clear q0 q1 q2 q3 q4 q5 q6 q7
      have HB18 := Lib.hid (HB17.out.trans (hb18.mono s17))
      clear hb18
      go_wp2_with fail
      go_ret
      exact ⟨rfl, HB18.out⟩
  · have hbig' : 1048576 < len0 := by omega
    go_enter Try.func10, Try.ntmps10
    go_wp2_with fail
    go_ret
    exact ⟨rfl, Below.refl _ _⟩
end Go.Proofs.Yteiojpglhmikoaa.fnExactOpRead
