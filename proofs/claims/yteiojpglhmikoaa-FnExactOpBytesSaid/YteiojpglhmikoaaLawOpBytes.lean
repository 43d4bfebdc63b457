/- FnExactOpBytes: the walk of the law from the contracts of the program, of its model and of the laws' helpers; at every operation, no condition. -/
import Derived.Test.YteiojpglhmikoaaOqW
import Derived.Test.YteiojpglhmikoaaOqX
import Derived.Test.YteiojpglhmikoaaOqIn
import Derived.Deep.RegionWith
namespace Go.Proofs.Yteiojpglhmikoaa.fnExactOpBytes
open Go.RowKit Go.Proofs.Yteiojpglhmikoaa.Bytes Go.Proofs.Yteiojpglhmikoaa.OpOk Go.Proofs.Yteiojpglhmikoaa.Made Go.Proofs.Yteiojpglhmikoaa.Oq
set_option linter.unusedVariables false
theorem own : ownKnob Try.prog.godebug = none := by kernel_rfl
set_option maxRecDepth 100000 in
set_option maxHeartbeats 4000000 in
theorem walk (k a b d : Int) (nm tx dr : ByteArray) (A : Option Addr) (n c : Nat) (zs : List Int) (w : World) (w0 : OpIn w nm tx dr A n zs) :
    Calls Try.prog 9 #[.agg #[.int .i64 k, .int .i64 a, .int .i64 b, .int .i64 d, .string nm, .string tx, .string dr, .slice A n c]] w fun e w' => e = .returned (.bool true) ∧ Below w.heap.size w w' := by
  obtain ⟨h1, h2, h3, hr, hl, hnc, hrg⟩ := w0
  have g1 : nm.size ≤ 9223372036854775807 := by unfold maxLen at h1; exact h1
  have g2 : tx.size ≤ 9223372036854775807 := by unfold maxLen at h2; exact h2
  have g4 : dr.size ≤ 9223372036854775807 := by unfold maxLen at h3; exact h3
  have H1 := Lib.hid h1
  have H2 := Lib.hid h2
  have H3 := Lib.hid h3
  have HR := Lib.hid hr
  have HL := Lib.hid hl
  have HG := Lib.hid hrg
  clear hr hl h1 h2 h3 hrg
  by_cases hbig : (nm.size : Int) + tx.size + dr.size + n ≤ 1048576
  · have hn : n ≤ 1099511627776 := by omega
    have a0 : 0 ≤ 1048576 - (nm.size : Int) - tx.size - dr.size - n := by omega
    have HLEN := Lib.hid (HL.out ▸ obO_len k a b d nm tx dr zs)
    have HS := Lib.hid (fun (A' : Option Addr) (c' : Nat) W (hq : Rd W W.heap.size A' zs) (hA : A' = none → n = 0 ∧ c' = 0) => spec_OpBytes_any k a b d nm tx dr A' n c' zs W H1.out H2.out H3.out hn hq HL.out hA HG.out)
    have HI := Lib.hid (fun (A' : Option Addr) (c' : Nat) W (hq : Rd W W.heap.size A' zs) (hA : A' = none → n = 0 ∧ c' = 0) => impl_OpBytes_any k a b d nm tx dr A' n c' zs W H1.out H2.out H3.out hn hq HL.out hA HG.out)
    generalize obO (opOK k a b d nm tx dr n) k a b d nm tx dr zs = out at HLEN HS HI
    generalize opOK k a b d nm tx dr n = okb at HS HI
    cases okb
    all_goals
      have hb0 := Lib.hid ((Below.refl w.heap.size w).alloc (Nat.le_refl _) (.cells #[.int .i64 k, .int .i64 a, .int .i64 b, .int .i64 d, .string nm, .string tx, .string dr, .slice A n c] 55))
      have hx0 := Lib.hid (Box8.new w (.int .i64 k) (.int .i64 a) (.int .i64 b) (.int .i64 d) (.string nm) (.string tx) (.string dr) (.slice A n c) 55)
      go_enter Try.func9, Try.ntmps9
      go_wp2_with fail
      refine (szOp_ok k a b d nm tx dr A n c _ _ (by omega) (by omega)).mono ?_
      rintro e v1 ⟨rfl, hb1⟩
      have s1 : w.heap.size < v1.heap.size := by have := hb1.size; simp at this; omega
      have HB1 := Lib.hid (hb0.out.trans (hb1.mono (by simp)))
      have HX1 := Lib.hid (hx0.out.below hb1 (by simp))
      clear hb1 hb0 hx0
      obtain ⟨q0, q1, q2, q3, q4, q5, q6, q7⟩ := HX1.out
      have HR2 := Lib.hid ((HR.out.below (Nat.le_refl _) HB1.out).more (Nat.le_of_lt s1))
      go_wp2_with fail
      refine (toOp_any k a b d nm tx dr A n c zs _ HR2.out HL.out hn).mono ?_
      rintro e v2 ⟨A2, c2, rfl, ho2, hb2⟩
      have s2 : w.heap.size < v2.heap.size := by have := hb2.size; omega
      have z2 : v1.heap.size ≤ v2.heap.size := hb2.size
      have HB2 := Lib.hid (HB1.out.trans (hb2.mono (Nat.le_of_lt s1)))
      have HX2 := Lib.hid (HX1.out.below hb2 s1)
      have T1 := Lib.hid ho2
      clear hb2 ho2 HR2
      clear q0 q1 q2 q3 q4 q5 q6 q7
      go_wp2_with fail
      refine (HS.out A2 c2 _ T1.out.rd (own_none T1.out)).mono ?_
      rintro e v3 ⟨A3, n3, c3, rfl, ho3, hb3⟩
      have s3 : w.heap.size < v3.heap.size := by have := hb3.size; omega
      have z3 : v2.heap.size ≤ v3.heap.size := hb3.size
      have HB3 := Lib.hid (HB2.out.trans (hb3.mono (Nat.le_of_lt s2)))
      have HX3 := Lib.hid (HX2.out.below hb3 s2)
      have T1_3 := Lib.hid (T1.out.below (Nat.le_refl _) hb3)
      have W0 := Lib.hid ho3
      have hn3 : n3 ≤ 17000 := by have h := ho3.len; have := HLEN.out; omega
      clear hb3 ho3
      obtain ⟨q0, q1, q2, q3, q4, q5, q6, q7⟩ := HX3.out
      have HR4 := Lib.hid ((HR.out.below (Nat.le_refl _) HB3.out).more (Nat.le_of_lt s3))
      go_wp2_with fail
      refine (toOp_any k a b d nm tx dr A n c zs _ HR4.out HL.out hn).mono ?_
      rintro e v4 ⟨A4, c4, rfl, ho4, hb4⟩
      have s4 : w.heap.size < v4.heap.size := by have := hb4.size; omega
      have z4 : v3.heap.size ≤ v4.heap.size := hb4.size
      have HB4 := Lib.hid (HB3.out.trans (hb4.mono (Nat.le_of_lt s3)))
      have HX4 := Lib.hid (HX3.out.below hb4 s3)
      have W0_4 := Lib.hid (W0.out.below (Nat.le_refl _) hb4)
      have X0 := Lib.hid ho4
      clear hb4 ho4 HR4
      clear q0 q1 q2 q3 q4 q5 q6 q7
      have hbx : Below v4.heap.size v4 (v4.alloc (.cells #[.int .i64 k, .int .i64 a, .int .i64 b, .int .i64 d, .string nm, .string tx, .string dr, .slice A4 n c4] 58)) := (Below.refl _ _).alloc (Nat.le_refl _) _
      obtain ⟨v5, hv5⟩ : ∃ v, v = v4.alloc (.cells #[.int .i64 k, .int .i64 a, .int .i64 b, .int .i64 d, .string nm, .string tx, .string dr, .slice A4 n c4] 58) := ⟨_, rfl⟩
      have HY5 := Lib.hid (show Box8 v5 v4.heap.size (.int .i64 k) (.int .i64 a) (.int .i64 b) (.int .i64 d) (.string nm) (.string tx) (.string dr) (.slice A4 n c4) from hv5 ▸ Box8.new v4 (.int .i64 k) (.int .i64 a) (.int .i64 b) (.int .i64 d) (.string nm) (.string tx) (.string dr) (.slice A4 n c4) 58)
      have hb5 : Below v4.heap.size v4 v5 := hv5 ▸ hbx
      have y5 : v4.heap.size < v5.heap.size := by rw [hv5]; simp
      clear hbx
      have s5 : w.heap.size < v5.heap.size := by have := hb5.size; omega
      have z5 : v4.heap.size ≤ v5.heap.size := hb5.size
      have HB5 := Lib.hid (HB4.out.trans (hb5.mono (Nat.le_of_lt s4)))
      have HX5 := Lib.hid (HX4.out.below hb5 s4)
      have W0_5 := Lib.hid (W0_4.out.below (Nat.le_refl _) hb5)
      have X0_5 := Lib.hid (X0.out.below (Nat.le_refl _) hb5)
      have HV5 := Lib.hid hv5
      clear hb5 hv5
      go_wp2_with fail
      rw [← HV5.out]
      refine (HI.out A4 c4 _ X0_5.out.rd (own_none X0_5.out)).mono ?_
      rintro e v6 ⟨A6, n6, c6, rfl, ho6, hb6⟩
      have HY6 := Lib.hid (HY5.out.below hb6 y5)
      have y6 : v4.heap.size < v6.heap.size := by have := hb6.size; omega
      have s6 : w.heap.size < v6.heap.size := by have := hb6.size; omega
      have z6 : v5.heap.size ≤ v6.heap.size := hb6.size
      have HB6 := Lib.hid (HB5.out.trans (hb6.mono (Nat.le_of_lt s5)))
      have HX6 := Lib.hid (HX5.out.below hb6 s5)
      have W0_6 := Lib.hid (W0_5.out.below (Nat.le_refl _) hb6)
      have X0_6 := Lib.hid (X0_5.out.below (Nat.le_refl _) hb6)
      have G0 := Lib.hid ho6
      have hn6 : n6 ≤ 17000 := by have h := ho6.len; have := HLEN.out; omega
      clear hb6 ho6
      go_wp2_with fail
      refine (eqByteS_yes A6 A3 n6 c6 n3 c3 _ _ G0.out.rd W0_6.out.rd G0.out.len W0_6.out.len (by omega)).mono ?_
      rintro e v7 ⟨rfl, hb7⟩
      have HY7 := Lib.hid (HY6.out.below hb7 y6)
      have y7 : v4.heap.size < v7.heap.size := by have := hb7.size; omega
      have s7 : w.heap.size < v7.heap.size := by have := hb7.size; omega
      have z7 : v6.heap.size ≤ v7.heap.size := hb7.size
      have HB7 := Lib.hid (HB6.out.trans (hb7.mono (Nat.le_of_lt s6)))
      have HX7 := Lib.hid (HX6.out.below hb7 s6)
      have W0_7 := Lib.hid (W0_6.out.below (Nat.le_refl _) hb7)
      have X0_7 := Lib.hid (X0_6.out.below (Nat.le_refl _) hb7)
      have G0_7 := Lib.hid (G0.out.below (Nat.le_refl _) hb7)
      clear hb7
      obtain ⟨q0, q1, q2, q3, q4, q5, q6, q7⟩ := HX7.out
      obtain ⟨p0, p1, p2, p3, p4, p5, p6, p7⟩ := HY7.out
      have HR7 := Lib.hid ((HR.out.below (Nat.le_refl _) HB7.out).more (Nat.le_of_lt s7))
      have HXR := Lib.hid (X0_7.out.rd)
      go_wp2_with fail
      go_region_with (first
        | (go_at_call 36; refine (toOp_any k a b d nm tx dr A n c zs _ ?_ HL.out hn).mono ?_; exact rd_drewO HR7.out; rintro e v8 ⟨A8, c8, rfl, ho8, hb8'⟩; have hb8 : Below v7.heap.size v7 v8 := undrewO hb8'; clear hb8'; have HB8 := Lib.hid hb8; have HO8 := Lib.hid ho8.rd; have s8 : v7.heap.size ≤ v8.heap.size := hb8.size; obtain ⟨r0, r1, r2, r3, r4, r5, r6, r7⟩ := HY7.out.below hb8 y7; clear hb8 ho8)
        | (go_at_call 38; refine (eqOp_yes k a b d nm tx dr A4 _ n c4 n _ zs _ ?_ ?_ HL.out HL.out hn).mono ?_; exact (HXR.out.below (Nat.le_refl _) HB8.out).more s8; exact HO8.out; rintro e v9 ⟨rfl, hb9'⟩; have hb9 : Below v7.heap.size v7 v9 := HB8.out.trans (hb9'.mono s8); clear hb9'))
      all_goals
        have HY9 := Lib.hid (HY7.out.below hb9 y7)
        have y9 : v4.heap.size < v9.heap.size := by have := hb9.size; omega
        have s9 : w.heap.size < v9.heap.size := by have := hb9.size; omega
        have z9 : v7.heap.size ≤ v9.heap.size := hb9.size
        have HB9 := Lib.hid (HB7.out.trans (hb9.mono (Nat.le_of_lt s7)))
        have HX9 := Lib.hid (HX7.out.below hb9 s7)
        have W0_9 := Lib.hid (W0_7.out.below (Nat.le_refl _) hb9)
        have X0_9 := Lib.hid (X0_7.out.below (Nat.le_refl _) hb9)
        have G0_9 := Lib.hid (G0_7.out.below (Nat.le_refl _) hb9)
        clear hb9 HXR HR7
        obtain ⟨t0, t1, t2, t3, t4, t5, t6, t7⟩ := HY9.out
        have hk_w0 : ∀ g, (Value.slice A3 n3 c3).ownBlock = some g → v2.heap.size ≤ g ∧ g < v3.heap.size := W0.out.blk
        have hk_x0 : ∀ g, (Value.slice A4 n c4).ownBlock = some g → v3.heap.size ≤ g ∧ g < v4.heap.size := X0.out.blk
        have hk_g0 : ∀ g, (Value.slice A6 n6 c6).ownBlock = some g → v5.heap.size ≤ g ∧ g < v6.heap.size := G0.out.blk
        have HK_w0 := Lib.hid hk_w0
        have HK_x0 := Lib.hid hk_x0
        have HK_g0 := Lib.hid hk_g0
        clear hk_w0 hk_x0 hk_g0
        go_wp2_with fail
        refine (markOp_any k a b d nm tx dr A4 n c4 v3.heap.size _ 1 _ X0_9.out (by omega) (by omega) (by omega) (by omega)).mono ?_
        rintro e v10 ⟨rfl, ho10, hg10⟩
        clear t0 t1 t2 t3 t4 t5 t6 t7
        have hb10 : Below v3.heap.size v9 v10 := (Below.refl v3.heap.size v9).grown hg10 (by omega) (fun g h => (HK_x0.out g h).1)
        have s10 : w.heap.size < v10.heap.size := by have := hg10.size; omega
        have z10 : v9.heap.size ≤ v10.heap.size := hg10.size
        have HB10 := Lib.hid (HB9.out.trans (hb10.mono (by omega)))
        have HX10 := Lib.hid (HX9.out.below hb10 (by omega))
        have W0_10 := Lib.hid (W0_9.out.keep hg10 (fun g h1 h2 => by have := (HK_w0.out g h1).2; have := (HK_x0.out g h2).1; omega))
        have G0_10 := Lib.hid (G0_9.out.keep hg10 (fun g h1 h2 => by have := (HK_g0.out g h1).1; have := (HK_x0.out g h2).2; omega))
        clear ho10 hg10 hb10
        go_wp2_with fail
        refine (eqByteS_yes A6 A3 n6 c6 n3 c3 _ _ G0_10.out.rd W0_10.out.rd G0_10.out.len W0_10.out.len (by omega)).mono ?_
        rintro e v11 ⟨rfl, hb11⟩
        have s11 : w.heap.size < v11.heap.size := by have := hb11.size; omega
        have z11 : v10.heap.size ≤ v11.heap.size := hb11.size
        have HB11 := Lib.hid (HB10.out.trans (hb11.mono (Nat.le_of_lt s10)))
        have HX11 := Lib.hid (HX10.out.below hb11 s10)
        have W0_11 := Lib.hid (W0_10.out.below (Nat.le_refl _) hb11)
        have G0_11 := Lib.hid (G0_10.out.below (Nat.le_refl _) hb11)
        clear hb11
        go_wp2_with fail
        refine (markByteS_any A6 n6 c6 _ _ 1 _ G0_11.out (by omega) (by omega) (by omega)).mono ?_
        rintro e v12 ⟨rfl, ho12, hg12⟩
        have hb12 : Below v5.heap.size v11 v12 := (Below.refl v5.heap.size v11).grown hg12 (by omega) (fun g h => (HK_g0.out g h).1)
        have s12 : w.heap.size < v12.heap.size := by have := hg12.size; omega
        have z12 : v11.heap.size ≤ v12.heap.size := hg12.size
        have HB12 := Lib.hid (HB11.out.trans (hb12.mono (by omega)))
        have HX12 := Lib.hid (HX11.out.below hb12 (by omega))
        have W0_12 := Lib.hid (W0_11.out.keep hg12 (fun g h1 h2 => by have := (HK_w0.out g h1).2; have := (HK_g0.out g h2).1; omega))
        have M0 := Lib.hid ho12
        clear ho12 hg12 hb12
        go_wp2_with fail
        refine (heldByteS_any A6 n6 c6 1 _ M0.out.rd (by omega) (by omega) (by omega)).mono ?_
        rintro e w' ⟨rfl, rfl⟩
        obtain ⟨q0, q1, q2, q3, q4, q5, q6, q7⟩ := HX12.out
        have HR13 := Lib.hid ((HR.out.below (Nat.le_refl _) HB12.out).more (Nat.le_of_lt s12))
        go_wp2_with fail
        refine (toOp_any k a b d nm tx dr A n c zs _ HR13.out HL.out hn).mono ?_
        rintro e v13 ⟨A13, c13, rfl, ho13, hb13⟩
        have s13 : w.heap.size < v13.heap.size := by have := hb13.size; omega
        have z13 : v12.heap.size ≤ v13.heap.size := hb13.size
        have HB13 := Lib.hid (HB12.out.trans (hb13.mono (Nat.le_of_lt s12)))
        have HX13 := Lib.hid (HX12.out.below hb13 s12)
        have W0_13 := Lib.hid (W0_12.out.below (Nat.le_refl _) hb13)
        have M0_13 := Lib.hid (M0.out.below (Nat.le_refl _) hb13)
        have T2 := Lib.hid ho13
        clear hb13 ho13 HR13
        clear q0 q1 q2 q3 q4 q5 q6 q7
        go_wp2_with fail
        refine (HI.out A13 c13 _ T2.out.rd (own_none T2.out)).mono ?_
        rintro e v14 ⟨A14, n14, c14, rfl, ho14, hb14⟩
        have s14 : w.heap.size < v14.heap.size := by have := hb14.size; omega
        have z14 : v13.heap.size ≤ v14.heap.size := hb14.size
        have HB14 := Lib.hid (HB13.out.trans (hb14.mono (Nat.le_of_lt s13)))
        have HX14 := Lib.hid (HX13.out.below hb14 s13)
        have W0_14 := Lib.hid (W0_13.out.below (Nat.le_refl _) hb14)
        have M0_14 := Lib.hid (M0_13.out.below (Nat.le_refl _) hb14)
        have T2_14 := Lib.hid (T2.out.below (Nat.le_refl _) hb14)
        have H0 := Lib.hid ho14
        have hn14 : n14 ≤ 17000 := by have h := ho14.len; have := HLEN.out; omega
        clear hb14 ho14
        go_wp2_with fail
        refine (eqByteS_yes A14 A3 n14 c14 n3 c3 _ _ H0.out.rd W0_14.out.rd H0.out.len W0_14.out.len (by omega)).mono ?_
        rintro e v15 ⟨rfl, hb15⟩
        have s15 : w.heap.size < v15.heap.size := by have := hb15.size; omega
        have z15 : v14.heap.size ≤ v15.heap.size := hb15.size
        have HB15 := Lib.hid (HB14.out.trans (hb15.mono (Nat.le_of_lt s14)))
        have HX15 := Lib.hid (HX14.out.below hb15 s14)
        have W0_15 := Lib.hid (W0_14.out.below (Nat.le_refl _) hb15)
        have M0_15 := Lib.hid (M0_14.out.below (Nat.le_refl _) hb15)
        have H0_15 := Lib.hid (H0.out.below (Nat.le_refl _) hb15)
        clear hb15
        go_wp2_with fail
        refine (heldByteS_any A6 n6 c6 1 _ M0_15.out.rd (by omega) (by omega) (by omega)).mono ?_
        rintro e w' ⟨rfl, rfl⟩
        go_wp2_with fail
        go_ret
        exact ⟨rfl, HB15.out⟩
  · have hbig' : 1048576 < (nm.size : Int) + tx.size + dr.size + n := by omega
    go_enter Try.func9, Try.ntmps9
    go_wp2_with fail
    refine (szOp_big k a b d nm tx dr A n c _ _ (by omega) (by omega) g1 g2 g4 hnc (by omega)).mono ?_
    rintro e v1 ⟨rfl, hb1⟩
    go_wp2_with fail
    go_ret
    exact ⟨rfl, ((Below.refl _ _).alloc (Nat.le_refl _) _).trans (hb1.mono (by simp))⟩
end Go.Proofs.Yteiojpglhmikoaa.fnExactOpBytes
