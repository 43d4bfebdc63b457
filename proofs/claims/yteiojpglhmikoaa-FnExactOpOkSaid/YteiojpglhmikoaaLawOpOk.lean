/- FnExactOpOk: the walk of the law from the contracts of the program, of its model and of the laws' helpers; at every operation, no condition. -/
import Derived.Test.YteiojpglhmikoaaOqL
import Derived.Test.YteiojpglhmikoaaOqS
import Derived.Test.YteiojpglhmikoaaOqIn
import Derived.Deep.RegionWith
namespace Go.Proofs.Yteiojpglhmikoaa.fnExactOpOk
open Go.RowKit Go.Proofs.Yteiojpglhmikoaa.Bytes Go.Proofs.Yteiojpglhmikoaa.OpOk Go.Proofs.Yteiojpglhmikoaa.Made Go.Proofs.Yteiojpglhmikoaa.Oq
set_option linter.unusedVariables false
theorem empty_size (s : ByteArray) (h : s.toList.isEmpty = true) : s.size = 0 := by
  have h1 : s.toList = [] := by simpa using h
  have h2 : s.toList.length = s.size := by rw [ByteArray.toList_eq]; simp
  rw [h1] at h2; simpa using h2.symm
theorem own : ownKnob Try.prog.godebug = none := by kernel_rfl

set_option maxRecDepth 100000 in
set_option maxHeartbeats 4000000 in
theorem walk (k a b d : Int) (nm tx dr : ByteArray) (A : Option Addr) (n c : Nat) (zs : List Int) (w : World) (w0 : OpIn w nm tx dr A n zs) :
    Calls Try.prog 8 #[.agg #[.int .i64 k, .int .i64 a, .int .i64 b, .int .i64 d, .string nm, .string tx, .string dr, .slice A n c]] w fun e w' => e = .returned (.bool true) ∧ Below w.heap.size w w' := by
  obtain ⟨h1, h2, h3, hr, hl, hnc, hrg⟩ := w0
  have g1 : nm.size ≤ 9223372036854775807 := by unfold maxLen at h1; exact h1
  have g2 : tx.size ≤ 9223372036854775807 := by unfold maxLen at h2; exact h2
  have g4 : dr.size ≤ 9223372036854775807 := by unfold maxLen at h3; exact h3
  have H3 := Lib.hid h3
  have HR := Lib.hid hr
  have HL := Lib.hid hl
  have H1 := Lib.hid h1
  have H2 := Lib.hid h2
  clear hr hl h1 h2 h3 hrg
  by_cases hbig : (nm.size : Int) + tx.size + dr.size + n ≤ 1048576
  · have hn : n ≤ 1099511627776 := by omega
    have a0 : 0 ≤ 1048576 - (nm.size : Int) - tx.size - dr.size - n := by omega
    have HSM := Lib.hid (ok_same k a b d (madeB wb 12 nm.data.toList) nm.toList.isEmpty tx.toList.isEmpty dr.toList.isEmpty tx.size dr.size n (empty_size tx) (empty_size dr))
    cases hv : okS k a b d (madeB wb 12 nm.data.toList) nm.toList.isEmpty tx.toList.isEmpty dr.toList.isEmpty tx.size dr.size n <;> have HV := Lib.hid hv <;> clear hv <;>
    · have hb0 := Lib.hid ((Below.refl w.heap.size w).alloc (Nat.le_refl _) (.cells #[.int .i64 k, .int .i64 a, .int .i64 b, .int .i64 d, .string nm, .string tx, .string dr, .slice A n c] 55))
      have hx0 := Lib.hid (Box8.new w (.int .i64 k) (.int .i64 a) (.int .i64 b) (.int .i64 d) (.string nm) (.string tx) (.string dr) (.slice A n c) 55)
      go_enter Try.func8, Try.ntmps8
      go_wp2_with fail
      refine (szOp_ok k a b d nm tx dr A n c _ _ (by omega) (by omega)).mono ?_
      rintro e v1 ⟨rfl, hb1⟩
      have s1 : w.heap.size < v1.heap.size := by have := hb1.size; simp at this; omega
      have HB1 := Lib.hid (hb0.out.trans (hb1.mono (by simp)))
      have HX1 := Lib.hid (hx0.out.below hb1 (by simp))
      have HR1 := Lib.hid ((HR.out.below (Nat.le_refl _) HB1.out).more (Nat.le_of_lt s1))
      clear hb1 hb0 hx0
      obtain ⟨q0, q1, q2, q3, q4, q5, q6, q7⟩ := HX1.out
      go_wp2_with fail
      refine (toOp_any k a b d nm tx dr A n c zs _ HR1.out HL.out hn).mono ?_
      rintro e v2 ⟨A2, c2, rfl, ho2, hb2⟩
      have s2 : w.heap.size < v2.heap.size := by have := hb2.size; omega
      have HB2 := Lib.hid (HB1.out.trans (hb2.mono (Nat.le_of_lt s1)))
      have HX2 := Lib.hid (HX1.out.below hb2 s1)
      clear q0 q1 q2 q3 q4 q5 q6 q7 hb2 ho2 HR1 HX1 HB1
      go_wp2_with fail
      refine (spec_OpOk_any k a b d nm tx dr A2 n c2 _ H1.out H2.out H3.out hn).mono ?_
      rintro e v3 ⟨rfl, hb3⟩
      rw [HV.out]
      have s3 : w.heap.size < v3.heap.size := by have := hb3.size; omega
      have HB3 := Lib.hid (HB2.out.trans (hb3.mono (Nat.le_of_lt s2)))
      have HX3 := Lib.hid (HX2.out.below hb3 s2)
      have HR3 := Lib.hid ((HR.out.below (Nat.le_refl _) HB3.out).more (Nat.le_of_lt s3))
      clear hb3 HB2 HX2
      obtain ⟨q0, q1, q2, q3, q4, q5, q6, q7⟩ := HX3.out
      go_wp2_with fail
      refine (toOp_any k a b d nm tx dr A n c zs _ HR3.out HL.out hn).mono ?_
      rintro e v4 ⟨A4, c4, rfl, ho4, hb4⟩
      have s4 : w.heap.size < v4.heap.size := by have := hb4.size; omega
      have HB4 := Lib.hid (HB3.out.trans (hb4.mono (Nat.le_of_lt s3)))
      have HX4 := Lib.hid (HX3.out.below hb4 s3)
      have HO4 := Lib.hid ho4.rd
      clear q0 q1 q2 q3 q4 q5 q6 q7 hb4 ho4 HR3 HX3 HB3
      go_wp2_with fail
      refine (impl_OpOk_any k a b d nm tx dr A4 n c4 _ H1.out H2.out H3.out hn).mono ?_
      rintro e v5 ⟨rfl, hb5⟩
      rw [HSM.out, HV.out]
      have hy : Below v4.heap.size v4 (v4.alloc (.cells #[.int .i64 k, .int .i64 a, .int .i64 b, .int .i64 d, .string nm, .string tx, .string dr, .slice A4 n c4] 58)) := (Below.refl _ _).alloc (Nat.le_refl _) _
      have hy5 : Below v4.heap.size v4 v5 := hy.trans (hb5.mono (by simp))
      have s5 : v4.heap.size < v5.heap.size := by have := hb5.size; simp at this; omega
      have HB5 := Lib.hid (HB4.out.trans (hy5.mono (Nat.le_of_lt s4)))
      have HX5 := Lib.hid (HX4.out.below hy5 s4)
      have HY5 := Lib.hid ((Box8.new v4 (.int .i64 k) (.int .i64 a) (.int .i64 b) (.int .i64 d) (.string nm) (.string tx) (.string dr) (.slice A4 n c4) 58).below hb5 (by simp))
      have HR5 := Lib.hid ((HR.out.below (Nat.le_refl _) HB5.out).more (B' := v5.heap.size) (by omega))
      have HO5 := Lib.hid ((HO4.out.below (Nat.le_refl _) hy5).more (B' := v5.heap.size) (by omega))
      clear hb5 hy hy5 HX4 HB4 HO4
      obtain ⟨q0, q1, q2, q3, q4, q5, q6, q7⟩ := HX5.out
      obtain ⟨p0, p1, p2, p3, p4, p5, p6, p7⟩ := HY5.out
      go_wp2_with fail
      go_region_with (first
        | (go_at_call 36; refine (toOp_any k a b d nm tx dr A n c zs _ ?_ HL.out hn).mono ?_; exact rd_drewO HR5.out; rintro e v6 ⟨A6, c6, rfl, ho6, hb6'⟩; have hb6 : Below v5.heap.size v5 v6 := undrewO hb6'; clear hb6'; have HB6 := Lib.hid (HB5.out.trans (Below.mono hb6 (by omega))); have HO6 := Lib.hid ho6.rd; have HP6 := Lib.hid (HO5.out.below (Nat.le_refl _) hb6); have s6 : v5.heap.size ≤ v6.heap.size := hb6.size; obtain ⟨r0, r1, r2, r3, r4, r5, r6, r7⟩ := HY5.out.below hb6 s5; clear hb6 ho6)
        | (go_at_call 38; refine (eqOp_yes k a b d nm tx dr A4 _ n c4 n _ zs _ ?_ ?_ HL.out HL.out hn).mono ?_; exact HP6.out.more s6; exact HO6.out; rintro e v7 ⟨rfl, hb7⟩))
      all_goals
        have HE := Lib.hid (HB6.out.trans (hb7.mono (by omega)))
        clear hb7
        go_wp2_with fail
        go_ret
        exact ⟨rfl, HE.out⟩
  · have hbig' : 1048576 < (nm.size : Int) + tx.size + dr.size + n := by omega
    go_enter Try.func8, Try.ntmps8
    go_wp2_with fail
    refine (szOp_big k a b d nm tx dr A n c _ _ (by omega) (by omega) g1 g2 g4 hnc (by omega)).mono ?_
    rintro e v1 ⟨rfl, hb1⟩
    go_wp2_with fail
    go_ret
    exact ⟨rfl, ((Below.refl _ _).alloc (Nat.le_refl _) _).trans (hb1.mono (by simp))⟩
end Go.Proofs.Yteiojpglhmikoaa.fnExactOpOk

