/- FnExactSnapBytes: the walk of the law from the contracts of the program, of its model and of the laws' helpers; at every input, no condition. -/
import Derived.Test.YteiojpglhmikoaaBytesC
import Derived.Test.YteiojpglhmikoaaBytesM
import Derived.Test.YteiojpglhmikoaaSnapSpec
import Derived.Test.YteiojpglhmikoaaSnapImpl
namespace Go.Proofs.Yteiojpglhmikoaa.fnExactSnapBytes
open Go.RowKit Go.Proofs.Yteiojpglhmikoaa.Bytes Go.Proofs.Yteiojpglhmikoaa.Var Go.Proofs.Yteiojpglhmikoaa.Snap
set_option linter.unusedVariables false
theorem own : ownKnob Try.prog.godebug = none := by kernel_rfl

set_option maxRecDepth 100000 in
set_option maxHeartbeats 4000000 in
theorem walk (a1 a2 : Int) (a0 : Option Addr) (len0 cap0 : Nat) (z0 : List Int) (w : World) (w1 : (Lit.int .i64 a1).wf = true) (w2 : (Lit.int .i64 a2).wf = true) (w0 : IsRow .u8 w a0 len0 cap0 z0) :
    Calls Try.prog 6 #[.int .i64 a1, .int .i64 a2, .slice a0 len0 cap0] w fun e w' => e = .returned (.bool true) ∧ Below w.heap.size w w' := by
  obtain ⟨HR, hl, hA, hrng⟩ := w0.open_
  have hi64 := wf_i64 w1
  clear w0 w1
  generalize z0.take len0 = zs at *
  by_cases hbig : len0 ≤ 1048576
  · have hlen : zs.length ≤ 1048576 := by omega
    have HK := snO_len a1 a2 zs
    have HL := Lib.hid hl
    have HA := Lib.hid hA
    clear hl hA
    go_enter Try.func6, Try.ntmps6
    have hb0 := Below.refl w.heap.size w
    have hs0 : w.heap.size ≤ w.heap.size := Nat.le_refl _
    go_wp2_with fail
    refine (toByteS_any a0 len0 cap0 zs _ ((HR.below (Nat.le_refl _) hb0).more hs0) HL.out (by omega)).mono ?_
    rintro e v1 ⟨A1, c1, rfl, ho1, hx1⟩
    have hb1 := hb0.trans (hx1.mono hs0)
    have hs1 := hb1.size
    have hz1 := hx1.size
    go_wp2_with fail
    refine (spec_SnapBytes_any A1 len0 c1 zs a1 a2 _ (own_none ho1) ho1.rd hrng HL.out (by omega)).mono ?_
    rintro e v2 ⟨A2, n2, c2, rfl, ho2, hx2⟩
    have hb2 := hb1.trans (hx2.mono hs1)
    have hs2 := hb2.size
    have hz2 := hx2.size
    have hk_w0 : ∀ g, (Value.slice A2 n2 c2).ownBlock = some g → v1.heap.size ≤ g ∧ g < v2.heap.size := ho2.blk
    have HK_w0 := Lib.hid hk_w0
    clear hk_w0
    have hn2 : n2 ≤ 1099511627776 := by have := ho2.len; omega
    have ho1_2 := ho1.below (Nat.le_refl _) hx2
    clear ho1
    go_wp2_with fail
    refine (toByteS_any a0 len0 cap0 zs _ ((HR.below (Nat.le_refl _) hb2).more hs2) HL.out (by omega)).mono ?_
    rintro e v3 ⟨A3, c3, rfl, ho3, hx3⟩
    have hb3 := hb2.trans (hx3.mono hs2)
    have hs3 := hb3.size
    have hz3 := hx3.size
    have ho1_2_3 := ho1_2.below (Nat.le_refl _) hx3
    clear ho1_2
    have ho2_3 := ho2.below (Nat.le_refl _) hx3
    clear ho2
    have hk_x0 : ∀ g, (Value.slice A3 len0 c3).ownBlock = some g → v2.heap.size ≤ g ∧ g < v3.heap.size := ho3.blk
    have HK_x0 := Lib.hid hk_x0
    clear hk_x0
    go_wp2_with fail
    refine (impl_SnapBytes_any A3 len0 c3 zs a1 a2 _ (own_none ho3) ho3.rd hrng HL.out (by omega)).mono ?_
    rintro e v4 ⟨A4, n4, c4, rfl, ho4, hx4⟩
    have hb4 := hb3.trans (hx4.mono hs3)
    have hs4 := hb4.size
    have hz4 := hx4.size
    have hn4 : n4 ≤ 1099511627776 := by have := ho4.len; omega
    have ho2_3_4 := ho2_3.below (Nat.le_refl _) hx4
    clear ho2_3
    have ho3_4 := ho3.below (Nat.le_refl _) hx4
    clear ho3
    have hk_g0 : ∀ g, (Value.slice A4 n4 c4).ownBlock = some g → v3.heap.size ≤ g ∧ g < v4.heap.size := ho4.blk
    have HK_g0 := Lib.hid hk_g0
    clear hk_g0
    go_wp2_with fail
    refine (eqByteS_yes A4 A2 n4 c4 n2 c2 _ _ ho4.rd ho2_3_4.rd ho4.len ho2_3_4.len (by omega)).mono ?_
    rintro e v5 ⟨rfl, hx5⟩
    have hb5 := hb4.trans (hx5.mono hs4)
    have hs5 := hb5.size
    have hz5 := hx5.size
    have ho2_3_4_5 := ho2_3_4.below (Nat.le_refl _) hx5
    clear ho2_3_4
    have ho3_4_5 := ho3_4.below (Nat.le_refl _) hx5
    clear ho3_4
    have ho4_5 := ho4.below (Nat.le_refl _) hx5
    clear ho4
    go_wp2_with fail
    refine (toByteS_any a0 len0 cap0 zs _ ((HR.below (Nat.le_refl _) hb5).more hs5) HL.out (by omega)).mono ?_
    rintro e v6 ⟨A6, c6, rfl, ho6, hx6⟩
    have hb6 := hb5.trans (hx6.mono hs5)
    have hs6 := hb6.size
    have hz6 := hx6.size
    have ho2_3_4_5_6 := ho2_3_4_5.below (Nat.le_refl _) hx6
    clear ho2_3_4_5
    have ho3_4_5_6 := ho3_4_5.below (Nat.le_refl _) hx6
    clear ho3_4_5
    have ho4_5_6 := ho4_5.below (Nat.le_refl _) hx6
    clear ho4_5
    go_wp2_with fail
    refine (eqByteS_yes A3 A6 len0 c3 len0 c6 _ _ ho3_4_5_6.rd ho6.rd ho3_4_5_6.len ho6.len (by omega)).mono ?_
    rintro e v7 ⟨rfl, hx7⟩
    have hb7 := hb6.trans (hx7.mono hs6)
    have hs7 := hb7.size
    have hz7 := hx7.size
    have ho2_3_4_5_6_7 := ho2_3_4_5_6.below (Nat.le_refl _) hx7
    clear ho2_3_4_5_6
    have ho3_4_5_6_7 := ho3_4_5_6.below (Nat.le_refl _) hx7
    clear ho3_4_5_6
    have ho4_5_6_7 := ho4_5_6.below (Nat.le_refl _) hx7
    clear ho4_5_6
    have ho6_7 := ho6.below (Nat.le_refl _) hx7
    clear ho6
    go_wp2_with fail
    refine (markByteS_any A3 len0 c3 _ _ 1 _ ho3_4_5_6_7 (by omega) (by omega) (by omega)).mono ?_
    rintro e v8 ⟨rfl, ho8, hg8⟩
    have hb8 := hb7.grown hg8 hs7 (fun g hg => Nat.le_trans (by omega) (ho3_4_5_6_7.blk g hg).1)
    have hs8 := hb8.size
    have ho2_3_4_5_6_7_8 := ho2_3_4_5_6_7.keep hg8 (fun g h1 h2 => by have := (HK_w0.out g h1).2; have := (HK_x0.out g h2).1; omega)
    have ho4_5_6_7_8 := ho4_5_6_7.keep hg8 (fun g h1 h2 => by have := (HK_g0.out g h1).1; have := (HK_x0.out g h2).2; omega)
    go_wp2_with fail
    refine (eqByteS_yes A4 A2 n4 c4 n2 c2 _ _ ho4_5_6_7_8.rd ho2_3_4_5_6_7_8.rd ho4_5_6_7_8.len ho2_3_4_5_6_7_8.len (by omega)).mono ?_
    rintro e v9 ⟨rfl, hx9⟩
    have hb9 := hb8.trans (hx9.mono hs8)
    have hs9 := hb9.size
    have hz9 := hx9.size
    have ho2_3_4_5_6_7_8_9 := ho2_3_4_5_6_7_8.below (Nat.le_refl _) hx9
    clear ho2_3_4_5_6_7_8
    have ho8_9 := ho8.below (Nat.le_refl _) hx9
    clear ho8
    have ho4_5_6_7_8_9 := ho4_5_6_7_8.below (Nat.le_refl _) hx9
    clear ho4_5_6_7_8
    go_wp2_with fail
    refine (markByteS_any A4 n4 c4 _ _ 1 _ ho4_5_6_7_8_9 (by omega) (by omega) (by omega)).mono ?_
    rintro e v10 ⟨rfl, ho10, hg10⟩
    have hb10 := hb9.grown hg10 hs9 (fun g hg => Nat.le_trans (by omega) (ho4_5_6_7_8_9.blk g hg).1)
    have hs10 := hb10.size
    have ho2_3_4_5_6_7_8_9_10 := ho2_3_4_5_6_7_8_9.keep hg10 (fun g h1 h2 => by have := (HK_w0.out g h1).2; have := (HK_g0.out g h2).1; omega)
    go_wp2_with fail
    refine (heldByteS_any A4 n4 c4 1 _ ho10.rd (by omega) (by omega) (by omega)).mono ?_
    rintro e w' ⟨rfl, rfl⟩
    go_wp2_with fail
    refine (toByteS_any a0 len0 cap0 zs _ ((HR.below (Nat.le_refl _) hb10).more hs10) HL.out (by omega)).mono ?_
    rintro e v11 ⟨A11, c11, rfl, ho11, hx11⟩
    have hb11 := hb10.trans (hx11.mono hs10)
    have hs11 := hb11.size
    have hz11 := hx11.size
    have ho2_3_4_5_6_7_8_9_10_11 := ho2_3_4_5_6_7_8_9_10.below (Nat.le_refl _) hx11
    clear ho2_3_4_5_6_7_8_9_10
    have ho10_11 := ho10.below (Nat.le_refl _) hx11
    clear ho10
    go_wp2_with fail
    refine (impl_SnapBytes_any A11 len0 c11 zs a1 a2 _ (own_none ho11) ho11.rd hrng HL.out (by omega)).mono ?_
    rintro e v12 ⟨A12, n12, c12, rfl, ho12, hx12⟩
    have hb12 := hb11.trans (hx12.mono hs11)
    have hs12 := hb12.size
    have hz12 := hx12.size
    have hn12 : n12 ≤ 1099511627776 := by have := ho12.len; omega
    have ho2_3_4_5_6_7_8_9_10_11_12 := ho2_3_4_5_6_7_8_9_10_11.below (Nat.le_refl _) hx12
    clear ho2_3_4_5_6_7_8_9_10_11
    have ho10_11_12 := ho10_11.below (Nat.le_refl _) hx12
    clear ho10_11
    have ho11_12 := ho11.below (Nat.le_refl _) hx12
    clear ho11
    go_wp2_with fail
    refine (eqByteS_yes A12 A2 n12 c12 n2 c2 _ _ ho12.rd ho2_3_4_5_6_7_8_9_10_11_12.rd ho12.len ho2_3_4_5_6_7_8_9_10_11_12.len (by omega)).mono ?_
    rintro e v13 ⟨rfl, hx13⟩
    have hb13 := hb12.trans (hx13.mono hs12)
    have hs13 := hb13.size
    have hz13 := hx13.size
    have ho2_3_4_5_6_7_8_9_10_11_12_13 := ho2_3_4_5_6_7_8_9_10_11_12.below (Nat.le_refl _) hx13
    clear ho2_3_4_5_6_7_8_9_10_11_12
    have ho10_11_12_13 := ho10_11_12.below (Nat.le_refl _) hx13
    clear ho10_11_12
    have ho11_12_13 := ho11_12.below (Nat.le_refl _) hx13
    clear ho11_12
    have ho12_13 := ho12.below (Nat.le_refl _) hx13
    clear ho12
    go_wp2_with fail
    refine (heldByteS_any A4 n4 c4 1 _ ho10_11_12_13.rd (by omega) (by omega) (by omega)).mono ?_
    rintro e w' ⟨rfl, rfl⟩
    go_wp2_with fail
    go_ret
    exact ⟨rfl, hb13⟩
  · have hbig' : 1048576 < len0 := by omega
    go_enter Try.func6, Try.ntmps6
    go_wp2_with fail
    go_ret
    exact ⟨rfl, Below.refl _ _⟩
end Go.Proofs.Yteiojpglhmikoaa.fnExactSnapBytes


