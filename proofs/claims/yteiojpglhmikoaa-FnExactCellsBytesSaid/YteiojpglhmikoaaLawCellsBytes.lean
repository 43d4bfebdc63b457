/- FnExactCellsBytes: the walk of the law from the contracts of the program, of its model and of the laws' helpers; at every input, no condition. -/
import Derived.Test.YteiojpglhmikoaaBytesM
import Derived.Test.YteiojpglhmikoaaGrMark
import Derived.Test.YteiojpglhmikoaaCbImpl2
import Derived.Test.YteiojpglhmikoaaCbSpec
namespace Go.Proofs.Yteiojpglhmikoaa.fnExactCellsBytes
open Go.RowKit Go.Proofs.Yteiojpglhmikoaa.Bytes Go.Proofs.Yteiojpglhmikoaa.Rows_ Go.Proofs.Yteiojpglhmikoaa.RowK Go.Proofs.Yteiojpglhmikoaa.Gr Go.Proofs.Yteiojpglhmikoaa.Cb Go.Proofs.Yteiojpglhmikoaa.Var
set_option linter.unusedVariables false
theorem own : ownKnob Try.prog.godebug = none := by kernel_rfl
set_option maxRecDepth 100000 in
set_option maxHeartbeats 6400000 in
theorem walk (a0 : Option Addr) (len0 cap0 : Nat) (cs : List CellD) (w : World) (f1 : RdC w w.heap.size a0 cs) (f2 : cs.length = len0) (f3 : len0 ≤ 9223372036854775807) :
    Calls Try.prog 7 #[.slice a0 len0 cap0] w fun e w' => e = .returned (.bool true) ∧ Below w.heap.size w w' := by
  have HSZ := Lib.hid (fun W => szCellS_any a0 len0 cap0 1048576 W f3 (by omega) (by omega))
  have HL := Lib.hid f2
  have HRD := Lib.hid f1
  clear f1 f2
  have HRLN := Lib.hid (fun (hn' : len0 ≤ 1048576) => cbO_len cs HL.out hn' )
  by_cases hbig : (1048576 : Int) < (len0 : Int)
  · rw [if_pos hbig] at HSZ
    clear HRLN
    go_enter Try.func7, Try.ntmps7
    go_wp2_with fail
    refine (HSZ.out _).mono ?_
    rintro e w1 ⟨rfl, rfl⟩
    go_wp2_with fail
    go_ret
    exact ⟨rfl, Below.refl _ _⟩
  · have hlen : len0 ≤ 1048576 := by omega
    have hrl := HRLN.out hlen
    clear HRLN
    rw [if_neg hbig] at HSZ
    clear hbig
    obtain ⟨rzs, hrz⟩ : ∃ l, l = cbO cs := ⟨_, rfl⟩
    obtain ⟨okv, hokv⟩ : ∃ b, b = cbB cs := ⟨_, rfl⟩
    have hne1 : (okv != okv) = false := by simp
    rw [← hrz] at hrl
    have HSpec := Lib.hid (fun (W : World) (F : Option Addr) (d_ B : Nat) (h : OwnC W B F len0 d_ cs) => show Calls Try.prog _ _ W (fun e w' => ∃ A' c', e = .returned (.tuple #[.slice A' rzs.length c', .bool okv]) ∧ Own w' W.heap.size A' rzs.length c' rzs ∧ Below W.heap.size W w') from by rw [hrz, hokv]; exact spec_CellsBytes_any F len0 d_ cs _ h.rd h.len (by omega))
    have HImpl := Lib.hid (fun (W : World) (F : Option Addr) (d_ B : Nat) (h : OwnC W B F len0 d_ cs) => show Calls Try.prog _ _ W (fun e w' => ∃ A' c', e = .returned (.tuple #[.slice A' rzs.length c', .bool okv]) ∧ Own w' W.heap.size A' rzs.length c' rzs ∧ Below W.heap.size W w') from by rw [hrz, hokv]; exact impl_CellsBytes_any F len0 d_ cs _ h.rd h.len (by omega) (fun _ => own_capC h))
    clear hrz hokv
    have hHL : rzs.length ≤ 16777216 := hrl
    clear hrl
    go_enter Try.func7, Try.ntmps7
    go_wp2_with fail
    refine (HSZ.out _).mono ?_
    rintro e w1 ⟨rfl, rfl⟩
    have hb0 := Below.refl w.heap.size w
    have hs0 : w.heap.size ≤ w.heap.size := Nat.le_refl _
    go_wp2_with fail
    refine (toCellS_any a0 len0 cap0 cs _ ((HRD.out.below (Nat.le_refl _) hb0).more hs0) HL.out (by omega)).mono ?_
    rintro e v1 ⟨A1, c1, rfl, ho1, hx1⟩
    have hb1 := hb0.trans (hx1.mono hs0)
    have hs1 := hb1.size
    have hz1 := hx1.size
    have HO1 := Lib.hid ho1
    clear ho1 hx1
    have HK_c0 := Lib.hid (show ∀ g, (Value.slice A1 len0 c1).ownBlock = some g → w.heap.size ≤ g ∧ g < v1.heap.size from fun g hg => HO1.out.blk g hg)
    go_wp2_with fail
    refine (HSpec.out _ _ _ _ HO1.out).mono ?_
    rintro e v2 ⟨A2, c2, rfl, ho2, hx2⟩
    have hb2 := hb1.trans (hx2.mono hs1)
    have hs2 := hb2.size
    have hz2 := hx2.size
    have HO1_2 := Lib.hid (HO1.out.below (Nat.le_refl _) hx2)
    clear HO1
    have HO2 := Lib.hid ho2
    clear ho2 hx2
    have HK_w0 := Lib.hid (show ∀ g, (Value.slice A2 rzs.length c2).ownBlock = some g → v1.heap.size ≤ g ∧ g < v2.heap.size from fun g hg => HO2.out.blk g hg)
    clear HO1_2 HK_c0
    go_wp2_with fail
    refine (toCellS_any a0 len0 cap0 cs _ ((HRD.out.below (Nat.le_refl _) hb2).more hs2) HL.out (by omega)).mono ?_
    rintro e v3 ⟨A3, c3, rfl, ho3, hx3⟩
    have hb3 := hb2.trans (hx3.mono hs2)
    have hs3 := hb3.size
    have hz3 := hx3.size
    have HO2_3 := Lib.hid (HO2.out.below (Nat.le_refl _) hx3)
    clear HO2
    have HO3 := Lib.hid ho3
    clear ho3 hx3
    have HK_x0 := Lib.hid (show ∀ g, (Value.slice A3 len0 c3).ownBlock = some g → v2.heap.size ≤ g ∧ g < v3.heap.size from fun g hg => HO3.out.blk g hg)
    go_wp2_with fail
    refine (HImpl.out _ _ _ _ HO3.out).mono ?_
    rintro e v4 ⟨A4, c4, rfl, ho4, hx4⟩
    have hb4 := hb3.trans (hx4.mono hs3)
    have hs4 := hb4.size
    have hz4 := hx4.size
    have HO2_3_4 := Lib.hid (HO2_3.out.below (Nat.le_refl _) hx4)
    clear HO2_3
    have HO3_4 := Lib.hid (HO3.out.below (Nat.le_refl _) hx4)
    clear HO3
    have HO4 := Lib.hid ho4
    clear ho4 hx4
    have HK_g0 := Lib.hid (show ∀ g, (Value.slice A4 rzs.length c4).ownBlock = some g → v3.heap.size ≤ g ∧ g < v4.heap.size from fun g hg => HO4.out.blk g hg)
    go_wp2_with fail
    refine (eqByteS_yes A4 A2 rzs.length c4 rzs.length c2 _ _ HO4.out.rd HO2_3_4.out.rd HO4.out.len HO2_3_4.out.len (by omega)).mono ?_
    rintro e v5 ⟨rfl, hx5⟩
    have hb5 := hb4.trans (hx5.mono hs4)
    have hs5 := hb5.size
    have hz5 := hx5.size
    have HO2_3_4_5 := Lib.hid (HO2_3_4.out.below (Nat.le_refl _) hx5)
    clear HO2_3_4
    have HO3_4_5 := Lib.hid (HO3_4.out.below (Nat.le_refl _) hx5)
    clear HO3_4
    have HO4_5 := Lib.hid (HO4.out.below (Nat.le_refl _) hx5)
    clear HO4
    clear hx5
    go_wp2_with fail
    refine (toCellS_any a0 len0 cap0 cs _ ((HRD.out.below (Nat.le_refl _) hb5).more hs5) HL.out (by omega)).mono ?_
    rintro e v6 ⟨A6, c6, rfl, ho6, hx6⟩
    have hb6 := hb5.trans (hx6.mono hs5)
    have hs6 := hb6.size
    have hz6 := hx6.size
    have HO2_3_4_5_6 := Lib.hid (HO2_3_4_5.out.below (Nat.le_refl _) hx6)
    clear HO2_3_4_5
    have HO3_4_5_6 := Lib.hid (HO3_4_5.out.below (Nat.le_refl _) hx6)
    clear HO3_4_5
    have HO4_5_6 := Lib.hid (HO4_5.out.below (Nat.le_refl _) hx6)
    clear HO4_5
    have HO6 := Lib.hid ho6
    clear ho6 hx6
    have HK_y0 := Lib.hid (show ∀ g, (Value.slice A6 len0 c6).ownBlock = some g → v5.heap.size ≤ g ∧ g < v6.heap.size from fun g hg => HO6.out.blk g hg)
    go_wp2_with fail
    refine (eqCellS_yes A3 A6 len0 c3 c6 _ _ HO3_4_5_6.out.rd HO6.out.rd HO3_4_5_6.out.len (by omega)).mono ?_
    rintro e v7 ⟨rfl, hx7⟩
    have hb7 := hb6.trans (hx7.mono hs6)
    have hs7 := hb7.size
    have hz7 := hx7.size
    have HO2_3_4_5_6_7 := Lib.hid (HO2_3_4_5_6.out.below (Nat.le_refl _) hx7)
    clear HO2_3_4_5_6
    have HO3_4_5_6_7 := Lib.hid (HO3_4_5_6.out.below (Nat.le_refl _) hx7)
    clear HO3_4_5_6
    have HO4_5_6_7 := Lib.hid (HO4_5_6.out.below (Nat.le_refl _) hx7)
    clear HO4_5_6
    have HO6_7 := Lib.hid (HO6.out.below (Nat.le_refl _) hx7)
    clear HO6
    clear hx7
    clear HO6_7 HK_y0
    go_wp2_with fail
    refine (markCellS_any A3 len0 c3 _ _ 1 _ HO3_4_5_6_7.out (by omega) (by omega) (by omega)).mono ?_
    rintro e v8 ⟨rfl, ho8, hon8⟩
    have HO8 := Lib.hid ho8
    clear ho8
    have hb8 : Below w.heap.size w v8 := Only.below_ hon8 hb7 hs7 (fun i h => Nat.le_trans (by omega) (HK_x0.out i h).1)
    have hs8 := hb8.size
    have hz8 := hon8.size
    have HO2_3_4_5_6_7_8 := Lib.hid (show Own v8 v1.heap.size A2 rzs.length c2 rzs from Only.own HO2_3_4_5_6_7.out hon8 (fun g h1 h2 => by have := HK_w0.out g h1; have := HK_x0.out g h2; omega))
    clear HO2_3_4_5_6_7
    have HO4_5_6_7_8 := Lib.hid (show Own v8 v3.heap.size A4 rzs.length c4 rzs from Only.own HO4_5_6_7.out hon8 (fun g h1 h2 => by have := HK_g0.out g h1; have := HK_x0.out g h2; omega))
    clear HO4_5_6_7
    clear hon8 HO3_4_5_6_7
    go_wp2_with fail
    refine (eqByteS_yes A4 A2 rzs.length c4 rzs.length c2 _ _ HO4_5_6_7_8.out.rd HO2_3_4_5_6_7_8.out.rd HO4_5_6_7_8.out.len HO2_3_4_5_6_7_8.out.len (by omega)).mono ?_
    rintro e v9 ⟨rfl, hx9⟩
    have hb9 := hb8.trans (hx9.mono hs8)
    have hs9 := hb9.size
    have hz9 := hx9.size
    have HO2_3_4_5_6_7_8_9 := Lib.hid (HO2_3_4_5_6_7_8.out.below (Nat.le_refl _) hx9)
    clear HO2_3_4_5_6_7_8
    have HO8_9 := Lib.hid (HO8.out.below (Nat.le_refl _) hx9)
    clear HO8
    have HO4_5_6_7_8_9 := Lib.hid (HO4_5_6_7_8.out.below (Nat.le_refl _) hx9)
    clear HO4_5_6_7_8
    clear hx9
    clear HO8_9 HK_x0
    go_wp2_with fail
    refine (markByteS_any A4 rzs.length c4 _ _ 1 _ HO4_5_6_7_8_9.out (by omega) (by omega) (by omega)).mono ?_
    rintro e v10 ⟨rfl, ho10, hgr10⟩
    have hon10 : Only (fun i => (Value.slice A4 rzs.length c4).ownBlock = some i) v9 v10 := Only.grown hgr10 (fun i h => h)
    clear hgr10
    have HO10 := Lib.hid ho10
    clear ho10
    have hb10 : Below w.heap.size w v10 := Only.below_ hon10 hb9 hs9 (fun i h => Nat.le_trans (by omega) (HK_g0.out i h).1)
    have hs10 := hb10.size
    have hz10 := hon10.size
    have HO2_3_4_5_6_7_8_9_10 := Lib.hid (show Own v10 v1.heap.size A2 rzs.length c2 rzs from Only.own HO2_3_4_5_6_7_8_9.out hon10 (fun g h1 h2 => by have := HK_w0.out g h1; have := HK_g0.out g h2; omega))
    clear HO2_3_4_5_6_7_8_9
    clear hon10 HO4_5_6_7_8_9
    go_wp2_with fail
    refine (heldByteS_any A4 rzs.length c4 1 _ HO10.out.rd (by omega) (by omega) (by omega)).mono ?_
    rintro e w' ⟨rfl, rfl⟩
    go_wp2_with fail
    refine (toCellS_any a0 len0 cap0 cs _ ((HRD.out.below (Nat.le_refl _) hb10).more hs10) HL.out (by omega)).mono ?_
    rintro e v11 ⟨A11, c11, rfl, ho11, hx11⟩
    have hb11 := hb10.trans (hx11.mono hs10)
    have hs11 := hb11.size
    have hz11 := hx11.size
    have HO2_3_4_5_6_7_8_9_10_11 := Lib.hid (HO2_3_4_5_6_7_8_9_10.out.below (Nat.le_refl _) hx11)
    clear HO2_3_4_5_6_7_8_9_10
    have HO10_11 := Lib.hid (HO10.out.below (Nat.le_refl _) hx11)
    clear HO10
    have HO11 := Lib.hid ho11
    clear ho11 hx11
    have HK_c1 := Lib.hid (show ∀ g, (Value.slice A11 len0 c11).ownBlock = some g → v10.heap.size ≤ g ∧ g < v11.heap.size from fun g hg => HO11.out.blk g hg)
    go_wp2_with fail
    refine (HImpl.out _ _ _ _ HO11.out).mono ?_
    rintro e v12 ⟨A12, c12, rfl, ho12, hx12⟩
    have hb12 := hb11.trans (hx12.mono hs11)
    have hs12 := hb12.size
    have hz12 := hx12.size
    have HO2_3_4_5_6_7_8_9_10_11_12 := Lib.hid (HO2_3_4_5_6_7_8_9_10_11.out.below (Nat.le_refl _) hx12)
    clear HO2_3_4_5_6_7_8_9_10_11
    have HO10_11_12 := Lib.hid (HO10_11.out.below (Nat.le_refl _) hx12)
    clear HO10_11
    have HO11_12 := Lib.hid (HO11.out.below (Nat.le_refl _) hx12)
    clear HO11
    have HO12 := Lib.hid ho12
    clear ho12 hx12
    have HK_h0 := Lib.hid (show ∀ g, (Value.slice A12 rzs.length c12).ownBlock = some g → v11.heap.size ≤ g ∧ g < v12.heap.size from fun g hg => HO12.out.blk g hg)
    clear HO11_12 HK_c1
    go_wp2_with fail
    refine (eqByteS_yes A12 A2 rzs.length c12 rzs.length c2 _ _ HO12.out.rd HO2_3_4_5_6_7_8_9_10_11_12.out.rd HO12.out.len HO2_3_4_5_6_7_8_9_10_11_12.out.len (by omega)).mono ?_
    rintro e v13 ⟨rfl, hx13⟩
    have hb13 := hb12.trans (hx13.mono hs12)
    have hs13 := hb13.size
    have hz13 := hx13.size
    have HO2_3_4_5_6_7_8_9_10_11_12_13 := Lib.hid (HO2_3_4_5_6_7_8_9_10_11_12.out.below (Nat.le_refl _) hx13)
    clear HO2_3_4_5_6_7_8_9_10_11_12
    have HO10_11_12_13 := Lib.hid (HO10_11_12.out.below (Nat.le_refl _) hx13)
    clear HO10_11_12
    have HO12_13 := Lib.hid (HO12.out.below (Nat.le_refl _) hx13)
    clear HO12
    clear hx13
    go_wp2_with fail
    refine (heldByteS_any A4 rzs.length c4 1 _ HO10_11_12_13.out.rd (by omega) (by omega) (by omega)).mono ?_
    rintro e w' ⟨rfl, rfl⟩
    go_wp2_with fail
    go_ret
    exact ⟨rfl, hb13⟩
end Go.Proofs.Yteiojpglhmikoaa.fnExactCellsBytes

