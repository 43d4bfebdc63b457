/- FnExactJournalBytes: the walk of the law from the contracts of the program, of its model and of the laws' helpers; at every input, no condition. -/
import Derived.Test.YteiojpglhmikoaaBytesC
import Derived.Test.YteiojpglhmikoaaBytesM
import Derived.Test.YteiojpglhmikoaaJourBytes
import Derived.Test.YteiojpglhmikoaaLoadMarks
import Derived.Test.YteiojpglhmikoaaLoadEq
namespace Go.Proofs.Yteiojpglhmikoaa.fnExactJournalBytes
open Go.RowKit Go.Proofs.Yteiojpglhmikoaa.Bytes Go.Proofs.Yteiojpglhmikoaa.Var Go.Proofs.Yteiojpglhmikoaa.Frame Go.Proofs.Yteiojpglhmikoaa.Loads
set_option linter.unusedVariables false
theorem own : ownKnob Try.prog.godebug = none := by kernel_rfl

set_option maxRecDepth 100000 in
set_option maxHeartbeats 6400000 in
theorem walk (a1 : Int) (a0 : Option Addr) (len0 cap0 : Nat) (fs : List LoadD) (w : World) (w1 : (Lit.int .i64 a1).wf = true) (f1 : RdLo w w.heap.size a0 fs) (f2 : fs.length = len0) (f3 : len0 ≤ maxLen) (f4 : ∀ x ∈ fs, x.n ≤ maxLen ∧ Rd w w.heap.size x.A x.bytes ∧ x.bytes.length = x.n ∧ Rng x.bytes ∧ (x.A = none → x.n = 0 ∧ x.c = 0)) :
    Calls Try.prog 5 #[.int .i64 a1, .slice a0 len0 cap0] w fun e w' => e = .returned (.bool true) ∧ Below w.heap.size w w' := by
  have hi64 := wf_i64 w1
  have hlen63 : len0 ≤ 9223372036854775807 := by unfold maxLen at f3; omega
  have hfn63 : ∀ x ∈ fs, x.n ≤ 9223372036854775807 := fun x hx => by have := (f4 x hx).1; unfold maxLen at this; omega
  have HSZ := Lib.hid (szLoadS_any a0 len0 cap0 fs 1048576 w f1 f2 hlen63 hfn63 (by omega) (by omega))
  have HRD := Lib.hid f1
  have HL := Lib.hid f2
  have HB := Lib.hid (show RdBs w w.heap.size fs from fun g hg => ⟨(f4 g hg).2.1, (f4 g hg).2.2.1, (f4 g hg).2.2.2.1⟩)
  have HRNG := Lib.hid (show ∀ g ∈ fs, Rng g.bytes from fun g hg => (f4 g hg).2.2.2.1)
  have HTM := Lib.hid (fun x hx => tot_mem (gs := fs) (g := x) hx)
  clear w1 f1 f2 f3 f4 hlen63 hfn63
  go_enter Try.func5, Try.ntmps5
  go_wp2_with fail
  refine HSZ.out.mono ?_
  rintro e v0 ⟨r, rfl, hr, hb0⟩
  have hs0 := hb0.size
  rcases hr with rfl | ⟨hr0, hr1⟩
  · go_wp2_with fail
    go_ret
    exact ⟨rfl, hb0⟩
  · have hln : len0 ≤ 1048576 := by omega
    have hto : tot fs ≤ 1048576 := by omega
    have HFN := Lib.hid (show ∀ g ∈ fs, g.n ≤ 1099511627776 from fun g hg => by have := HTM.out g hg; omega)
    clear hr1
    go_wp2_with fail
    refine (toLoadS_any a0 len0 cap0 fs _ ((HRD.out.below (Nat.le_refl _) hb0).more hs0) HL.out (by omega) ((HB.out.below (Nat.le_refl _) hb0).more hs0) HFN.out).mono ?_
    rintro e v1 ⟨A1, c1, g1, rfl, ho1, hkey1, hB1, hx1⟩
    have HKEY1 := Lib.hid hkey1
    clear hkey1
    have hb1 := hb0.trans (hx1.mono hs0)
    have hs1 := hb1.size
    have hz1 := hx1.size
    have hkk : ∀ g, (Value.slice A1 len0 c1).ownBlock = some g → v0.heap.size ≤ g ∧ g < v1.heap.size := fun g hg => World.ownsRow.lt ho1 g hg
    have HK_c0 := Lib.hid hkk
    clear hkk
    have hkk : ∀ f ∈ g1, ∀ g, (sl f).ownBlock = some g → v0.heap.size ≤ g ∧ g < v1.heap.size := fun f hf g hg => World.ownsRow.lt (hB1.1 f hf) g hg
    have HKB_c0 := Lib.hid hkk
    clear hkk
    go_wp2_with fail
    refine (spec_JournalBytes_any A1 len0 c1 g1 (fs.map (·.bytes)) a1 _ ho1.rd ho1.len (by omega) (hB1.rdB (rng_of HKEY1 HRNG.out)) (fun g hg => own_none (hB1.1 g hg)) (n_of HKEY1 HFN.out) (key_bytes HKEY1.out) hi64).mono ?_
    rintro e v2 ⟨A2, n2, c2, rfl, ho2, hx2⟩
    have hn2 : n2 ≤ 1099511627776 := by have h1 := ho2.len; have h2 := jrO_len a1 (fs.map (·.bytes)); rw [List.length_map, HL.out] at h2; omega
    have hb2 := hb1.trans (hx2.mono hs1)
    have hs2 := hb2.size
    have hz2 := hx2.size
    have ho1_2 := ho1.below (Nat.le_refl _) hx2
    clear ho1
    have hB1_2 := hB1.below (Nat.le_refl _) hx2
    clear hB1
    have hkk : ∀ g, (Value.slice A2 n2 c2).ownBlock = some g → v1.heap.size ≤ g ∧ g < v2.heap.size := fun g hg => World.ownsRow.lt ho2 g hg
    have HK_w0 := Lib.hid hkk
    clear hkk
    clear ho1_2 hB1_2
    go_wp2_with fail
    refine (toLoadS_any a0 len0 cap0 fs _ ((HRD.out.below (Nat.le_refl _) hb2).more hs2) HL.out (by omega) ((HB.out.below (Nat.le_refl _) hb2).more hs2) HFN.out).mono ?_
    rintro e v3 ⟨A3, c3, g3, rfl, ho3, hkey3, hB3, hx3⟩
    have HKEY3 := Lib.hid hkey3
    clear hkey3
    have hb3 := hb2.trans (hx3.mono hs2)
    have hs3 := hb3.size
    have hz3 := hx3.size
    have ho2_3 := ho2.below (Nat.le_refl _) hx3
    clear ho2
    have hkk : ∀ g, (Value.slice A3 len0 c3).ownBlock = some g → v2.heap.size ≤ g ∧ g < v3.heap.size := fun g hg => World.ownsRow.lt ho3 g hg
    have HK_x0 := Lib.hid hkk
    clear hkk
    have hkk : ∀ f ∈ g3, ∀ g, (sl f).ownBlock = some g → v2.heap.size ≤ g ∧ g < v3.heap.size := fun f hf g hg => World.ownsRow.lt (hB3.1 f hf) g hg
    have HKB_x0 := Lib.hid hkk
    clear hkk
    go_wp2_with fail
    refine (impl_JournalBytes_any A3 len0 c3 g3 (fs.map (·.bytes)) a1 _ ho3.rd ho3.len (by omega) (hB3.rdB (rng_of HKEY3 HRNG.out)) (fun g hg => own_none (hB3.1 g hg)) (n_of HKEY3 HFN.out) (key_bytes HKEY3.out) hi64).mono ?_
    rintro e v4 ⟨A4, n4, c4, rfl, ho4, hx4⟩
    have hn4 : n4 ≤ 1099511627776 := by have h1 := ho4.len; have h2 := jrO_len a1 (fs.map (·.bytes)); rw [List.length_map, HL.out] at h2; omega
    have hb4 := hb3.trans (hx4.mono hs3)
    have hs4 := hb4.size
    have hz4 := hx4.size
    have ho2_3_4 := ho2_3.below (Nat.le_refl _) hx4
    clear ho2_3
    have ho3_4 := ho3.below (Nat.le_refl _) hx4
    clear ho3
    have hB3_4 := hB3.below (Nat.le_refl _) hx4
    clear hB3
    have hkk : ∀ g, (Value.slice A4 n4 c4).ownBlock = some g → v3.heap.size ≤ g ∧ g < v4.heap.size := fun g hg => World.ownsRow.lt ho4 g hg
    have HK_g0 := Lib.hid hkk
    clear hkk
    go_wp2_with fail
    refine (eqByteS_yes A4 A2 n4 c4 n2 c2 _ _ ho4.rd ho2_3_4.rd ho4.len ho2_3_4.len (by omega)).mono ?_
    rintro e v5 ⟨rfl, hx5⟩
    have hb5 := hb4.trans (hx5.mono hs4)
    have hs5 := hb5.size
    have hz5 := hx5.size
    have ho2_3_4_5 := ho2_3_4.below (Nat.le_refl _) hx5
    clear ho2_3_4
    have ho3_4_5 := ho3_4.below (Nat.le_refl _) hx5
    clear ho3_4
    have hB3_4_5 := hB3_4.below (Nat.le_refl _) hx5
    clear hB3_4
    have ho4_5 := ho4.below (Nat.le_refl _) hx5
    clear ho4
    go_wp2_with fail
    refine (toLoadS_any a0 len0 cap0 fs _ ((HRD.out.below (Nat.le_refl _) hb5).more hs5) HL.out (by omega) ((HB.out.below (Nat.le_refl _) hb5).more hs5) HFN.out).mono ?_
    rintro e v6 ⟨A6, c6, g6, rfl, ho6, hkey6, hB6, hx6⟩
    have HKEY6 := Lib.hid hkey6
    clear hkey6
    have hb6 := hb5.trans (hx6.mono hs5)
    have hs6 := hb6.size
    have hz6 := hx6.size
    have ho2_3_4_5_6 := ho2_3_4_5.below (Nat.le_refl _) hx6
    clear ho2_3_4_5
    have ho3_4_5_6 := ho3_4_5.below (Nat.le_refl _) hx6
    clear ho3_4_5
    have hB3_4_5_6 := hB3_4_5.below (Nat.le_refl _) hx6
    clear hB3_4_5
    have ho4_5_6 := ho4_5.below (Nat.le_refl _) hx6
    clear ho4_5
    have hkk : ∀ g, (Value.slice A6 len0 c6).ownBlock = some g → v5.heap.size ≤ g ∧ g < v6.heap.size := fun g hg => World.ownsRow.lt ho6 g hg
    have HK_y0 := Lib.hid hkk
    clear hkk
    have hkk : ∀ f ∈ g6, ∀ g, (sl f).ownBlock = some g → v5.heap.size ≤ g ∧ g < v6.heap.size := fun f hf g hg => World.ownsRow.lt (hB6.1 f hf) g hg
    have HKB_y0 := Lib.hid hkk
    clear hkk
    go_wp2_with fail
    refine (eqLo ho3_4_5_6 hB3_4_5_6 ho6 hB6 ((key_bytes HKEY6.out).trans (key_bytes HKEY3.out).symm) (by omega) (n_of HKEY3 HFN.out)).mono ?_
    rintro e v7 ⟨rfl, hx7⟩
    have hb7 := hb6.trans (hx7.mono hs6)
    have hs7 := hb7.size
    have hz7 := hx7.size
    have ho2_3_4_5_6_7 := ho2_3_4_5_6.below (Nat.le_refl _) hx7
    clear ho2_3_4_5_6
    have ho3_4_5_6_7 := ho3_4_5_6.below (Nat.le_refl _) hx7
    clear ho3_4_5_6
    have hB3_4_5_6_7 := hB3_4_5_6.below (Nat.le_refl _) hx7
    clear hB3_4_5_6
    have ho4_5_6_7 := ho4_5_6.below (Nat.le_refl _) hx7
    clear ho4_5_6
    have ho6_7 := ho6.below (Nat.le_refl _) hx7
    clear ho6
    have hB6_7 := hB6.below (Nat.le_refl _) hx7
    clear hB6
    clear ho6_7 hB6_7
    have hend : endL 1 g3 ≤ 1099511627776 := by unfold endL; rw [key_tot HKEY3.out]; omega
    go_wp2_with fail
    refine (markLoadS_any A3 len0 c3 _ g3 1 _ ho3_4_5_6_7 hB3_4_5_6_7 (by omega) hend (by omega)).mono ?_
    rintro e v8 ⟨rfl, ho8, hB8, hon8⟩
    have hS8 : ∀ i, SL g3 i → v2.heap.size ≤ i ∧ i < v3.heap.size := fun i ⟨f, hf, hi⟩ => HKB_x0.out f hf i hi
    have hpos : 0 ≤ endL 1 g3 := by unfold endL; omega
    have HS8 := Lib.hid hS8
    clear hS8
    have hb8 : Below w.heap.size w v8 := Only.below hon8 hb7 hs7 (fun i h => Nat.le_trans (by omega) (HS8.out i h).1)
    have hs8 := hb8.size
    have hz8 := hon8.size
    have ho2_3_4_5_6_7_8 := Only.own ho2_3_4_5_6_7 hon8 (fun g h1 h2 => by have := HK_w0.out g h1; have := HS8.out g h2; omega)
    clear ho2_3_4_5_6_7
    have ho2_3_4_5_6_7_8 : Own v8 v1.heap.size A2 n2 c2 _ := ho2_3_4_5_6_7_8
    have ho4_5_6_7_8 := Only.own ho4_5_6_7 hon8 (fun g h1 h2 => by have := HK_g0.out g h1; have := HS8.out g h2; omega)
    clear ho4_5_6_7
    have ho4_5_6_7_8 : Own v8 v3.heap.size A4 n4 c4 _ := ho4_5_6_7_8
    go_wp2_with fail
    refine (eqByteS_yes A4 A2 n4 c4 n2 c2 _ _ ho4_5_6_7_8.rd ho2_3_4_5_6_7_8.rd ho4_5_6_7_8.len ho2_3_4_5_6_7_8.len (by omega)).mono ?_
    rintro e v9 ⟨rfl, hx9⟩
    have hb9 := hb8.trans (hx9.mono hs8)
    have hs9 := hb9.size
    have hz9 := hx9.size
    have ho2_3_4_5_6_7_8_9 := ho2_3_4_5_6_7_8.below (Nat.le_refl _) hx9
    clear ho2_3_4_5_6_7_8
    have ho8_9 := ho8.below (Nat.le_refl _) hx9
    clear ho8
    have hB8_9 := hB8.below (Nat.le_refl _) hx9
    clear hB8
    have ho4_5_6_7_8_9 := ho4_5_6_7_8.below (Nat.le_refl _) hx9
    clear ho4_5_6_7_8
    clear ho8_9 hB8_9
    go_wp2_with fail
    refine (markByteS_any A4 n4 c4 _ _ 1 _ ho4_5_6_7_8_9 (by omega) (by omega) (by omega)).mono ?_
    rintro e v10 ⟨rfl, ho10, hgr10⟩
    have hon10 : Only (fun i => (Value.slice A4 n4 c4).ownBlock = some i) v9 v10 := Only.grown hgr10 (fun i h => h)
    have hS10 : ∀ i, (Value.slice A4 n4 c4).ownBlock = some i → v3.heap.size ≤ i ∧ i < v4.heap.size := HK_g0.out
    clear hgr10
    have HS10 := Lib.hid hS10
    clear hS10
    have hb10 : Below w.heap.size w v10 := Only.below hon10 hb9 hs9 (fun i h => Nat.le_trans (by omega) (HS10.out i h).1)
    have hs10 := hb10.size
    have hz10 := hon10.size
    have ho2_3_4_5_6_7_8_9_10 := Only.own ho2_3_4_5_6_7_8_9 hon10 (fun g h1 h2 => by have := HK_w0.out g h1; have := HS10.out g h2; omega)
    clear ho2_3_4_5_6_7_8_9
    have ho2_3_4_5_6_7_8_9_10 : Own v10 v1.heap.size A2 n2 c2 _ := ho2_3_4_5_6_7_8_9_10
    go_wp2_with fail
    refine (heldByteS_any A4 n4 c4 1 _ ho10.rd (by omega) (by omega) (by omega)).mono ?_
    rintro e w' ⟨rfl, rfl⟩
    go_wp2_with fail
    refine (toLoadS_any a0 len0 cap0 fs _ ((HRD.out.below (Nat.le_refl _) hb10).more hs10) HL.out (by omega) ((HB.out.below (Nat.le_refl _) hb10).more hs10) HFN.out).mono ?_
    rintro e v11 ⟨A11, c11, g11, rfl, ho11, hkey11, hB11, hx11⟩
    have HKEY11 := Lib.hid hkey11
    clear hkey11
    have hb11 := hb10.trans (hx11.mono hs10)
    have hs11 := hb11.size
    have hz11 := hx11.size
    have ho2_3_4_5_6_7_8_9_10_11 := ho2_3_4_5_6_7_8_9_10.below (Nat.le_refl _) hx11
    clear ho2_3_4_5_6_7_8_9_10
    have ho10_11 := ho10.below (Nat.le_refl _) hx11
    clear ho10
    have hkk : ∀ g, (Value.slice A11 len0 c11).ownBlock = some g → v10.heap.size ≤ g ∧ g < v11.heap.size := fun g hg => World.ownsRow.lt ho11 g hg
    have HK_c1 := Lib.hid hkk
    clear hkk
    have hkk : ∀ f ∈ g11, ∀ g, (sl f).ownBlock = some g → v10.heap.size ≤ g ∧ g < v11.heap.size := fun f hf g hg => World.ownsRow.lt (hB11.1 f hf) g hg
    have HKB_c1 := Lib.hid hkk
    clear hkk
    go_wp2_with fail
    refine (impl_JournalBytes_any A11 len0 c11 g11 (fs.map (·.bytes)) a1 _ ho11.rd ho11.len (by omega) (hB11.rdB (rng_of HKEY11 HRNG.out)) (fun g hg => own_none (hB11.1 g hg)) (n_of HKEY11 HFN.out) (key_bytes HKEY11.out) hi64).mono ?_
    rintro e v12 ⟨A12, n12, c12, rfl, ho12, hx12⟩
    have hn12 : n12 ≤ 1099511627776 := by have h1 := ho12.len; have h2 := jrO_len a1 (fs.map (·.bytes)); rw [List.length_map, HL.out] at h2; omega
    have hb12 := hb11.trans (hx12.mono hs11)
    have hs12 := hb12.size
    have hz12 := hx12.size
    have ho2_3_4_5_6_7_8_9_10_11_12 := ho2_3_4_5_6_7_8_9_10_11.below (Nat.le_refl _) hx12
    clear ho2_3_4_5_6_7_8_9_10_11
    have ho10_11_12 := ho10_11.below (Nat.le_refl _) hx12
    clear ho10_11
    have ho11_12 := ho11.below (Nat.le_refl _) hx12
    clear ho11
    have hB11_12 := hB11.below (Nat.le_refl _) hx12
    clear hB11
    have hkk : ∀ g, (Value.slice A12 n12 c12).ownBlock = some g → v11.heap.size ≤ g ∧ g < v12.heap.size := fun g hg => World.ownsRow.lt ho12 g hg
    have HK_h0 := Lib.hid hkk
    clear hkk
    go_wp2_with fail
    refine (eqByteS_yes A12 A2 n12 c12 n2 c2 _ _ ho12.rd ho2_3_4_5_6_7_8_9_10_11_12.rd ho12.len ho2_3_4_5_6_7_8_9_10_11_12.len (by omega)).mono ?_
    rintro e v13 ⟨rfl, hx13⟩
    have hb13 := hb12.trans (hx13.mono hs12)
    have hs13 := hb13.size
    have hz13 := hx13.size
    have ho2_3_4_5_6_7_8_9_10_11_12_13 := ho2_3_4_5_6_7_8_9_10_11_12.below (Nat.le_refl _) hx13
    clear ho2_3_4_5_6_7_8_9_10_11_12
    have ho10_11_12_13 := ho10_11_12.below (Nat.le_refl _) hx13
    clear ho10_11_12
    have ho11_12_13 := ho11_12.below (Nat.le_refl _) hx13
    clear ho11_12
    have hB11_12_13 := hB11_12.below (Nat.le_refl _) hx13
    clear hB11_12
    have ho12_13 := ho12.below (Nat.le_refl _) hx13
    clear ho12
    go_wp2_with fail
    refine (heldByteS_any A4 n4 c4 1 _ ho10_11_12_13.rd (by omega) (by omega) (by omega)).mono ?_
    rintro e w' ⟨rfl, rfl⟩
    go_wp2_with fail
    go_ret
    exact ⟨rfl, hb13⟩
end Go.Proofs.Yteiojpglhmikoaa.fnExactJournalBytes

