/- FnExactJournalRead: the walk of the law from the contracts of the program, of its model and of the laws' helpers; at every input, no condition. -/
import Derived.Test.YtmlodfceepokoaaBytes
import Derived.Test.YtmlodfceepokoaaJourRead
import Derived.Test.YtmlodfceepokoaaLoadMarks
import Derived.Test.YtmlodfceepokoaaLoadEq
namespace Go.Proofs.Ytmlodfceepokoaa.fnExactJournalRead
open Go.RowKit Go.Proofs.Ytmlodfceepokoaa.Bytes Go.Proofs.Ytmlodfceepokoaa.Var Go.Proofs.Ytmlodfceepokoaa.Frame Go.Proofs.Ytmlodfceepokoaa.Loads
set_option linter.unusedVariables false
theorem own : ownKnob Try.prog.godebug = none := by kernel_rfl

set_option maxRecDepth 100000 in
set_option maxHeartbeats 6400000 in
theorem walk (a0 : Option Addr) (len0 cap0 : Nat) (z0 : List Int) (a1 : Int) (w : World) (w0 : IsRow .u8 w a0 len0 cap0 z0) (w1 : (Lit.int .i64 a1).wf = true) :
    Calls Try.prog 8 #[.slice a0 len0 cap0, .int .i64 a1] w fun e w' => e = .returned (.bool true) ∧ Below w.heap.size w w' := by
  obtain ⟨HR, hl, hA, hrng⟩ := w0.open_
  have hi64 := wf_i64 w1
  clear w0 w1
  generalize z0.take len0 = zs at *
  by_cases hbig : len0 ≤ 1048576
  · have hlen : zs.length ≤ 1048576 := by omega
    have HL := Lib.hid hl
    have HA := Lib.hid hA
    clear hl hA
    go_enter Try.func8, Try.ntmps8
    have hb0 := Below.refl w.heap.size w
    have hs0 : w.heap.size ≤ w.heap.size := Nat.le_refl _
    go_wp2_with fail
    refine (toByteS_any a0 len0 cap0 zs _ ((HR.below (Nat.le_refl _) hb0).more hs0) HL.out (by omega)).mono ?_
    rintro e v1 ⟨A1, c1, rfl, ho1, hx1⟩
    have hb1 := hb0.trans (hx1.mono hs0)
    have hs1 := hb1.size
    have hz1 := hx1.size
    have hkk : ∀ g, (Value.slice A1 len0 c1).ownBlock = some g → w.heap.size ≤ g ∧ g < v1.heap.size := fun g hg => World.ownsRow.lt ho1 g hg
    have HK_c0 := Lib.hid hkk
    clear hkk
    go_wp2_with fail
    refine (spec_JournalRead_any A1 len0 c1 zs a1 _ ho1.rd hrng HL.out (by omega) ho1.cap hi64.1 hi64.2).mono ?_
    rintro e v2 ⟨A2, n2, c2, g2, rfl, ho2, hB2, hkey2, hx2⟩
    have hn2 : n2 ≤ 1048577 := by have h1 := ho2.len; have h2 := congrArg List.length hkey2; have h3 := jL_len zs a1; rw [List.length_map] at h2; omega
    have hfn2 : ∀ f ∈ g2, f.n ≤ 60000 := fun f hf => by have h1 := (hB2.1 f hf).len; have h2 := jrL_dat _ zs a1 0 f.bytes (by have := hkey2; unfold jL at this; rw [← this]; exact List.mem_map_of_mem hf); omega
    have HFN2 := Lib.hid hfn2
    have HKEY2 := Lib.hid hkey2
    clear hkey2 hfn2
    have hb2 := hb1.trans (hx2.mono hs1)
    have hs2 := hb2.size
    have hz2 := hx2.size
    have ho1_2 := ho1.below (Nat.le_refl _) hx2
    clear ho1
    have hkk : ∀ g, (Value.slice A2 n2 c2).ownBlock = some g → v1.heap.size ≤ g ∧ g < v2.heap.size := fun g hg => World.ownsRow.lt ho2 g hg
    have HK_w0 := Lib.hid hkk
    clear hkk
    have hkk : ∀ f ∈ g2, ∀ g, (sl f).ownBlock = some g → v1.heap.size ≤ g ∧ g < v2.heap.size := fun f hf g hg => World.ownsRow.lt (hB2.1 f hf) g hg
    have HKB_w0 := Lib.hid hkk
    clear hkk
    clear ho1_2
    go_wp2_with fail
    refine (toByteS_any a0 len0 cap0 zs _ ((HR.below (Nat.le_refl _) hb2).more hs2) HL.out (by omega)).mono ?_
    rintro e v3 ⟨A3, c3, rfl, ho3, hx3⟩
    have hb3 := hb2.trans (hx3.mono hs2)
    have hs3 := hb3.size
    have hz3 := hx3.size
    have ho2_3 := ho2.below (Nat.le_refl _) hx3
    clear ho2
    have hB2_3 := hB2.below (Nat.le_refl _) hx3
    clear hB2
    have hkk : ∀ g, (Value.slice A3 len0 c3).ownBlock = some g → v2.heap.size ≤ g ∧ g < v3.heap.size := fun g hg => World.ownsRow.lt ho3 g hg
    have HK_x0 := Lib.hid hkk
    clear hkk
    go_wp2_with fail
    refine (impl_JournalRead_any A3 len0 c3 zs a1 _ ho3.rd hrng HL.out (by omega) ho3.cap hi64.1 hi64.2).mono ?_
    rintro e v4 ⟨A4, n4, c4, g4, rfl, ho4, hB4, hkey4, hx4⟩
    have hn4 : n4 ≤ 1048577 := by have h1 := ho4.len; have h2 := congrArg List.length hkey4; have h3 := jL_len zs a1; rw [List.length_map] at h2; omega
    have hfn4 : ∀ f ∈ g4, f.n ≤ 60000 := fun f hf => by have h1 := (hB4.1 f hf).len; have h2 := jrL_dat _ zs a1 0 f.bytes (by have := hkey4; unfold jL at this; rw [← this]; exact List.mem_map_of_mem hf); omega
    have HFN4 := Lib.hid hfn4
    have HKEY4 := Lib.hid hkey4
    clear hkey4 hfn4
    have hb4 := hb3.trans (hx4.mono hs3)
    have hs4 := hb4.size
    have hz4 := hx4.size
    have ho2_3_4 := ho2_3.below (Nat.le_refl _) hx4
    clear ho2_3
    have hB2_3_4 := hB2_3.below (Nat.le_refl _) hx4
    clear hB2_3
    have ho3_4 := ho3.below (Nat.le_refl _) hx4
    clear ho3
    have hkk : ∀ g, (Value.slice A4 n4 c4).ownBlock = some g → v3.heap.size ≤ g ∧ g < v4.heap.size := fun g hg => World.ownsRow.lt ho4 g hg
    have HK_g0 := Lib.hid hkk
    clear hkk
    have hkk : ∀ f ∈ g4, ∀ g, (sl f).ownBlock = some g → v3.heap.size ≤ g ∧ g < v4.heap.size := fun f hf g hg => World.ownsRow.lt (hB4.1 f hf) g hg
    have HKB_g0 := Lib.hid hkk
    clear hkk
    go_wp2_with fail
    refine (eqLo ho4 hB4 ho2_3_4 hB2_3_4 (HKEY2.out.trans HKEY4.out.symm) (by omega) (fun f hf => Nat.le_trans (HFN4.out f hf) (by omega))).mono ?_
    rintro e v5 ⟨rfl, hx5⟩
    have hb5 := hb4.trans (hx5.mono hs4)
    have hs5 := hb5.size
    have hz5 := hx5.size
    have ho2_3_4_5 := ho2_3_4.below (Nat.le_refl _) hx5
    clear ho2_3_4
    have hB2_3_4_5 := hB2_3_4.below (Nat.le_refl _) hx5
    clear hB2_3_4
    have ho3_4_5 := ho3_4.below (Nat.le_refl _) hx5
    clear ho3_4
    have ho4_5 := ho4.below (Nat.le_refl _) hx5
    clear ho4
    have hB4_5 := hB4.below (Nat.le_refl _) hx5
    clear hB4
    go_wp2_with fail
    refine (toByteS_any a0 len0 cap0 zs _ ((HR.below (Nat.le_refl _) hb5).more hs5) HL.out (by omega)).mono ?_
    rintro e v6 ⟨A6, c6, rfl, ho6, hx6⟩
    have hb6 := hb5.trans (hx6.mono hs5)
    have hs6 := hb6.size
    have hz6 := hx6.size
    have ho2_3_4_5_6 := ho2_3_4_5.below (Nat.le_refl _) hx6
    clear ho2_3_4_5
    have hB2_3_4_5_6 := hB2_3_4_5.below (Nat.le_refl _) hx6
    clear hB2_3_4_5
    have ho3_4_5_6 := ho3_4_5.below (Nat.le_refl _) hx6
    clear ho3_4_5
    have ho4_5_6 := ho4_5.below (Nat.le_refl _) hx6
    clear ho4_5
    have hB4_5_6 := hB4_5.below (Nat.le_refl _) hx6
    clear hB4_5
    have hkk : ∀ g, (Value.slice A6 len0 c6).ownBlock = some g → v5.heap.size ≤ g ∧ g < v6.heap.size := fun g hg => World.ownsRow.lt ho6 g hg
    have HK_y0 := Lib.hid hkk
    clear hkk
    go_wp2_with fail
    refine (eqByteS_yes A3 A6 len0 c3 len0 c6 _ _ ho3_4_5_6.rd ho6.rd ho3_4_5_6.len ho6.len (by omega)).mono ?_
    rintro e v7 ⟨rfl, hx7⟩
    have hb7 := hb6.trans (hx7.mono hs6)
    have hs7 := hb7.size
    have hz7 := hx7.size
    have ho2_3_4_5_6_7 := ho2_3_4_5_6.below (Nat.le_refl _) hx7
    clear ho2_3_4_5_6
    have hB2_3_4_5_6_7 := hB2_3_4_5_6.below (Nat.le_refl _) hx7
    clear hB2_3_4_5_6
    have ho3_4_5_6_7 := ho3_4_5_6.below (Nat.le_refl _) hx7
    clear ho3_4_5_6
    have ho4_5_6_7 := ho4_5_6.below (Nat.le_refl _) hx7
    clear ho4_5_6
    have hB4_5_6_7 := hB4_5_6.below (Nat.le_refl _) hx7
    clear hB4_5_6
    have ho6_7 := ho6.below (Nat.le_refl _) hx7
    clear ho6
    clear ho6_7
    go_wp2_with fail
    refine (markByteS_any A3 len0 c3 _ _ 1 _ ho3_4_5_6_7 (by omega) (by omega) (by omega)).mono ?_
    rintro e v8 ⟨rfl, ho8, hgr8⟩
    have hon8 : Only (fun i => (Value.slice A3 len0 c3).ownBlock = some i) v7 v8 := Only.grown hgr8 (fun i h => h)
    have hS8 : ∀ i, (Value.slice A3 len0 c3).ownBlock = some i → v2.heap.size ≤ i ∧ i < v3.heap.size := HK_x0.out
    clear hgr8
    have HS8 := Lib.hid hS8
    clear hS8
    have hb8 : Below w.heap.size w v8 := Only.below hon8 hb7 hs7 (fun i h => Nat.le_trans (by omega) (HS8.out i h).1)
    have hs8 := hb8.size
    have hz8 := hon8.size
    have ho2_3_4_5_6_7_8 := Only.own ho2_3_4_5_6_7 hon8 (fun g h1 h2 => by have := HK_w0.out g h1; have := HS8.out g h2; omega)
    clear ho2_3_4_5_6_7
    have ho2_3_4_5_6_7_8 : OwnLo v8 v1.heap.size A2 n2 c2 g2 := ho2_3_4_5_6_7_8
    have hB2_3_4_5_6_7_8 : OwnBs v8 v1.heap.size g2 := ⟨fun f hf => Only.own (hB2_3_4_5_6_7.1 f hf) hon8 (fun g h1 h2 => by have := HKB_w0.out f hf g h1; have := HS8.out g h2; omega), hB2_3_4_5_6_7.2⟩
    clear hB2_3_4_5_6_7
    have ho4_5_6_7_8 := Only.own ho4_5_6_7 hon8 (fun g h1 h2 => by have := HK_g0.out g h1; have := HS8.out g h2; omega)
    clear ho4_5_6_7
    have ho4_5_6_7_8 : OwnLo v8 v3.heap.size A4 n4 c4 g4 := ho4_5_6_7_8
    have hB4_5_6_7_8 : OwnBs v8 v3.heap.size g4 := ⟨fun f hf => Only.own (hB4_5_6_7.1 f hf) hon8 (fun g h1 h2 => by have := HKB_g0.out f hf g h1; have := HS8.out g h2; omega), hB4_5_6_7.2⟩
    clear hB4_5_6_7
    go_wp2_with fail
    refine (eqLo ho4_5_6_7_8 hB4_5_6_7_8 ho2_3_4_5_6_7_8 hB2_3_4_5_6_7_8 (HKEY2.out.trans HKEY4.out.symm) (by omega) (fun f hf => Nat.le_trans (HFN4.out f hf) (by omega))).mono ?_
    rintro e v9 ⟨rfl, hx9⟩
    have hb9 := hb8.trans (hx9.mono hs8)
    have hs9 := hb9.size
    have hz9 := hx9.size
    have ho2_3_4_5_6_7_8_9 := ho2_3_4_5_6_7_8.below (Nat.le_refl _) hx9
    clear ho2_3_4_5_6_7_8
    have hB2_3_4_5_6_7_8_9 := hB2_3_4_5_6_7_8.below (Nat.le_refl _) hx9
    clear hB2_3_4_5_6_7_8
    have ho8_9 := ho8.below (Nat.le_refl _) hx9
    clear ho8
    have ho4_5_6_7_8_9 := ho4_5_6_7_8.below (Nat.le_refl _) hx9
    clear ho4_5_6_7_8
    have hB4_5_6_7_8_9 := hB4_5_6_7_8.below (Nat.le_refl _) hx9
    clear hB4_5_6_7_8
    clear ho8_9
    have hend : endL 1 g4 ≤ 1099511627776 := by have := tot_le HFN4.out; have h1 := ho4_5_6_7_8_9.len; unfold endL; omega
    go_wp2_with fail
    refine (markLoadS_any A4 n4 c4 _ g4 1 _ ho4_5_6_7_8_9 hB4_5_6_7_8_9 (by omega) hend (by omega)).mono ?_
    rintro e v10 ⟨rfl, ho10, hB10, hon10⟩
    have hS10 : ∀ i, SL g4 i → v3.heap.size ≤ i ∧ i < v4.heap.size := fun i ⟨f, hf, hi⟩ => HKB_g0.out f hf i hi
    have hpos : 0 ≤ endL 1 g4 := by unfold endL; omega
    have HS10 := Lib.hid hS10
    clear hS10
    have hb10 : Below w.heap.size w v10 := Only.below hon10 hb9 hs9 (fun i h => Nat.le_trans (by omega) (HS10.out i h).1)
    have hs10 := hb10.size
    have hz10 := hon10.size
    have ho2_3_4_5_6_7_8_9_10 := Only.own ho2_3_4_5_6_7_8_9 hon10 (fun g h1 h2 => by have := HK_w0.out g h1; have := HS10.out g h2; omega)
    clear ho2_3_4_5_6_7_8_9
    have ho2_3_4_5_6_7_8_9_10 : OwnLo v10 v1.heap.size A2 n2 c2 g2 := ho2_3_4_5_6_7_8_9_10
    have hB2_3_4_5_6_7_8_9_10 : OwnBs v10 v1.heap.size g2 := ⟨fun f hf => Only.own (hB2_3_4_5_6_7_8_9.1 f hf) hon10 (fun g h1 h2 => by have := HKB_w0.out f hf g h1; have := HS10.out g h2; omega), hB2_3_4_5_6_7_8_9.2⟩
    clear hB2_3_4_5_6_7_8_9
    go_wp2_with fail
    refine (heldLoadS_any A4 n4 c4 g4 1 _ ho10.rd (fun f hf => (hB10.1 f hf).rd) (by have := ho10.len; rw [markL_len] at this; exact this) (by omega) hend (by omega)).mono ?_
    rintro e w' ⟨rfl, rfl⟩
    go_wp2_with fail
    refine (toByteS_any a0 len0 cap0 zs _ ((HR.below (Nat.le_refl _) hb10).more hs10) HL.out (by omega)).mono ?_
    rintro e v11 ⟨A11, c11, rfl, ho11, hx11⟩
    have hb11 := hb10.trans (hx11.mono hs10)
    have hs11 := hb11.size
    have hz11 := hx11.size
    have ho2_3_4_5_6_7_8_9_10_11 := ho2_3_4_5_6_7_8_9_10.below (Nat.le_refl _) hx11
    clear ho2_3_4_5_6_7_8_9_10
    have hB2_3_4_5_6_7_8_9_10_11 := hB2_3_4_5_6_7_8_9_10.below (Nat.le_refl _) hx11
    clear hB2_3_4_5_6_7_8_9_10
    have ho10_11 := ho10.below (Nat.le_refl _) hx11
    clear ho10
    have hB10_11 := hB10.below (Nat.le_refl _) hx11
    clear hB10
    have hkk : ∀ g, (Value.slice A11 len0 c11).ownBlock = some g → v10.heap.size ≤ g ∧ g < v11.heap.size := fun g hg => World.ownsRow.lt ho11 g hg
    have HK_c1 := Lib.hid hkk
    clear hkk
    go_wp2_with fail
    refine (impl_JournalRead_any A11 len0 c11 zs a1 _ ho11.rd hrng HL.out (by omega) ho11.cap hi64.1 hi64.2).mono ?_
    rintro e v12 ⟨A12, n12, c12, g12, rfl, ho12, hB12, hkey12, hx12⟩
    have hn12 : n12 ≤ 1048577 := by have h1 := ho12.len; have h2 := congrArg List.length hkey12; have h3 := jL_len zs a1; rw [List.length_map] at h2; omega
    have hfn12 : ∀ f ∈ g12, f.n ≤ 60000 := fun f hf => by have h1 := (hB12.1 f hf).len; have h2 := jrL_dat _ zs a1 0 f.bytes (by have := hkey12; unfold jL at this; rw [← this]; exact List.mem_map_of_mem hf); omega
    have HFN12 := Lib.hid hfn12
    have HKEY12 := Lib.hid hkey12
    clear hkey12 hfn12
    have hb12 := hb11.trans (hx12.mono hs11)
    have hs12 := hb12.size
    have hz12 := hx12.size
    have ho2_3_4_5_6_7_8_9_10_11_12 := ho2_3_4_5_6_7_8_9_10_11.below (Nat.le_refl _) hx12
    clear ho2_3_4_5_6_7_8_9_10_11
    have hB2_3_4_5_6_7_8_9_10_11_12 := hB2_3_4_5_6_7_8_9_10_11.below (Nat.le_refl _) hx12
    clear hB2_3_4_5_6_7_8_9_10_11
    have ho10_11_12 := ho10_11.below (Nat.le_refl _) hx12
    clear ho10_11
    have hB10_11_12 := hB10_11.below (Nat.le_refl _) hx12
    clear hB10_11
    have ho11_12 := ho11.below (Nat.le_refl _) hx12
    clear ho11
    have hkk : ∀ g, (Value.slice A12 n12 c12).ownBlock = some g → v11.heap.size ≤ g ∧ g < v12.heap.size := fun g hg => World.ownsRow.lt ho12 g hg
    have HK_h0 := Lib.hid hkk
    clear hkk
    have hkk : ∀ f ∈ g12, ∀ g, (sl f).ownBlock = some g → v11.heap.size ≤ g ∧ g < v12.heap.size := fun f hf g hg => World.ownsRow.lt (hB12.1 f hf) g hg
    have HKB_h0 := Lib.hid hkk
    clear hkk
    go_wp2_with fail
    refine (eqLo ho12 hB12 ho2_3_4_5_6_7_8_9_10_11_12 hB2_3_4_5_6_7_8_9_10_11_12 (HKEY2.out.trans HKEY12.out.symm) (by omega) (fun f hf => Nat.le_trans (HFN12.out f hf) (by omega))).mono ?_
    rintro e v13 ⟨rfl, hx13⟩
    have hb13 := hb12.trans (hx13.mono hs12)
    have hs13 := hb13.size
    have hz13 := hx13.size
    have ho2_3_4_5_6_7_8_9_10_11_12_13 := ho2_3_4_5_6_7_8_9_10_11_12.below (Nat.le_refl _) hx13
    clear ho2_3_4_5_6_7_8_9_10_11_12
    have hB2_3_4_5_6_7_8_9_10_11_12_13 := hB2_3_4_5_6_7_8_9_10_11_12.below (Nat.le_refl _) hx13
    clear hB2_3_4_5_6_7_8_9_10_11_12
    have ho10_11_12_13 := ho10_11_12.below (Nat.le_refl _) hx13
    clear ho10_11_12
    have hB10_11_12_13 := hB10_11_12.below (Nat.le_refl _) hx13
    clear hB10_11_12
    have ho11_12_13 := ho11_12.below (Nat.le_refl _) hx13
    clear ho11_12
    have ho12_13 := ho12.below (Nat.le_refl _) hx13
    clear ho12
    have hB12_13 := hB12.below (Nat.le_refl _) hx13
    clear hB12
    go_wp2_with fail
    refine (heldLoadS_any A4 n4 c4 g4 1 _ ho10_11_12_13.rd (fun f hf => (hB10_11_12_13.1 f hf).rd) (by have := ho10_11_12_13.len; rw [markL_len] at this; exact this) (by omega) hend (by omega)).mono ?_
    rintro e w' ⟨rfl, rfl⟩
    go_wp2_with fail
    go_ret
    exact ⟨rfl, hb13⟩
  · have hbig' : 1048576 < len0 := by omega
    go_enter Try.func8, Try.ntmps8
    go_wp2_with fail
    go_ret
    exact ⟨rfl, Below.refl _ _⟩
end Go.Proofs.Ytmlodfceepokoaa.fnExactJournalRead
