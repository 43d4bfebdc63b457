/- FnExactGridPaste: the walk of the law from the contracts of the program, of its model and of the laws' helpers; at every input, no condition. -/
import Derived.Test.YtgdjbpgfplcjpaaGrRel
import Derived.Test.YtgdjbpgfplcjpaaGrMark
import Derived.Test.YtgdjbpgfplcjpaaGrPasteO
import Derived.Deep.RegionWith
import Derived.Deep.Cut
import Derived.Deep.CutRange
import Derived.Deep.DeepCutAuto
import Derived.Deep.DrawnRows
namespace Go.Proofs.Ytgdjbpgfplcjpaa.fnExactGridPaste
open Go.RowKit Go.Proofs.Ytgdjbpgfplcjpaa.Bytes Go.Proofs.Ytgdjbpgfplcjpaa.Rows_ Go.Proofs.Ytgdjbpgfplcjpaa.RowK Go.Proofs.Ytgdjbpgfplcjpaa.Gr
set_option linter.unusedVariables false
attribute [local go_sem ↓] Go.wp_at_zero Go.wp_at_succ
theorem own : ownKnob Try.prog.godebug = none := by kernel_rfl
set_option maxRecDepth 100000 in
set_option maxHeartbeats 16000000 in
theorem walk (gw gh : Int) (A : Option Addr) (n c : Nat) (cs : List CellD) (gw2 gh2 : Int) (A2 : Option Addr) (n2 c2 : Nat) (cs2 : List CellD) (x y : Int) (w : World) (hr : RdC w w.heap.size A cs) (hl : cs.length = n) (hn : n ≤ 9223372036854775807) (hr2 : RdC w w.heap.size A2 cs2) (hl2 : cs2.length = n2) (hn2 : n2 ≤ 9223372036854775807) (wx : (Lit.int .i64 x).wf = true) (wy : (Lit.int .i64 y).wf = true) :
    Calls Try.prog 4 #[.agg #[.int .i64 gw, .int .i64 gh, .slice A n c], .agg #[.int .i64 gw2, .int .i64 gh2, .slice A2 n2 c2], .int .i64 x, .int .i64 y] w fun e w' => e = .returned (.bool true) ∧ Below w.heap.size w w' := by
  have hb0 := Lib.hid (((Below.refl w.heap.size w).alloc (by simp <;> omega) (.cells #[.int .i64 gw, .int .i64 gh, .slice A n c] 41)).alloc (by simp <;> omega) (.cells #[.int .i64 gw2, .int .i64 gh2, .slice A2 n2 c2] 41))
  have x0a : BoxK (w.alloc (.cells #[.int .i64 gw, .int .i64 gh, .slice A n c] 41)) (w.heap.size) [.int .i64 gw, .int .i64 gh, .slice A n c] := by have h := BoxK.new w [.int .i64 gw, .int .i64 gh, .slice A n c] 41; exact h
  have x0a2 : BoxK ((w.alloc (.cells #[.int .i64 gw, .int .i64 gh, .slice A n c] 41)).alloc (.cells #[.int .i64 gw2, .int .i64 gh2, .slice A2 n2 c2] 41)) (w.heap.size + 1) [.int .i64 gw2, .int .i64 gh2, .slice A2 n2 c2] := by have h := BoxK.new (w.alloc (.cells #[.int .i64 gw, .int .i64 gh, .slice A n c] 41)) [.int .i64 gw2, .int .i64 gh2, .slice A2 n2 c2] 41; simp only [World.size_alloc] at h; exact h
  replace x0a := BoxK.alloc x0a (by simp <;> omega) (.cells #[.int .i64 gw2, .int .i64 gh2, .slice A2 n2 c2] 41)
  have X0a := Lib.hid x0a
  clear x0a
  have X0a2 := Lib.hid x0a2
  clear x0a2
  have HTB := Lib.hid (fun W (h : Below w.heap.size w W) (hn' : n ≤ 1048576) => toG (B := 0) gw gh A n c cs hr hl hn' h)
  have HLN := Lib.hid hl
  have HTB2 := Lib.hid (fun W (h : Below w.heap.size w W) (hn' : n2 ≤ 1048576) => toG (B := 0) gw2 gh2 A2 n2 c2 cs2 hr2 hl2 hn' h)
  have HLN2 := Lib.hid hl2
  clear wx wy
  obtain ⟨rw_, rh_, m, rcs, hans⟩ : ∃ (rw_ rh_ : Int) (m : Nat) (rcs : List CellD), ∀ (hn' : n ≤ 1048576), m ≤ 1048576 ∧ ∀ w e w', AnsT w (pasteT gw gh cs gw2 gh2 cs2 x y) e w' → ∃ A c, e = .returned (.agg #[.int .i64 rw_, .int .i64 rh_, .slice A m c]) ∧ OwnC w' w.heap.size A m c rcs ∧ Below w.heap.size w w' := ⟨(pasteT gw gh cs gw2 gh2 cs2 x y).1, (pasteT gw gh cs gw2 gh2 cs2 x y).2.1, (pasteT gw gh cs gw2 gh2 cs2 x y).2.2.length, (pasteT gw gh cs gw2 gh2 cs2 x y).2.2, fun hn' => ⟨pasteT_len hl hn', fun w e w' h => h⟩⟩
  have HSpec0 := Lib.hid (fun (hn' : n ≤ 1048576) (hn2' : n2 ≤ 1048576) (W : World) (F F' : Option Addr) (d_ d' B B' : Nat) (h1 : OwnC W B F n d_ cs) (h2 : OwnC W B' F' n2 d' cs2) => (spec_GridPaste_own gw gh gw2 gh2 x y h1 h2 hn' hn2').mono (fun e w' h => (hans hn').2 _ _ _ h))
  have HImpl0 := Lib.hid (fun (hn' : n ≤ 1048576) (hn2' : n2 ≤ 1048576) (W : World) (F F' : Option Addr) (d_ d' B B' : Nat) (h1 : OwnC W B F n d_ cs) (h2 : OwnC W B' F' n2 d' cs2) => (impl_GridPaste_own gw gh gw2 gh2 x y h1 h2 hn' hn2').mono (fun e w' h => (hans hn').2 _ _ _ h))
  have HM := Lib.hid (fun (hn' : n ≤ 1048576) => (hans hn').1)
  clear hans
  have HSZ := Lib.hid (fun W => szGrid_any gw gh A n c (1048576) W hn (by omega) (by omega))
  by_cases hbig : (1048576 : Int) < (n : Int)
  · rw [if_pos hbig] at HSZ
    clear hr hl hr2 hl2
    go_enter Try.func4, Try.ntmps4
    go_wp2_with fail
    refine (HSZ.out _).mono ?_
    rintro e v1 ⟨rfl, hx1⟩
    have HB1 := Lib.hid (hb0.out.trans (hx1.mono (by simp <;> omega)))
    have z1 : w.heap.size ≤ v1.heap.size := HB1.out.size
    have XXa := Lib.hid (BoxK.below X0a.out hx1 (by simp <;> omega))
    have s1a : w.heap.size < v1.heap.size := by have := hx1.size; simp at this; omega
    have t1a := s1a
    have XXa2 := Lib.hid (BoxK.below X0a2.out hx1 (by simp <;> omega))
    have s1a2 : w.heap.size + 1 < v1.heap.size := by have := hx1.size; simp at this; omega
    have t1a2 := s1a2
    clear hx1 hb0 X0a X0a2
    clear HSZ
    go_wp2_with fail
    go_ret
    exact ⟨rfl, HB1.out⟩
  rw [if_neg hbig] at HSZ
  skip
  have hlf1 : 0 ≤ (1048576 - n : Int) := by omega
  by_cases hbig2 : (1048576 - n : Int) < (n2 : Int)
  · have HSZ2 := Lib.hid (fun W => szGrid_any gw2 gh2 A2 n2 c2 (1048576 - n) W hn2 (by omega) (by omega))
    rw [if_pos hbig2] at HSZ2
    clear hr hl hr2 hl2
    go_enter Try.func4, Try.ntmps4
    go_wp2_with fail
    refine (HSZ.out _).mono ?_
    rintro e v1 ⟨rfl, hx1⟩
    have HB1 := Lib.hid (hb0.out.trans (hx1.mono (by simp <;> omega)))
    have z1 : w.heap.size ≤ v1.heap.size := HB1.out.size
    have XXa := Lib.hid (BoxK.below X0a.out hx1 (by simp <;> omega))
    have s1a : w.heap.size < v1.heap.size := by have := hx1.size; simp at this; omega
    have t1a := s1a
    have XXa2 := Lib.hid (BoxK.below X0a2.out hx1 (by simp <;> omega))
    have s1a2 : w.heap.size + 1 < v1.heap.size := by have := hx1.size; simp at this; omega
    have t1a2 := s1a2
    clear hx1 hb0 X0a X0a2
    clear HSZ
    have a2q0 := XXa2.out 0 _ rfl
    have a2q1 := XXa2.out 1 _ rfl
    have a2q2 := XXa2.out 2 _ rfl
    go_wp2_with fail
    refine (HSZ2.out _).mono ?_
    rintro e v2 ⟨rfl, hx2⟩
    clear a2q0 a2q1 a2q2
    have hst2 : Below v1.heap.size v1 v2 := hx2
    have HB2 := Lib.hid (HB1.out.trans (hst2.mono z1))
    clear HB1
    have z2 : w.heap.size ≤ v2.heap.size := HB2.out.size
    clear z1
    have ch2 : v1.heap.size ≤ v2.heap.size := hst2.size
    have XXa_2 := Lib.hid (BoxK.below XXa.out hst2 s1a)
    clear XXa
    have s2a : w.heap.size < v2.heap.size := Nat.lt_of_lt_of_le s1a hst2.size
    clear s1a
    have XXa2_2 := Lib.hid (BoxK.below XXa2.out hst2 s1a2)
    clear XXa2
    have s2a2 : w.heap.size + 1 < v2.heap.size := Nat.lt_of_lt_of_le s1a2 hst2.size
    clear s1a2
    clear hx2 hst2
    clear HSZ2
    go_wp2_with fail
    go_ret
    exact ⟨rfl, HB2.out⟩
  have HSZ2 := Lib.hid (fun W => szGrid_any gw2 gh2 A2 n2 c2 (1048576 - n) W hn2 (by omega) (by omega))
  rw [if_neg hbig2] at HSZ2
  have HT := Lib.hid (fun W (h : Below w.heap.size w W) => HTB.out W h (by omega))
  clear HTB hr hl
  have HT2 := Lib.hid (fun W (h : Below w.heap.size w W) => HTB2.out W h (by omega))
  clear HTB2 hr2 hl2
  have hlf0 : 0 ≤ (1048576 : Int) - n - n2 := by omega
  have hN : n ≤ 1048576 ∧ n2 ≤ 1048576 := by omega
  clear hbig hbig2
  go_enter Try.func4, Try.ntmps4
  go_wp2_with fail
  refine (HSZ.out _).mono ?_
  rintro e v1 ⟨rfl, hx1⟩
  have HB1 := Lib.hid (hb0.out.trans (hx1.mono (by simp <;> omega)))
  have z1 : w.heap.size ≤ v1.heap.size := HB1.out.size
  have XXa := Lib.hid (BoxK.below X0a.out hx1 (by simp <;> omega))
  have s1a : w.heap.size < v1.heap.size := by have := hx1.size; simp at this; omega
  have t1a := s1a
  have XXa2 := Lib.hid (BoxK.below X0a2.out hx1 (by simp <;> omega))
  have s1a2 : w.heap.size + 1 < v1.heap.size := by have := hx1.size; simp at this; omega
  have t1a2 := s1a2
  clear hx1 hb0 X0a X0a2
  clear HSZ
  have a2q0 := XXa2.out 0 _ rfl
  have a2q1 := XXa2.out 1 _ rfl
  have a2q2 := XXa2.out 2 _ rfl
  go_wp2_with fail
  refine (HSZ2.out _).mono ?_
  rintro e v2 ⟨rfl, hx2⟩
  clear a2q0 a2q1 a2q2
  have hst2 : Below v1.heap.size v1 v2 := hx2
  have HB2 := Lib.hid (HB1.out.trans (hst2.mono z1))
  clear HB1
  have z2 : w.heap.size ≤ v2.heap.size := HB2.out.size
  clear z1
  have ch2 : v1.heap.size ≤ v2.heap.size := hst2.size
  have XXa_2 := Lib.hid (BoxK.below XXa.out hst2 s1a)
  clear XXa
  have s2a : w.heap.size < v2.heap.size := Nat.lt_of_lt_of_le s1a hst2.size
  clear s1a
  have XXa2_2 := Lib.hid (BoxK.below XXa2.out hst2 s1a2)
  clear XXa2
  have s2a2 : w.heap.size + 1 < v2.heap.size := Nat.lt_of_lt_of_le s1a2 hst2.size
  clear s1a2
  clear hx2 hst2
  clear HSZ2
  have HSpec := Lib.hid (fun (W : World) (F F' : Option Addr) (d_ d' B B' : Nat) (h1 : OwnC W B F n d_ cs) (h2 : OwnC W B' F' n2 d' cs2) => HSpec0.out hN.1 hN.2 W F F' d_ d' B B' h1 h2)
  have HImpl := Lib.hid (fun (W : World) (F F' : Option Addr) (d_ d' B B' : Nat) (h1 : OwnC W B F n d_ cs) (h2 : OwnC W B' F' n2 d' cs2) => HImpl0.out hN.1 hN.2 W F F' d_ d' B B' h1 h2)
  have hm := HM.out hN.1
  clear HSpec0 HImpl0 HM
  have hne2 : (1 + 6 * (m : Int) != 1 + 6 * (m : Int)) = false := by simp
  have hge : decide (1 + 6 * (m : Int) < 0) = false := decide_eq_false (by omega)
  have hgn : decide (1 + 6 * (n : Int) + 6 * (n2 : Int) < 0) = false := decide_eq_false (by omega)
  have HBD := Lib.hid (show Below w.heap.size w v2.drew from ⟨HB2.out.os, HB2.out.tape, HB2.out.output, HB2.out.size, HB2.out.block⟩)
  have HBZ := HB2
  have ZZ := Lib.hid z2
  have XAC := XXa2_2
  have SAC := Lib.hid s2a2
  have aq0 := XXa_2.out 0 _ rfl
  have aq1 := XXa_2.out 1 _ rfl
  have aq2 := XXa_2.out 2 _ rfl
  have a2q0 := XXa2_2.out 0 _ rfl
  have a2q1 := XXa2_2.out 1 _ rfl
  have a2q2 := XXa2_2.out 2 _ rfl
  go_upto_region 8 with fail
  go_cut [10] (fun s wx => RelG v2 rw_ rh_ m rcs s wx)
  case first =>
    go_region_with (first
      | (go_at_call 16; (with_reducible refine (HT.out _ ?_).mono ?_); (first | exact HBD.out | exact HBD.out.alloc HBD.out.size _); rintro e y1 ⟨F1, d1, rfl, ho1, hx1⟩; (first | (have HS1 := Lib.hid (undrew hx1); have hs1 : v2.heap.size ≤ y1.heap.size := HS1.out.size) | (have HS1 := Lib.hid (undrew (((Below.refl v2.heap.size v2.drew).alloc (Nat.le_refl _) _).trans (hx1.mono (by simp)))); have hs1 : v2.heap.size + 1 ≤ y1.heap.size := (by have := hx1.size; simpa using this); have NB := Lib.hid (show BoxG y1 v2.heap.size #[.int .i64 0, .int .i64 0, .slice none 0 0] from BoxG.below (BoxG.new v2.drew #[.int .i64 0, .int .i64 0, .slice none 0 0]) hx1 (by simp)))); have HO1 := Lib.hid ho1; have hac1 : w.heap.size + 1 < y1.heap.size := Nat.lt_of_lt_of_le SAC.out HS1.out.size; have HBY := Lib.hid (HBZ.out.trans (HS1.out.mono ZZ.out)); have rc0 : y1.cell? ⟨w.heap.size + 1, 0, none⟩ = some (.int .i64 gw2) := BoxK.below XAC.out HS1.out SAC.out 0 _ rfl; have rc1 : y1.cell? ⟨w.heap.size + 1, 1, none⟩ = some (.int .i64 gh2) := BoxK.below XAC.out HS1.out SAC.out 1 _ rfl; have rc2 : y1.cell? ⟨w.heap.size + 1, 2, none⟩ = some (.slice A2 n2 c2) := BoxK.below XAC.out HS1.out SAC.out 2 _ rfl; clear hx1 ho1)
      | (go_at_call 16; (with_reducible refine (HT2.out _ ?_).mono ?_); (first | exact HBY.out | exact HBY.out.alloc HBY.out.size _); rintro e y2 ⟨F2, d2, rfl, ho2, hx2⟩; have HP2 := Lib.hid ho2; (first | (have HS2 := Lib.hid (HS1.out.trans (hx2.mono HS1.out.size)); have HO2 := Lib.hid (HO1.out.below (Nat.le_refl _) hx2); have hs2 : y1.heap.size ≤ y2.heap.size := hx2.size; (first | replace NB := Lib.hid (NB.out.below hx2 (by first | exact NB.out.lt)) | skip)) | (have HS2 := Lib.hid (HS1.out.trans (((Below.refl y1.heap.size y1).alloc (Nat.le_refl _) _).trans (hx2.mono (by simp)) |>.mono HS1.out.size)); have HO2 := Lib.hid ((HO1.out.below (Nat.le_refl _) ((Below.refl _ _).alloc (Nat.le_refl _) _)).below (by simp) hx2); have hs2 : y1.heap.size + 1 ≤ y2.heap.size := (by have := hx2.size; simpa using this); have NB := Lib.hid (BoxG.below (BoxG.new y1 #[.int .i64 0, .int .i64 0, .slice none 0 0]) hx2 (by simp)))); clear hx2 ho2)
      | (go_at_call 15; (first | (with_reducible refine (HSpec.out _ _ _ _ _ _ _ HO2.out HP2.out).mono ?_) | (with_reducible refine (HSpec.out _ _ _ _ _ _ _ (HO2.out.below (Nat.le_refl _) ((Below.refl _ _).alloc (Nat.le_refl _) _)) (HP2.out.below (Nat.le_refl _) ((Below.refl _ _).alloc (Nat.le_refl _) _))).mono ?_)); rintro e y3 ⟨F3, d3, rfl, ho3, hx3⟩; (first | (have HS3 := Lib.hid (HS2.out.trans (hx3.mono HS2.out.size)); have HO3 := Lib.hid ho3; have hs3 : y2.heap.size ≤ y3.heap.size := hx3.size; (first | replace NB := Lib.hid (NB.out.below hx3 (by first | exact NB.out.lt)) | skip)) | (have HS3 := Lib.hid (HS2.out.trans (((Below.refl y2.heap.size y2).alloc (Nat.le_refl _) _).trans (hx3.mono (by simp)) |>.mono HS2.out.size)); have HO3 := Lib.hid ho3; have hs3 : y2.heap.size + 1 ≤ y3.heap.size := (by have := hx3.size; simpa using this); have NB := Lib.hid (BoxG.below (BoxG.new y2 #[.int .i64 0, .int .i64 0, .slice none 0 0]) hx3 (by simp)))); (first | (have n0 : y3.cell? ⟨_, 0, none⟩ = some (.int .i64 0) := NB.out.cell 0; have n1 : y3.cell? ⟨_, 1, none⟩ = some (.int .i64 0) := NB.out.cell 1; have n2 : y3.cell? ⟨_, 2, none⟩ = some (.slice none 0 0) := NB.out.cell 2; have g0 := NB.out.free 0; have g1 := NB.out.free 1; have g2 := NB.out.free 2) | skip); clear hx3 ho3))
    all_goals
      go_wp2_with fail
      go_meet
      case rel =>
        (first | exact relG_al HO3.out HS3.out (by omega) | exact relG_set NB.out HO3.out HS3.out (by omega) (by first | omega | (simp; done) | (simp; omega)))
  case rest =>
    obtain ⟨Fw0_, dw0_, pw0_, rfl, hbk, ho, hown, hbb, hx⟩ := hcut
    clear aq0 aq1 aq2
    clear a2q0 a2q1 a2q2
    clear HBD XAC SAC HBZ ZZ
    obtain ⟨wk3, rfl⟩ : ∃ v : World, v = wc := ⟨_, rfl⟩
    have HB3 := Lib.hid (HB2.out.trans (hx.mono z2))
    clear HB2
    have z3 : w.heap.size ≤ wk3.heap.size := HB3.out.size
    clear z2
    have ch3 : v2.heap.size ≤ wk3.heap.size := hx.size
    have XXa_2_3 := Lib.hid (BoxK.below XXa_2.out hx s2a)
    clear XXa_2
    have s3a : w.heap.size < wk3.heap.size := Nat.lt_of_lt_of_le s2a hx.size
    clear s2a
    have XXa2_2_3 := Lib.hid (BoxK.below XXa2_2.out hx s2a2)
    clear XXa2_2
    have s3a2 : w.heap.size + 1 < wk3.heap.size := Nat.lt_of_lt_of_le s2a2 hx.size
    clear s2a2
    have HO3 := Lib.hid ho
    have HL3 := Lib.hid hown
    have Xbw := Lib.hid hbk
    obtain ⟨lobw, snbw⟩ := hbb
    have tbw := snbw
    clear hx ho hown hbk
    have aq0 := XXa_2_3.out 0 _ rfl
    have aq1 := XXa_2_3.out 1 _ rfl
    have aq2 := XXa_2_3.out 2 _ rfl
    have HPB := HB3
    go_wp2_with fail
    refine (HT.out _ HPB.out).mono ?_
    rintro e v4 ⟨F4, d4, rfl, ho4, hx4⟩
    clear aq0 aq1 aq2
    have HO4 := Lib.hid ho4
    have HL4 := Lib.hid (show ∀ i, (Value.slice F4 n d4).ownBlock = some i → wk3.heap.size ≤ i ∧ (wk3.heap.size = i → True) ∧ i < v4.heap.size from fun i hi => by have := ho4.blk i hi; exact ⟨by omega, fun _ => trivial, this.2⟩)
    clear ho4
    have hst4 : Below wk3.heap.size wk3 v4 := hx4
    have HO3_4 := Lib.hid (HO3.out.below (Nat.le_refl _) hst4)
    clear HO3
    have HB4 := Lib.hid (HB3.out.trans (hst4.mono z3))
    clear HB3
    have z4 : w.heap.size ≤ v4.heap.size := HB4.out.size
    clear z3
    have ch4 : wk3.heap.size ≤ v4.heap.size := hst4.size
    have XXa_2_3_4 := Lib.hid (BoxK.below XXa_2_3.out hst4 s3a)
    clear XXa_2_3
    have s4a : w.heap.size < v4.heap.size := Nat.lt_of_lt_of_le s3a hst4.size
    clear s3a
    have XXa2_2_3_4 := Lib.hid (BoxK.below XXa2_2_3.out hst4 s3a2)
    clear XXa2_2_3
    have s4a2 : w.heap.size + 1 < v4.heap.size := Nat.lt_of_lt_of_le s3a2 hst4.size
    clear s3a2
    have Xbw_4 := Lib.hid (BoxK.below Xbw.out hst4 snbw)
    clear Xbw
    have s4bw : pw0_ < v4.heap.size := Nat.lt_of_lt_of_le snbw hst4.size
    clear snbw
    clear hx4 hst4
    have a2q0 := XXa2_2_3_4.out 0 _ rfl
    have a2q1 := XXa2_2_3_4.out 1 _ rfl
    have a2q2 := XXa2_2_3_4.out 2 _ rfl
    have HAL := Lib.hid ((Below.refl v4.heap.size v4).alloc (Nat.le_refl _) (.cells #[.int .i64 gw, .int .i64 gh, .slice F4 n d4] 25))
    have HPB := Lib.hid (HB4.out.trans (HAL.out.mono z4))
    go_wp2_with fail
    refine (HT2.out _ HPB.out).mono ?_
    rintro e v5 ⟨F5, d5, rfl, ho5, hx5⟩
    clear HPB
    clear a2q0 a2q1 a2q2
    have HO5 := Lib.hid ho5
    have HL5 := Lib.hid (show ∀ i, (Value.slice F5 n2 d5).ownBlock = some i → v4.heap.size ≤ i ∧ (v4.heap.size = i → False) ∧ i < v5.heap.size from fun i hi => by have := ho5.blk i hi; simp at this; exact ⟨by omega, fun e => by omega, this.2⟩)
    clear ho5
    have hst5 : Below v4.heap.size v4 v5 := HAL.out.trans (hx5.mono (by simp))
    have HO3_4_5 := Lib.hid (HO3_4.out.below (Nat.le_refl _) hst5)
    clear HO3_4
    have HO4_5 := Lib.hid (HO4.out.below (Nat.le_refl _) hst5)
    clear HO4
    have HB5 := Lib.hid (HB4.out.trans (hst5.mono z4))
    clear HB4
    have z5 : w.heap.size ≤ v5.heap.size := HB5.out.size
    clear z4
    have ch5 : v4.heap.size ≤ v5.heap.size := hst5.size
    have XXa_2_3_4_5 := Lib.hid (BoxK.below XXa_2_3_4.out hst5 s4a)
    clear XXa_2_3_4
    have s5a : w.heap.size < v5.heap.size := Nat.lt_of_lt_of_le s4a hst5.size
    clear s4a
    have XXa2_2_3_4_5 := Lib.hid (BoxK.below XXa2_2_3_4.out hst5 s4a2)
    clear XXa2_2_3_4
    have s5a2 : w.heap.size + 1 < v5.heap.size := Nat.lt_of_lt_of_le s4a2 hst5.size
    clear s4a2
    have Xbw_4_5 := Lib.hid (BoxK.below Xbw_4.out hst5 s4bw)
    clear Xbw_4
    have s5bw : pw0_ < v5.heap.size := Nat.lt_of_lt_of_le s4bw hst5.size
    clear s4bw
    have Xbx := Lib.hid (BoxK.below (BoxK.new v4 [.int .i64 gw, .int .i64 gh, .slice F4 n d4] 25) hx5 (by simp))
    have s5bx : v4.heap.size < v5.heap.size := by have := hx5.size; simp at this; omega
    have tbx := s5bx
    clear HAL
    clear hx5 hst5
    have bxq0 := Xbx.out 0 _ rfl
    have bxq1 := Xbx.out 1 _ rfl
    have bxq2 := Xbx.out 2 _ rfl
    have HAL := Lib.hid ((Below.refl v5.heap.size v5).alloc (Nat.le_refl _) (.cells #[.int .i64 gw2, .int .i64 gh2, .slice F5 n2 d5] 25))
    have HP0 := Lib.hid (HO4_5.out.below (Nat.le_refl _) HAL.out)
    have HP1 := Lib.hid (HO5.out.below (Nat.le_refl _) HAL.out)
    go_wp2_with fail
    refine (HImpl.out _ _ _ _ _ _ _ HP0.out HP1.out).mono ?_
    rintro e v6 ⟨F6, d6, rfl, ho6, hx6⟩
    clear HP0
    clear HP1
    clear bxq0 bxq1 bxq2
    have HO6 := Lib.hid ho6
    have HL6 := Lib.hid (show ∀ i, (Value.slice F6 m d6).ownBlock = some i → v5.heap.size ≤ i ∧ (v5.heap.size = i → False) ∧ i < v6.heap.size from fun i hi => by have := ho6.blk i hi; simp at this; exact ⟨by omega, fun e => by omega, this.2⟩)
    clear ho6
    have hst6 : Below v5.heap.size v5 v6 := HAL.out.trans (hx6.mono (by simp))
    have HO3_4_5_6 := Lib.hid (HO3_4_5.out.below (Nat.le_refl _) hst6)
    clear HO3_4_5
    have HO4_5_6 := Lib.hid (HO4_5.out.below (Nat.le_refl _) hst6)
    clear HO4_5
    have HO5_6 := Lib.hid (HO5.out.below (Nat.le_refl _) hst6)
    clear HO5
    have HB6 := Lib.hid (HB5.out.trans (hst6.mono z5))
    clear HB5
    have z6 : w.heap.size ≤ v6.heap.size := HB6.out.size
    clear z5
    have ch6 : v5.heap.size ≤ v6.heap.size := hst6.size
    have XXa_2_3_4_5_6 := Lib.hid (BoxK.below XXa_2_3_4_5.out hst6 s5a)
    clear XXa_2_3_4_5
    have s6a : w.heap.size < v6.heap.size := Nat.lt_of_lt_of_le s5a hst6.size
    clear s5a
    have XXa2_2_3_4_5_6 := Lib.hid (BoxK.below XXa2_2_3_4_5.out hst6 s5a2)
    clear XXa2_2_3_4_5
    have s6a2 : w.heap.size + 1 < v6.heap.size := Nat.lt_of_lt_of_le s5a2 hst6.size
    clear s5a2
    have Xbw_4_5_6 := Lib.hid (BoxK.below Xbw_4_5.out hst6 s5bw)
    clear Xbw_4_5
    have s6bw : pw0_ < v6.heap.size := Nat.lt_of_lt_of_le s5bw hst6.size
    clear s5bw
    have Xbx_6 := Lib.hid (BoxK.below Xbx.out hst6 s5bx)
    clear Xbx
    have s6bx : v4.heap.size < v6.heap.size := Nat.lt_of_lt_of_le s5bx hst6.size
    clear s5bx
    have Xby_ := Lib.hid (BoxK.below (BoxK.new v5 [.int .i64 gw2, .int .i64 gh2, .slice F5 n2 d5] 25) hx6 (by simp))
    have s6by_ : v5.heap.size < v6.heap.size := by have := hx6.size; simp at this; omega
    have tby_ := s6by_
    clear HAL
    clear hx6 hst6
    have bwq0 := Xbw_4_5_6.out 0 _ rfl
    have bwq1 := Xbw_4_5_6.out 1 _ rfl
    have bwq2 := Xbw_4_5_6.out 2 _ rfl
    have HAL := Lib.hid ((Below.refl v6.heap.size v6).alloc (Nat.le_refl _) (.cells #[.int .i64 rw_, .int .i64 rh_, .slice F6 m d6] 25))
    have HP0 := Lib.hid (HO6.out.below (Nat.le_refl _) HAL.out)
    have HP1 := Lib.hid (HO3_4_5_6.out.below (Nat.le_refl _) HAL.out)
    go_wp2_with fail
    refine (eqG rw_ rh_ HP0.out HP1.out (by omega)).mono ?_
    rintro e v7 ⟨rfl, hx7⟩
    clear HP0
    clear HP1
    clear bwq0 bwq1 bwq2
    have hst7 : Below v6.heap.size v6 v7 := HAL.out.trans (hx7.mono (by simp))
    have HO3_4_5_6_7 := Lib.hid (HO3_4_5_6.out.below (Nat.le_refl _) hst7)
    clear HO3_4_5_6
    have HO4_5_6_7 := Lib.hid (HO4_5_6.out.below (Nat.le_refl _) hst7)
    clear HO4_5_6
    have HO5_6_7 := Lib.hid (HO5_6.out.below (Nat.le_refl _) hst7)
    clear HO5_6
    have HO6_7 := Lib.hid (HO6.out.below (Nat.le_refl _) hst7)
    clear HO6
    have HB7 := Lib.hid (HB6.out.trans (hst7.mono z6))
    clear HB6
    have z7 : w.heap.size ≤ v7.heap.size := HB7.out.size
    clear z6
    have ch7 : v6.heap.size ≤ v7.heap.size := hst7.size
    have XXa_2_3_4_5_6_7 := Lib.hid (BoxK.below XXa_2_3_4_5_6.out hst7 s6a)
    clear XXa_2_3_4_5_6
    have s7a : w.heap.size < v7.heap.size := Nat.lt_of_lt_of_le s6a hst7.size
    clear s6a
    have XXa2_2_3_4_5_6_7 := Lib.hid (BoxK.below XXa2_2_3_4_5_6.out hst7 s6a2)
    clear XXa2_2_3_4_5_6
    have s7a2 : w.heap.size + 1 < v7.heap.size := Nat.lt_of_lt_of_le s6a2 hst7.size
    clear s6a2
    have Xbw_4_5_6_7 := Lib.hid (BoxK.below Xbw_4_5_6.out hst7 s6bw)
    clear Xbw_4_5_6
    have s7bw : pw0_ < v7.heap.size := Nat.lt_of_lt_of_le s6bw hst7.size
    clear s6bw
    have Xbx_6_7 := Lib.hid (BoxK.below Xbx_6.out hst7 s6bx)
    clear Xbx_6
    have s7bx : v4.heap.size < v7.heap.size := Nat.lt_of_lt_of_le s6bx hst7.size
    clear s6bx
    have Xby__7 := Lib.hid (BoxK.below Xby_.out hst7 s6by_)
    clear Xby_
    have s7by_ : v5.heap.size < v7.heap.size := Nat.lt_of_lt_of_le s6by_ hst7.size
    clear s6by_
    have Xbg := Lib.hid (BoxK.below (BoxK.new v6 [.int .i64 rw_, .int .i64 rh_, .slice F6 m d6] 25) hx7 (by simp))
    have s7bg : v6.heap.size < v7.heap.size := by have := hx7.size; simp at this; omega
    have tbg := s7bg
    clear HAL
    clear hx7 hst7
    have aq0 := XXa_2_3_4_5_6_7.out 0 _ rfl
    have aq1 := XXa_2_3_4_5_6_7.out 1 _ rfl
    have aq2 := XXa_2_3_4_5_6_7.out 2 _ rfl
    have bxq0 := Xbx_6_7.out 0 _ rfl
    have bxq1 := Xbx_6_7.out 1 _ rfl
    have bxq2 := Xbx_6_7.out 2 _ rfl
    go_upto_region 14 with fail
    go_cut [52] (fun s wx => s = .bool false ∧ Below v7.heap.size v7 wx)
    case first =>
      go_region_with (first
        | (go_at_call 16; refine (HT.out _ ?_).mono ?_; exact ⟨HB7.out.os, HB7.out.tape, HB7.out.output, HB7.out.size, HB7.out.block⟩; rintro e y1 ⟨Fy, dy, rfl, hoy, hxy'⟩; have hxy : Below v7.heap.size v7 y1 := undrew hxy'; clear hxy'; have HOY := Lib.hid hoy; have HPY := Lib.hid (HO4_5_6_7.out.below (Nat.le_refl _) hxy); obtain ⟨r0, r1, r2⟩ : y1.cell? ⟨v4.heap.size, 0, none⟩ = some (.int .i64 gw) ∧ y1.cell? ⟨v4.heap.size, 1, none⟩ = some (.int .i64 gh) ∧ y1.cell? ⟨v4.heap.size, 2, none⟩ = some (.slice F4 n d4) := ⟨BoxK.below Xbx_6_7.out hxy s7bx 0 _ rfl, BoxK.below Xbx_6_7.out hxy s7bx 1 _ rfl, BoxK.below Xbx_6_7.out hxy s7bx 2 _ rfl⟩; have HXY := Lib.hid hxy; have zy := hxy.size; clear hoy hxy)
        | (go_at_call 17; refine (eqG gw gh HPY.out HOY.out (by omega)).mono ?_; rintro e y2 ⟨rfl, hxz⟩))
      all_goals
        have HE := Lib.hid (HXY.out.trans (hxz.mono zy))
        clear hxz
        go_wp2_with fail
        go_meet
        case rel => exact ⟨rfl, HE.out⟩
    case rest =>
      obtain ⟨rfl, hx⟩ := hcut
      clear aq0 aq1 aq2
      clear bxq0 bxq1 bxq2
      have HO3_4_5_6_7_8 := Lib.hid (HO3_4_5_6_7.out.below (Nat.le_refl _) hx)
      clear HO3_4_5_6_7
      have HO4_5_6_7_8 := Lib.hid (HO4_5_6_7.out.below (Nat.le_refl _) hx)
      clear HO4_5_6_7
      have HO5_6_7_8 := Lib.hid (HO5_6_7.out.below (Nat.le_refl _) hx)
      clear HO5_6_7
      have HO6_7_8 := Lib.hid (HO6_7.out.below (Nat.le_refl _) hx)
      clear HO6_7
      have HB8 := Lib.hid (HB7.out.trans (hx.mono z7))
      clear HB7
      have z8 : w.heap.size ≤ wc.heap.size := HB8.out.size
      clear z7
      have ch8 : v7.heap.size ≤ wc.heap.size := hx.size
      have XXa_2_3_4_5_6_7_8 := Lib.hid (BoxK.below XXa_2_3_4_5_6_7.out hx s7a)
      clear XXa_2_3_4_5_6_7
      have s8a : w.heap.size < wc.heap.size := Nat.lt_of_lt_of_le s7a hx.size
      clear s7a
      have XXa2_2_3_4_5_6_7_8 := Lib.hid (BoxK.below XXa2_2_3_4_5_6_7.out hx s7a2)
      clear XXa2_2_3_4_5_6_7
      have s8a2 : w.heap.size + 1 < wc.heap.size := Nat.lt_of_lt_of_le s7a2 hx.size
      clear s7a2
      have Xbw_4_5_6_7_8 := Lib.hid (BoxK.below Xbw_4_5_6_7.out hx s7bw)
      clear Xbw_4_5_6_7
      have s8bw : pw0_ < wc.heap.size := Nat.lt_of_lt_of_le s7bw hx.size
      clear s7bw
      have Xbx_6_7_8 := Lib.hid (BoxK.below Xbx_6_7.out hx s7bx)
      clear Xbx_6_7
      have s8bx : v4.heap.size < wc.heap.size := Nat.lt_of_lt_of_le s7bx hx.size
      clear s7bx
      have Xby__7_8 := Lib.hid (BoxK.below Xby__7.out hx s7by_)
      clear Xby__7
      have s8by_ : v5.heap.size < wc.heap.size := Nat.lt_of_lt_of_le s7by_ hx.size
      clear s7by_
      have Xbg_8 := Lib.hid (BoxK.below Xbg.out hx s7bg)
      clear Xbg
      have s8bg : v6.heap.size < wc.heap.size := Nat.lt_of_lt_of_le s7bg hx.size
      clear s7bg
      clear hx
      obtain ⟨wk, rfl⟩ : ∃ v : World, v = wc := ⟨_, rfl⟩
      have a2q0 := XXa2_2_3_4_5_6_7_8.out 0 _ rfl
      have a2q1 := XXa2_2_3_4_5_6_7_8.out 1 _ rfl
      have a2q2 := XXa2_2_3_4_5_6_7_8.out 2 _ rfl
      have by_q0 := Xby__7_8.out 0 _ rfl
      have by_q1 := Xby__7_8.out 1 _ rfl
      have by_q2 := Xby__7_8.out 2 _ rfl
      go_upto_region 16 with fail
      go_cut [57] (fun s wx => s = .bool false ∧ Below wk.heap.size wk wx)
      case first =>
        go_region_with (first
          | (go_at_call 16; refine (HT2.out _ ?_).mono ?_; exact ⟨HB8.out.os, HB8.out.tape, HB8.out.output, HB8.out.size, HB8.out.block⟩; rintro e y1 ⟨Fy, dy, rfl, hoy, hxy'⟩; have hxy : Below wk.heap.size wk y1 := undrew hxy'; clear hxy'; have HOY := Lib.hid hoy; have HPY := Lib.hid (HO5_6_7_8.out.below (Nat.le_refl _) hxy); obtain ⟨r0, r1, r2⟩ : y1.cell? ⟨v5.heap.size, 0, none⟩ = some (.int .i64 gw2) ∧ y1.cell? ⟨v5.heap.size, 1, none⟩ = some (.int .i64 gh2) ∧ y1.cell? ⟨v5.heap.size, 2, none⟩ = some (.slice F5 n2 d5) := ⟨BoxK.below Xby__7_8.out hxy s8by_ 0 _ rfl, BoxK.below Xby__7_8.out hxy s8by_ 1 _ rfl, BoxK.below Xby__7_8.out hxy s8by_ 2 _ rfl⟩; have HXY := Lib.hid hxy; have zy := hxy.size; clear hoy hxy)
          | (go_at_call 17; refine (eqG gw2 gh2 HPY.out HOY.out (by omega)).mono ?_; rintro e y2 ⟨rfl, hxz⟩))
        all_goals
          have HE := Lib.hid (HXY.out.trans (hxz.mono zy))
          clear hxz
          go_wp2_with fail
          go_meet
          case rel => exact ⟨rfl, HE.out⟩
      case rest =>
        obtain ⟨rfl, hx⟩ := hcut
        clear a2q0 a2q1 a2q2
        clear by_q0 by_q1 by_q2
        have HO3_4_5_6_7_8_9 := Lib.hid (HO3_4_5_6_7_8.out.below (Nat.le_refl _) hx)
        clear HO3_4_5_6_7_8
        have HO4_5_6_7_8_9 := Lib.hid (HO4_5_6_7_8.out.below (Nat.le_refl _) hx)
        clear HO4_5_6_7_8
        have HO5_6_7_8_9 := Lib.hid (HO5_6_7_8.out.below (Nat.le_refl _) hx)
        clear HO5_6_7_8
        have HO6_7_8_9 := Lib.hid (HO6_7_8.out.below (Nat.le_refl _) hx)
        clear HO6_7_8
        have HB9 := Lib.hid (HB8.out.trans (hx.mono z8))
        clear HB8
        have z9 : w.heap.size ≤ wc.heap.size := HB9.out.size
        clear z8
        have ch9 : wk.heap.size ≤ wc.heap.size := hx.size
        have XXa_2_3_4_5_6_7_8_9 := Lib.hid (BoxK.below XXa_2_3_4_5_6_7_8.out hx s8a)
        clear XXa_2_3_4_5_6_7_8
        have s9a : w.heap.size < wc.heap.size := Nat.lt_of_lt_of_le s8a hx.size
        clear s8a
        have XXa2_2_3_4_5_6_7_8_9 := Lib.hid (BoxK.below XXa2_2_3_4_5_6_7_8.out hx s8a2)
        clear XXa2_2_3_4_5_6_7_8
        have s9a2 : w.heap.size + 1 < wc.heap.size := Nat.lt_of_lt_of_le s8a2 hx.size
        clear s8a2
        have Xbw_4_5_6_7_8_9 := Lib.hid (BoxK.below Xbw_4_5_6_7_8.out hx s8bw)
        clear Xbw_4_5_6_7_8
        have s9bw : pw0_ < wc.heap.size := Nat.lt_of_lt_of_le s8bw hx.size
        clear s8bw
        have Xbx_6_7_8_9 := Lib.hid (BoxK.below Xbx_6_7_8.out hx s8bx)
        clear Xbx_6_7_8
        have s9bx : v4.heap.size < wc.heap.size := Nat.lt_of_lt_of_le s8bx hx.size
        clear s8bx
        have Xby__7_8_9 := Lib.hid (BoxK.below Xby__7_8.out hx s8by_)
        clear Xby__7_8
        have s9by_ : v5.heap.size < wc.heap.size := Nat.lt_of_lt_of_le s8by_ hx.size
        clear s8by_
        have Xbg_8_9 := Lib.hid (BoxK.below Xbg_8.out hx s8bg)
        clear Xbg_8
        have s9bg : v6.heap.size < wc.heap.size := Nat.lt_of_lt_of_le s8bg hx.size
        clear s8bg
        clear hx
        obtain ⟨wj, rfl⟩ : ∃ v : World, v = wc := ⟨_, rfl⟩
        have bxq0 := Xbx_6_7_8_9.out 0 _ rfl
        have bxq1 := Xbx_6_7_8_9.out 1 _ rfl
        have bxq2 := Xbx_6_7_8_9.out 2 _ rfl
        go_wp2_with fail
        refine (markGrid_any gw gh _ n _ _ cs (1) _ HO4_5_6_7_8_9.out (by omega) (by omega) (by omega)).mono ?_
        rintro e v10 ⟨rfl, ho10, on10⟩
        clear bxq0 bxq1 bxq2
        have HO10 := Lib.hid ho10
        clear ho10
        have HO3_4_5_6_7_8_9_10 := Lib.hid (HO3_4_5_6_7_8_9.out.only on10 (fun i hi hs => by have h1 := HL3.out i hi; have h2 := HL4.out i hs; have hq1 := h1.2.1; have hq2 := h2.2.1; omega))
        clear HO3_4_5_6_7_8_9
        have HO5_6_7_8_9_10 := Lib.hid (HO5_6_7_8_9.out.only on10 (fun i hi hs => by have h1 := HL5.out i hi; have h2 := HL4.out i hs; have hq1 := h1.2.1; have hq2 := h2.2.1; omega))
        clear HO5_6_7_8_9
        have HO6_7_8_9_10 := Lib.hid (HO6_7_8_9.out.only on10 (fun i hi hs => by have h1 := HL6.out i hi; have h2 := HL4.out i hs; have hq1 := h1.2.1; have hq2 := h2.2.1; omega))
        clear HO6_7_8_9
        have HB10 := Lib.hid (Only.below_ on10 HB9.out z9 (fun i hs => by have h2 := HL4.out i hs; omega))
        clear HB9
        have z10 : w.heap.size ≤ v10.heap.size := HB10.out.size
        clear z9
        have ch10 : wj.heap.size ≤ v10.heap.size := on10.size
        have XXa_2_3_4_5_6_7_8_9_10 := Lib.hid (BoxK.only XXa_2_3_4_5_6_7_8_9.out on10 (fun hs => by have h2 := HL4.out _ hs; first | omega | exact h2.2.1 rfl))
        clear XXa_2_3_4_5_6_7_8_9
        have s10a : w.heap.size < v10.heap.size := Nat.lt_of_lt_of_le s9a on10.size
        clear s9a
        have XXa2_2_3_4_5_6_7_8_9_10 := Lib.hid (BoxK.only XXa2_2_3_4_5_6_7_8_9.out on10 (fun hs => by have h2 := HL4.out _ hs; first | omega | exact h2.2.1 rfl))
        clear XXa2_2_3_4_5_6_7_8_9
        have s10a2 : w.heap.size + 1 < v10.heap.size := Nat.lt_of_lt_of_le s9a2 on10.size
        clear s9a2
        have Xbw_4_5_6_7_8_9_10 := Lib.hid (BoxK.only Xbw_4_5_6_7_8_9.out on10 (fun hs => by have h2 := HL4.out _ hs; first | omega | exact h2.2.1 rfl))
        clear Xbw_4_5_6_7_8_9
        have s10bw : pw0_ < v10.heap.size := Nat.lt_of_lt_of_le s9bw on10.size
        clear s9bw
        have Xbx_6_7_8_9_10 := Lib.hid (BoxK.only Xbx_6_7_8_9.out on10 (fun hs => by have h2 := HL4.out _ hs; first | omega | exact h2.2.1 rfl))
        clear Xbx_6_7_8_9
        have s10bx : v4.heap.size < v10.heap.size := Nat.lt_of_lt_of_le s9bx on10.size
        clear s9bx
        have Xby__7_8_9_10 := Lib.hid (BoxK.only Xby__7_8_9.out on10 (fun hs => by have h2 := HL4.out _ hs; first | omega | exact h2.2.1 rfl))
        clear Xby__7_8_9
        have s10by_ : v5.heap.size < v10.heap.size := Nat.lt_of_lt_of_le s9by_ on10.size
        clear s9by_
        have Xbg_8_9_10 := Lib.hid (BoxK.only Xbg_8_9.out on10 (fun hs => by have h2 := HL4.out _ hs; first | omega | exact h2.2.1 rfl))
        clear Xbg_8_9
        have s10bg : v6.heap.size < v10.heap.size := Nat.lt_of_lt_of_le s9bg on10.size
        clear s9bg
        clear on10 HO4_5_6_7_8_9
        clear HO10 HL4
        have by_q0 := Xby__7_8_9_10.out 0 _ rfl
        have by_q1 := Xby__7_8_9_10.out 1 _ rfl
        have by_q2 := Xby__7_8_9_10.out 2 _ rfl
        go_wp2_with fail
        refine (markGrid_any gw2 gh2 _ n2 _ _ cs2 (1 + 6 * (n : Int)) _ HO5_6_7_8_9_10.out (by omega) (by omega) (by omega)).mono ?_
        rintro e v11 ⟨rfl, ho11, on11⟩
        clear by_q0 by_q1 by_q2
        have HO11 := Lib.hid ho11
        clear ho11
        have HO3_4_5_6_7_8_9_10_11 := Lib.hid (HO3_4_5_6_7_8_9_10.out.only on11 (fun i hi hs => by have h1 := HL3.out i hi; have h2 := HL5.out i hs; have hq1 := h1.2.1; have hq2 := h2.2.1; omega))
        clear HO3_4_5_6_7_8_9_10
        have HO6_7_8_9_10_11 := Lib.hid (HO6_7_8_9_10.out.only on11 (fun i hi hs => by have h1 := HL6.out i hi; have h2 := HL5.out i hs; have hq1 := h1.2.1; have hq2 := h2.2.1; omega))
        clear HO6_7_8_9_10
        have HB11 := Lib.hid (Only.below_ on11 HB10.out z10 (fun i hs => by have h2 := HL5.out i hs; omega))
        clear HB10
        have z11 : w.heap.size ≤ v11.heap.size := HB11.out.size
        clear z10
        have ch11 : v10.heap.size ≤ v11.heap.size := on11.size
        have XXa_2_3_4_5_6_7_8_9_10_11 := Lib.hid (BoxK.only XXa_2_3_4_5_6_7_8_9_10.out on11 (fun hs => by have h2 := HL5.out _ hs; first | omega | exact h2.2.1 rfl))
        clear XXa_2_3_4_5_6_7_8_9_10
        have s11a : w.heap.size < v11.heap.size := Nat.lt_of_lt_of_le s10a on11.size
        clear s10a
        have XXa2_2_3_4_5_6_7_8_9_10_11 := Lib.hid (BoxK.only XXa2_2_3_4_5_6_7_8_9_10.out on11 (fun hs => by have h2 := HL5.out _ hs; first | omega | exact h2.2.1 rfl))
        clear XXa2_2_3_4_5_6_7_8_9_10
        have s11a2 : w.heap.size + 1 < v11.heap.size := Nat.lt_of_lt_of_le s10a2 on11.size
        clear s10a2
        have Xbw_4_5_6_7_8_9_10_11 := Lib.hid (BoxK.only Xbw_4_5_6_7_8_9_10.out on11 (fun hs => by have h2 := HL5.out _ hs; first | omega | exact h2.2.1 rfl))
        clear Xbw_4_5_6_7_8_9_10
        have s11bw : pw0_ < v11.heap.size := Nat.lt_of_lt_of_le s10bw on11.size
        clear s10bw
        have Xbx_6_7_8_9_10_11 := Lib.hid (BoxK.only Xbx_6_7_8_9_10.out on11 (fun hs => by have h2 := HL5.out _ hs; first | omega | exact h2.2.1 rfl))
        clear Xbx_6_7_8_9_10
        have s11bx : v4.heap.size < v11.heap.size := Nat.lt_of_lt_of_le s10bx on11.size
        clear s10bx
        have Xby__7_8_9_10_11 := Lib.hid (BoxK.only Xby__7_8_9_10.out on11 (fun hs => by have h2 := HL5.out _ hs; first | omega | exact h2.2.1 rfl))
        clear Xby__7_8_9_10
        have s11by_ : v5.heap.size < v11.heap.size := Nat.lt_of_lt_of_le s10by_ on11.size
        clear s10by_
        have Xbg_8_9_10_11 := Lib.hid (BoxK.only Xbg_8_9_10.out on11 (fun hs => by have h2 := HL5.out _ hs; first | omega | exact h2.2.1 rfl))
        clear Xbg_8_9_10
        have s11bg : v6.heap.size < v11.heap.size := Nat.lt_of_lt_of_le s10bg on11.size
        clear s10bg
        clear on11 HO5_6_7_8_9_10
        clear HO11 HL5
        have bgq0 := Xbg_8_9_10_11.out 0 _ rfl
        have bgq1 := Xbg_8_9_10_11.out 1 _ rfl
        have bgq2 := Xbg_8_9_10_11.out 2 _ rfl
        have bwq0 := Xbw_4_5_6_7_8_9_10_11.out 0 _ rfl
        have bwq1 := Xbw_4_5_6_7_8_9_10_11.out 1 _ rfl
        have bwq2 := Xbw_4_5_6_7_8_9_10_11.out 2 _ rfl
        have HP0 := HO6_7_8_9_10_11
        have HP1 := HO3_4_5_6_7_8_9_10_11
        go_wp2_with fail
        refine (eqG rw_ rh_ HP0.out HP1.out (by omega)).mono ?_
        rintro e v12 ⟨rfl, hx12⟩
        clear bgq0 bgq1 bgq2
        clear bwq0 bwq1 bwq2
        have hst12 : Below v11.heap.size v11 v12 := hx12
        have HO3_4_5_6_7_8_9_10_11_12 := Lib.hid (HO3_4_5_6_7_8_9_10_11.out.below (Nat.le_refl _) hst12)
        clear HO3_4_5_6_7_8_9_10_11
        have HO6_7_8_9_10_11_12 := Lib.hid (HO6_7_8_9_10_11.out.below (Nat.le_refl _) hst12)
        clear HO6_7_8_9_10_11
        have HB12 := Lib.hid (HB11.out.trans (hst12.mono z11))
        clear HB11
        have z12 : w.heap.size ≤ v12.heap.size := HB12.out.size
        clear z11
        have ch12 : v11.heap.size ≤ v12.heap.size := hst12.size
        have XXa_2_3_4_5_6_7_8_9_10_11_12 := Lib.hid (BoxK.below XXa_2_3_4_5_6_7_8_9_10_11.out hst12 s11a)
        clear XXa_2_3_4_5_6_7_8_9_10_11
        have s12a : w.heap.size < v12.heap.size := Nat.lt_of_lt_of_le s11a hst12.size
        clear s11a
        have XXa2_2_3_4_5_6_7_8_9_10_11_12 := Lib.hid (BoxK.below XXa2_2_3_4_5_6_7_8_9_10_11.out hst12 s11a2)
        clear XXa2_2_3_4_5_6_7_8_9_10_11
        have s12a2 : w.heap.size + 1 < v12.heap.size := Nat.lt_of_lt_of_le s11a2 hst12.size
        clear s11a2
        have Xbw_4_5_6_7_8_9_10_11_12 := Lib.hid (BoxK.below Xbw_4_5_6_7_8_9_10_11.out hst12 s11bw)
        clear Xbw_4_5_6_7_8_9_10_11
        have s12bw : pw0_ < v12.heap.size := Nat.lt_of_lt_of_le s11bw hst12.size
        clear s11bw
        have Xbx_6_7_8_9_10_11_12 := Lib.hid (BoxK.below Xbx_6_7_8_9_10_11.out hst12 s11bx)
        clear Xbx_6_7_8_9_10_11
        have s12bx : v4.heap.size < v12.heap.size := Nat.lt_of_lt_of_le s11bx hst12.size
        clear s11bx
        have Xby__7_8_9_10_11_12 := Lib.hid (BoxK.below Xby__7_8_9_10_11.out hst12 s11by_)
        clear Xby__7_8_9_10_11
        have s12by_ : v5.heap.size < v12.heap.size := Nat.lt_of_lt_of_le s11by_ hst12.size
        clear s11by_
        have Xbg_8_9_10_11_12 := Lib.hid (BoxK.below Xbg_8_9_10_11.out hst12 s11bg)
        clear Xbg_8_9_10_11
        have s12bg : v6.heap.size < v12.heap.size := Nat.lt_of_lt_of_le s11bg hst12.size
        clear s11bg
        clear hx12 hst12
        have bgq0 := Xbg_8_9_10_11_12.out 0 _ rfl
        have bgq1 := Xbg_8_9_10_11_12.out 1 _ rfl
        have bgq2 := Xbg_8_9_10_11_12.out 2 _ rfl
        go_wp2_with fail
        refine (markGrid_any rw_ rh_ _ m _ _ rcs (1) _ HO6_7_8_9_10_11_12.out (by omega) (by omega) (by omega)).mono ?_
        rintro e v13 ⟨rfl, ho13, on13⟩
        clear bgq0 bgq1 bgq2
        have HO13 := Lib.hid ho13
        clear ho13
        have HO3_4_5_6_7_8_9_10_11_12_13 := Lib.hid (HO3_4_5_6_7_8_9_10_11_12.out.only on13 (fun i hi hs => by have h1 := HL3.out i hi; have h2 := HL6.out i hs; have hq1 := h1.2.1; have hq2 := h2.2.1; omega))
        clear HO3_4_5_6_7_8_9_10_11_12
        have HB13 := Lib.hid (Only.below_ on13 HB12.out z12 (fun i hs => by have h2 := HL6.out i hs; omega))
        clear HB12
        have z13 : w.heap.size ≤ v13.heap.size := HB13.out.size
        clear z12
        have ch13 : v12.heap.size ≤ v13.heap.size := on13.size
        have XXa_2_3_4_5_6_7_8_9_10_11_12_13 := Lib.hid (BoxK.only XXa_2_3_4_5_6_7_8_9_10_11_12.out on13 (fun hs => by have h2 := HL6.out _ hs; first | omega | exact h2.2.1 rfl))
        clear XXa_2_3_4_5_6_7_8_9_10_11_12
        have s13a : w.heap.size < v13.heap.size := Nat.lt_of_lt_of_le s12a on13.size
        clear s12a
        have XXa2_2_3_4_5_6_7_8_9_10_11_12_13 := Lib.hid (BoxK.only XXa2_2_3_4_5_6_7_8_9_10_11_12.out on13 (fun hs => by have h2 := HL6.out _ hs; first | omega | exact h2.2.1 rfl))
        clear XXa2_2_3_4_5_6_7_8_9_10_11_12
        have s13a2 : w.heap.size + 1 < v13.heap.size := Nat.lt_of_lt_of_le s12a2 on13.size
        clear s12a2
        have Xbw_4_5_6_7_8_9_10_11_12_13 := Lib.hid (BoxK.only Xbw_4_5_6_7_8_9_10_11_12.out on13 (fun hs => by have h2 := HL6.out _ hs; first | omega | exact h2.2.1 rfl))
        clear Xbw_4_5_6_7_8_9_10_11_12
        have s13bw : pw0_ < v13.heap.size := Nat.lt_of_lt_of_le s12bw on13.size
        clear s12bw
        have Xbx_6_7_8_9_10_11_12_13 := Lib.hid (BoxK.only Xbx_6_7_8_9_10_11_12.out on13 (fun hs => by have h2 := HL6.out _ hs; first | omega | exact h2.2.1 rfl))
        clear Xbx_6_7_8_9_10_11_12
        have s13bx : v4.heap.size < v13.heap.size := Nat.lt_of_lt_of_le s12bx on13.size
        clear s12bx
        have Xby__7_8_9_10_11_12_13 := Lib.hid (BoxK.only Xby__7_8_9_10_11_12.out on13 (fun hs => by have h2 := HL6.out _ hs; first | omega | exact h2.2.1 rfl))
        clear Xby__7_8_9_10_11_12
        have s13by_ : v5.heap.size < v13.heap.size := Nat.lt_of_lt_of_le s12by_ on13.size
        clear s12by_
        have Xbg_8_9_10_11_12_13 := Lib.hid (BoxK.only Xbg_8_9_10_11_12.out on13 (fun hs => by have h2 := HL6.out _ hs; first | omega | exact h2.2.1 rfl))
        clear Xbg_8_9_10_11_12
        have s13bg : v6.heap.size < v13.heap.size := Nat.lt_of_lt_of_le s12bg on13.size
        clear s12bg
        clear on13 HO6_7_8_9_10_11_12
        have bgq0 := Xbg_8_9_10_11_12_13.out 0 _ rfl
        have bgq1 := Xbg_8_9_10_11_12_13.out 1 _ rfl
        have bgq2 := Xbg_8_9_10_11_12_13.out 2 _ rfl
        have HP0 := HO13
        go_wp2_with fail
        refine (heldGrid_any rw_ rh_ _ m _ (1) _ HP0.out.rd (by omega) (by omega) (by omega)).mono ?_
        rintro e v14 ⟨rfl, hx14⟩
        clear bgq0 bgq1 bgq2
        have hst14 : Below v13.heap.size v13 v14 := hx14
        have HO3_4_5_6_7_8_9_10_11_12_13_14 := Lib.hid (HO3_4_5_6_7_8_9_10_11_12_13.out.below (Nat.le_refl _) hst14)
        clear HO3_4_5_6_7_8_9_10_11_12_13
        have HO13_14 := Lib.hid (HO13.out.below (Nat.le_refl _) hst14)
        clear HO13
        have HB14 := Lib.hid (HB13.out.trans (hst14.mono z13))
        clear HB13
        have z14 : w.heap.size ≤ v14.heap.size := HB14.out.size
        clear z13
        have ch14 : v13.heap.size ≤ v14.heap.size := hst14.size
        have XXa_2_3_4_5_6_7_8_9_10_11_12_13_14 := Lib.hid (BoxK.below XXa_2_3_4_5_6_7_8_9_10_11_12_13.out hst14 s13a)
        clear XXa_2_3_4_5_6_7_8_9_10_11_12_13
        have s14a : w.heap.size < v14.heap.size := Nat.lt_of_lt_of_le s13a hst14.size
        clear s13a
        have XXa2_2_3_4_5_6_7_8_9_10_11_12_13_14 := Lib.hid (BoxK.below XXa2_2_3_4_5_6_7_8_9_10_11_12_13.out hst14 s13a2)
        clear XXa2_2_3_4_5_6_7_8_9_10_11_12_13
        have s14a2 : w.heap.size + 1 < v14.heap.size := Nat.lt_of_lt_of_le s13a2 hst14.size
        clear s13a2
        have Xbw_4_5_6_7_8_9_10_11_12_13_14 := Lib.hid (BoxK.below Xbw_4_5_6_7_8_9_10_11_12_13.out hst14 s13bw)
        clear Xbw_4_5_6_7_8_9_10_11_12_13
        have s14bw : pw0_ < v14.heap.size := Nat.lt_of_lt_of_le s13bw hst14.size
        clear s13bw
        have Xbx_6_7_8_9_10_11_12_13_14 := Lib.hid (BoxK.below Xbx_6_7_8_9_10_11_12_13.out hst14 s13bx)
        clear Xbx_6_7_8_9_10_11_12_13
        have s14bx : v4.heap.size < v14.heap.size := Nat.lt_of_lt_of_le s13bx hst14.size
        clear s13bx
        have Xby__7_8_9_10_11_12_13_14 := Lib.hid (BoxK.below Xby__7_8_9_10_11_12_13.out hst14 s13by_)
        clear Xby__7_8_9_10_11_12_13
        have s14by_ : v5.heap.size < v14.heap.size := Nat.lt_of_lt_of_le s13by_ hst14.size
        clear s13by_
        have Xbg_8_9_10_11_12_13_14 := Lib.hid (BoxK.below Xbg_8_9_10_11_12_13.out hst14 s13bg)
        clear Xbg_8_9_10_11_12_13
        have s14bg : v6.heap.size < v14.heap.size := Nat.lt_of_lt_of_le s13bg hst14.size
        clear s13bg
        clear hx14 hst14
        have HBD := Lib.hid (show Below w.heap.size w v14.drew from ⟨HB14.out.os, HB14.out.tape, HB14.out.output, HB14.out.size, HB14.out.block⟩)
        have HBZ := HB14
        have ZZ := Lib.hid z14
        have XAC := XXa2_2_3_4_5_6_7_8_9_10_11_12_13_14
        have SAC := Lib.hid s14a2
        have aq0 := XXa_2_3_4_5_6_7_8_9_10_11_12_13_14.out 0 _ rfl
        have aq1 := XXa_2_3_4_5_6_7_8_9_10_11_12_13_14.out 1 _ rfl
        have aq2 := XXa_2_3_4_5_6_7_8_9_10_11_12_13_14.out 2 _ rfl
        have a2q0 := XXa2_2_3_4_5_6_7_8_9_10_11_12_13_14.out 0 _ rfl
        have a2q1 := XXa2_2_3_4_5_6_7_8_9_10_11_12_13_14.out 1 _ rfl
        have a2q2 := XXa2_2_3_4_5_6_7_8_9_10_11_12_13_14.out 2 _ rfl
        go_upto_region 31 with fail
        go_cut [17] (fun s wx => RelG v14 rw_ rh_ m rcs s wx)
        case first =>
          go_region_with (first
            | (go_at_call 16; (with_reducible refine (HT.out _ ?_).mono ?_); (first | exact HBD.out | exact HBD.out.alloc HBD.out.size _); rintro e y1 ⟨F1, d1, rfl, ho1, hx1⟩; (first | (have HS1 := Lib.hid (undrew hx1); have hs1 : v14.heap.size ≤ y1.heap.size := HS1.out.size) | (have HS1 := Lib.hid (undrew (((Below.refl v14.heap.size v14.drew).alloc (Nat.le_refl _) _).trans (hx1.mono (by simp)))); have hs1 : v14.heap.size + 1 ≤ y1.heap.size := (by have := hx1.size; simpa using this); have NB := Lib.hid (show BoxG y1 v14.heap.size #[.int .i64 0, .int .i64 0, .slice none 0 0] from BoxG.below (BoxG.new v14.drew #[.int .i64 0, .int .i64 0, .slice none 0 0]) hx1 (by simp)))); have HO1 := Lib.hid ho1; have hac1 : w.heap.size + 1 < y1.heap.size := Nat.lt_of_lt_of_le SAC.out HS1.out.size; have HBY := Lib.hid (HBZ.out.trans (HS1.out.mono ZZ.out)); have rc0 : y1.cell? ⟨w.heap.size + 1, 0, none⟩ = some (.int .i64 gw2) := BoxK.below XAC.out HS1.out SAC.out 0 _ rfl; have rc1 : y1.cell? ⟨w.heap.size + 1, 1, none⟩ = some (.int .i64 gh2) := BoxK.below XAC.out HS1.out SAC.out 1 _ rfl; have rc2 : y1.cell? ⟨w.heap.size + 1, 2, none⟩ = some (.slice A2 n2 c2) := BoxK.below XAC.out HS1.out SAC.out 2 _ rfl; clear hx1 ho1)
            | (go_at_call 16; (with_reducible refine (HT2.out _ ?_).mono ?_); (first | exact HBY.out | exact HBY.out.alloc HBY.out.size _); rintro e y2 ⟨F2, d2, rfl, ho2, hx2⟩; have HP2 := Lib.hid ho2; (first | (have HS2 := Lib.hid (HS1.out.trans (hx2.mono HS1.out.size)); have HO2 := Lib.hid (HO1.out.below (Nat.le_refl _) hx2); have hs2 : y1.heap.size ≤ y2.heap.size := hx2.size; (first | replace NB := Lib.hid (NB.out.below hx2 (by first | exact NB.out.lt)) | skip)) | (have HS2 := Lib.hid (HS1.out.trans (((Below.refl y1.heap.size y1).alloc (Nat.le_refl _) _).trans (hx2.mono (by simp)) |>.mono HS1.out.size)); have HO2 := Lib.hid ((HO1.out.below (Nat.le_refl _) ((Below.refl _ _).alloc (Nat.le_refl _) _)).below (by simp) hx2); have hs2 : y1.heap.size + 1 ≤ y2.heap.size := (by have := hx2.size; simpa using this); have NB := Lib.hid (BoxG.below (BoxG.new y1 #[.int .i64 0, .int .i64 0, .slice none 0 0]) hx2 (by simp)))); clear hx2 ho2)
            | (go_at_call 13; (first | (with_reducible refine (HImpl.out _ _ _ _ _ _ _ HO2.out HP2.out).mono ?_) | (with_reducible refine (HImpl.out _ _ _ _ _ _ _ (HO2.out.below (Nat.le_refl _) ((Below.refl _ _).alloc (Nat.le_refl _) _)) (HP2.out.below (Nat.le_refl _) ((Below.refl _ _).alloc (Nat.le_refl _) _))).mono ?_)); rintro e y3 ⟨F3, d3, rfl, ho3, hx3⟩; (first | (have HS3 := Lib.hid (HS2.out.trans (hx3.mono HS2.out.size)); have HO3 := Lib.hid ho3; have hs3 : y2.heap.size ≤ y3.heap.size := hx3.size; (first | replace NB := Lib.hid (NB.out.below hx3 (by first | exact NB.out.lt)) | skip)) | (have HS3 := Lib.hid (HS2.out.trans (((Below.refl y2.heap.size y2).alloc (Nat.le_refl _) _).trans (hx3.mono (by simp)) |>.mono HS2.out.size)); have HO3 := Lib.hid ho3; have hs3 : y2.heap.size + 1 ≤ y3.heap.size := (by have := hx3.size; simpa using this); have NB := Lib.hid (BoxG.below (BoxG.new y2 #[.int .i64 0, .int .i64 0, .slice none 0 0]) hx3 (by simp)))); (first | (have n0 : y3.cell? ⟨_, 0, none⟩ = some (.int .i64 0) := NB.out.cell 0; have n1 : y3.cell? ⟨_, 1, none⟩ = some (.int .i64 0) := NB.out.cell 1; have n2 : y3.cell? ⟨_, 2, none⟩ = some (.slice none 0 0) := NB.out.cell 2; have g0 := NB.out.free 0; have g1 := NB.out.free 1; have g2 := NB.out.free 2) | skip); clear hx3 ho3))
          all_goals
            go_wp2_with fail
            go_meet
            case rel =>
              (first | exact relG_al HO3.out HS3.out (by omega) | exact relG_set NB.out HO3.out HS3.out (by omega) (by first | omega | (simp; done) | (simp; omega)))
        case rest =>
          obtain ⟨Fh0_, dh0_, ph0_, rfl, hbk, ho, hown, hbb, hx⟩ := hcut
          clear aq0 aq1 aq2
          clear a2q0 a2q1 a2q2
          clear HBD XAC SAC HBZ ZZ
          obtain ⟨wk15, rfl⟩ : ∃ v : World, v = wc := ⟨_, rfl⟩
          have HO3_4_5_6_7_8_9_10_11_12_13_14_15 := Lib.hid (HO3_4_5_6_7_8_9_10_11_12_13_14.out.below (Nat.le_refl _) hx)
          clear HO3_4_5_6_7_8_9_10_11_12_13_14
          have HO13_14_15 := Lib.hid (HO13_14.out.below (Nat.le_refl _) hx)
          clear HO13_14
          have HB15 := Lib.hid (HB14.out.trans (hx.mono z14))
          clear HB14
          have z15 : w.heap.size ≤ wk15.heap.size := HB15.out.size
          clear z14
          have ch15 : v14.heap.size ≤ wk15.heap.size := hx.size
          have XXa_2_3_4_5_6_7_8_9_10_11_12_13_14_15 := Lib.hid (BoxK.below XXa_2_3_4_5_6_7_8_9_10_11_12_13_14.out hx s14a)
          clear XXa_2_3_4_5_6_7_8_9_10_11_12_13_14
          have s15a : w.heap.size < wk15.heap.size := Nat.lt_of_lt_of_le s14a hx.size
          clear s14a
          have XXa2_2_3_4_5_6_7_8_9_10_11_12_13_14_15 := Lib.hid (BoxK.below XXa2_2_3_4_5_6_7_8_9_10_11_12_13_14.out hx s14a2)
          clear XXa2_2_3_4_5_6_7_8_9_10_11_12_13_14
          have s15a2 : w.heap.size + 1 < wk15.heap.size := Nat.lt_of_lt_of_le s14a2 hx.size
          clear s14a2
          have Xbw_4_5_6_7_8_9_10_11_12_13_14_15 := Lib.hid (BoxK.below Xbw_4_5_6_7_8_9_10_11_12_13_14.out hx s14bw)
          clear Xbw_4_5_6_7_8_9_10_11_12_13_14
          have s15bw : pw0_ < wk15.heap.size := Nat.lt_of_lt_of_le s14bw hx.size
          clear s14bw
          have Xbx_6_7_8_9_10_11_12_13_14_15 := Lib.hid (BoxK.below Xbx_6_7_8_9_10_11_12_13_14.out hx s14bx)
          clear Xbx_6_7_8_9_10_11_12_13_14
          have s15bx : v4.heap.size < wk15.heap.size := Nat.lt_of_lt_of_le s14bx hx.size
          clear s14bx
          have Xby__7_8_9_10_11_12_13_14_15 := Lib.hid (BoxK.below Xby__7_8_9_10_11_12_13_14.out hx s14by_)
          clear Xby__7_8_9_10_11_12_13_14
          have s15by_ : v5.heap.size < wk15.heap.size := Nat.lt_of_lt_of_le s14by_ hx.size
          clear s14by_
          have Xbg_8_9_10_11_12_13_14_15 := Lib.hid (BoxK.below Xbg_8_9_10_11_12_13_14.out hx s14bg)
          clear Xbg_8_9_10_11_12_13_14
          have s15bg : v6.heap.size < wk15.heap.size := Nat.lt_of_lt_of_le s14bg hx.size
          clear s14bg
          have HO15 := Lib.hid ho
          have HL15 := Lib.hid hown
          have Xbh := Lib.hid hbk
          obtain ⟨lobh, snbh⟩ := hbb
          have tbh := snbh
          clear hx ho hown hbk
          have bhq0 := Xbh.out 0 _ rfl
          have bhq1 := Xbh.out 1 _ rfl
          have bhq2 := Xbh.out 2 _ rfl
          have bwq0 := Xbw_4_5_6_7_8_9_10_11_12_13_14_15.out 0 _ rfl
          have bwq1 := Xbw_4_5_6_7_8_9_10_11_12_13_14_15.out 1 _ rfl
          have bwq2 := Xbw_4_5_6_7_8_9_10_11_12_13_14_15.out 2 _ rfl
          have HP0 := HO15
          have HP1 := HO3_4_5_6_7_8_9_10_11_12_13_14_15
          go_wp2_with fail
          refine (eqG rw_ rh_ HP0.out HP1.out (by omega)).mono ?_
          rintro e v16 ⟨rfl, hx16⟩
          clear bhq0 bhq1 bhq2
          clear bwq0 bwq1 bwq2
          have hst16 : Below wk15.heap.size wk15 v16 := hx16
          have HO3_4_5_6_7_8_9_10_11_12_13_14_15_16 := Lib.hid (HO3_4_5_6_7_8_9_10_11_12_13_14_15.out.below (Nat.le_refl _) hst16)
          clear HO3_4_5_6_7_8_9_10_11_12_13_14_15
          have HO13_14_15_16 := Lib.hid (HO13_14_15.out.below (Nat.le_refl _) hst16)
          clear HO13_14_15
          have HO15_16 := Lib.hid (HO15.out.below (Nat.le_refl _) hst16)
          clear HO15
          have HB16 := Lib.hid (HB15.out.trans (hst16.mono z15))
          clear HB15
          have z16 : w.heap.size ≤ v16.heap.size := HB16.out.size
          clear z15
          have ch16 : wk15.heap.size ≤ v16.heap.size := hst16.size
          have XXa_2_3_4_5_6_7_8_9_10_11_12_13_14_15_16 := Lib.hid (BoxK.below XXa_2_3_4_5_6_7_8_9_10_11_12_13_14_15.out hst16 s15a)
          clear XXa_2_3_4_5_6_7_8_9_10_11_12_13_14_15
          have s16a : w.heap.size < v16.heap.size := Nat.lt_of_lt_of_le s15a hst16.size
          clear s15a
          have XXa2_2_3_4_5_6_7_8_9_10_11_12_13_14_15_16 := Lib.hid (BoxK.below XXa2_2_3_4_5_6_7_8_9_10_11_12_13_14_15.out hst16 s15a2)
          clear XXa2_2_3_4_5_6_7_8_9_10_11_12_13_14_15
          have s16a2 : w.heap.size + 1 < v16.heap.size := Nat.lt_of_lt_of_le s15a2 hst16.size
          clear s15a2
          have Xbw_4_5_6_7_8_9_10_11_12_13_14_15_16 := Lib.hid (BoxK.below Xbw_4_5_6_7_8_9_10_11_12_13_14_15.out hst16 s15bw)
          clear Xbw_4_5_6_7_8_9_10_11_12_13_14_15
          have s16bw : pw0_ < v16.heap.size := Nat.lt_of_lt_of_le s15bw hst16.size
          clear s15bw
          have Xbx_6_7_8_9_10_11_12_13_14_15_16 := Lib.hid (BoxK.below Xbx_6_7_8_9_10_11_12_13_14_15.out hst16 s15bx)
          clear Xbx_6_7_8_9_10_11_12_13_14_15
          have s16bx : v4.heap.size < v16.heap.size := Nat.lt_of_lt_of_le s15bx hst16.size
          clear s15bx
          have Xby__7_8_9_10_11_12_13_14_15_16 := Lib.hid (BoxK.below Xby__7_8_9_10_11_12_13_14_15.out hst16 s15by_)
          clear Xby__7_8_9_10_11_12_13_14_15
          have s16by_ : v5.heap.size < v16.heap.size := Nat.lt_of_lt_of_le s15by_ hst16.size
          clear s15by_
          have Xbg_8_9_10_11_12_13_14_15_16 := Lib.hid (BoxK.below Xbg_8_9_10_11_12_13_14_15.out hst16 s15bg)
          clear Xbg_8_9_10_11_12_13_14_15
          have s16bg : v6.heap.size < v16.heap.size := Nat.lt_of_lt_of_le s15bg hst16.size
          clear s15bg
          have Xbh_16 := Lib.hid (BoxK.below Xbh.out hst16 snbh)
          clear Xbh
          have s16bh : ph0_ < v16.heap.size := Nat.lt_of_lt_of_le snbh hst16.size
          clear snbh
          clear hx16 hst16
          have bgq0 := Xbg_8_9_10_11_12_13_14_15_16.out 0 _ rfl
          have bgq1 := Xbg_8_9_10_11_12_13_14_15_16.out 1 _ rfl
          have bgq2 := Xbg_8_9_10_11_12_13_14_15_16.out 2 _ rfl
          have HP0 := HO13_14_15_16
          go_wp2_with fail
          refine (heldGrid_any rw_ rh_ _ m _ (1) _ HP0.out.rd (by omega) (by omega) (by omega)).mono ?_
          rintro e v17 ⟨rfl, hx17⟩
          clear bgq0 bgq1 bgq2
          have hst17 : Below v16.heap.size v16 v17 := hx17
          have HO3_4_5_6_7_8_9_10_11_12_13_14_15_16_17 := Lib.hid (HO3_4_5_6_7_8_9_10_11_12_13_14_15_16.out.below (Nat.le_refl _) hst17)
          clear HO3_4_5_6_7_8_9_10_11_12_13_14_15_16
          have HO13_14_15_16_17 := Lib.hid (HO13_14_15_16.out.below (Nat.le_refl _) hst17)
          clear HO13_14_15_16
          have HO15_16_17 := Lib.hid (HO15_16.out.below (Nat.le_refl _) hst17)
          clear HO15_16
          have HB17 := Lib.hid (HB16.out.trans (hst17.mono z16))
          clear HB16
          have z17 : w.heap.size ≤ v17.heap.size := HB17.out.size
          clear z16
          have ch17 : v16.heap.size ≤ v17.heap.size := hst17.size
          have XXa_2_3_4_5_6_7_8_9_10_11_12_13_14_15_16_17 := Lib.hid (BoxK.below XXa_2_3_4_5_6_7_8_9_10_11_12_13_14_15_16.out hst17 s16a)
          clear XXa_2_3_4_5_6_7_8_9_10_11_12_13_14_15_16
          have s17a : w.heap.size < v17.heap.size := Nat.lt_of_lt_of_le s16a hst17.size
          clear s16a
          have XXa2_2_3_4_5_6_7_8_9_10_11_12_13_14_15_16_17 := Lib.hid (BoxK.below XXa2_2_3_4_5_6_7_8_9_10_11_12_13_14_15_16.out hst17 s16a2)
          clear XXa2_2_3_4_5_6_7_8_9_10_11_12_13_14_15_16
          have s17a2 : w.heap.size + 1 < v17.heap.size := Nat.lt_of_lt_of_le s16a2 hst17.size
          clear s16a2
          have Xbw_4_5_6_7_8_9_10_11_12_13_14_15_16_17 := Lib.hid (BoxK.below Xbw_4_5_6_7_8_9_10_11_12_13_14_15_16.out hst17 s16bw)
          clear Xbw_4_5_6_7_8_9_10_11_12_13_14_15_16
          have s17bw : pw0_ < v17.heap.size := Nat.lt_of_lt_of_le s16bw hst17.size
          clear s16bw
          have Xbx_6_7_8_9_10_11_12_13_14_15_16_17 := Lib.hid (BoxK.below Xbx_6_7_8_9_10_11_12_13_14_15_16.out hst17 s16bx)
          clear Xbx_6_7_8_9_10_11_12_13_14_15_16
          have s17bx : v4.heap.size < v17.heap.size := Nat.lt_of_lt_of_le s16bx hst17.size
          clear s16bx
          have Xby__7_8_9_10_11_12_13_14_15_16_17 := Lib.hid (BoxK.below Xby__7_8_9_10_11_12_13_14_15_16.out hst17 s16by_)
          clear Xby__7_8_9_10_11_12_13_14_15_16
          have s17by_ : v5.heap.size < v17.heap.size := Nat.lt_of_lt_of_le s16by_ hst17.size
          clear s16by_
          have Xbg_8_9_10_11_12_13_14_15_16_17 := Lib.hid (BoxK.below Xbg_8_9_10_11_12_13_14_15_16.out hst17 s16bg)
          clear Xbg_8_9_10_11_12_13_14_15_16
          have s17bg : v6.heap.size < v17.heap.size := Nat.lt_of_lt_of_le s16bg hst17.size
          clear s16bg
          have Xbh_16_17 := Lib.hid (BoxK.below Xbh_16.out hst17 s16bh)
          clear Xbh_16
          have s17bh : ph0_ < v17.heap.size := Nat.lt_of_lt_of_le s16bh hst17.size
          clear s16bh
          clear hx17 hst17
          go_wp2_with fail
          go_ret
          exact ⟨rfl, HB17.out⟩
end Go.Proofs.Ytgdjbpgfplcjpaa.fnExactGridPaste
