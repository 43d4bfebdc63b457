/- FnExactGridFill: the walk of the law from the contracts of the program, of its model and of the laws' helpers; at every input, no condition. -/
import Derived.Test.YtknopmbjbokpaaaGrRel
import Derived.Test.YtknopmbjbokpaaaGrMark
import Derived.Test.YtknopmbjbokpaaaGrFillO
import Derived.Deep.RegionWith
import Derived.Deep.Cut
import Derived.Deep.CutRange
import Derived.Deep.DeepCutAuto
import Derived.Deep.DrawnRows
namespace Go.Proofs.Ytknopmbjbokpaaa.fnExactGridFill
open Go.RowKit Go.Proofs.Ytknopmbjbokpaaa.Bytes Go.Proofs.Ytknopmbjbokpaaa.Rows_ Go.Proofs.Ytknopmbjbokpaaa.RowK Go.Proofs.Ytknopmbjbokpaaa.Gr
set_option linter.unusedVariables false
attribute [local go_sem ↓] Go.wp_at_zero Go.wp_at_succ
theorem own : ownKnob Try.prog.godebug = none := by kernel_rfl
set_option maxRecDepth 100000 in
set_option maxHeartbeats 16000000 in
theorem walk (gw gh : Int) (A : Option Addr) (n c : Nat) (cs : List CellD) (x y ww wh : Int) (r fg bg : Int) (bb bu bt : Bool) (w : World) (hr : RdC w w.heap.size A cs) (hl : cs.length = n) (hn : n ≤ 9223372036854775807) (wx : (Lit.int .i64 x).wf = true) (wy : (Lit.int .i64 y).wf = true) (www : (Lit.int .i64 ww).wf = true) (wwh : (Lit.int .i64 wh).wf = true) :
    Calls Try.prog 8 #[.agg #[.int .i64 gw, .int .i64 gh, .slice A n c], .int .i64 x, .int .i64 y, .int .i64 ww, .int .i64 wh, .agg #[.int .i64 r, .int .i64 fg, .int .i64 bg, .bool bb, .bool bu, .bool bt]] w fun e w' => e = .returned (.bool true) ∧ Below w.heap.size w w' := by
  have hb0 := Lib.hid (((Below.refl w.heap.size w).alloc (by simp <;> omega) (.cells #[.int .i64 gw, .int .i64 gh, .slice A n c] 47)).alloc (by simp <;> omega) (.cells #[.int .i64 r, .int .i64 fg, .int .i64 bg, .bool bb, .bool bu, .bool bt] 41))
  have x0a : BoxK (w.alloc (.cells #[.int .i64 gw, .int .i64 gh, .slice A n c] 47)) (w.heap.size) [.int .i64 gw, .int .i64 gh, .slice A n c] := by have h := BoxK.new w [.int .i64 gw, .int .i64 gh, .slice A n c] 47; exact h
  have x0ac : BoxK ((w.alloc (.cells #[.int .i64 gw, .int .i64 gh, .slice A n c] 47)).alloc (.cells #[.int .i64 r, .int .i64 fg, .int .i64 bg, .bool bb, .bool bu, .bool bt] 41)) (w.heap.size + 1) [.int .i64 r, .int .i64 fg, .int .i64 bg, .bool bb, .bool bu, .bool bt] := by have h := BoxK.new (w.alloc (.cells #[.int .i64 gw, .int .i64 gh, .slice A n c] 47)) [.int .i64 r, .int .i64 fg, .int .i64 bg, .bool bb, .bool bu, .bool bt] 41; simp only [World.size_alloc] at h; exact h
  replace x0a := BoxK.alloc x0a (by simp <;> omega) (.cells #[.int .i64 r, .int .i64 fg, .int .i64 bg, .bool bb, .bool bu, .bool bt] 41)
  have X0a := Lib.hid x0a
  clear x0a
  have X0ac := Lib.hid x0ac
  clear x0ac
  have HTB := Lib.hid (fun W (h : Below w.heap.size w W) (hn' : n ≤ 1048576) => toG (B := 0) gw gh A n c cs hr hl hn' h)
  have HLN := Lib.hid hl
  clear wx wy www wwh
  obtain ⟨rw_, rh_, m, rcs, hans⟩ : ∃ (rw_ rh_ : Int) (m : Nat) (rcs : List CellD), ∀ (hn' : n ≤ 1048576), m ≤ 1048576 ∧ ∀ w e w', AnsT w (fillT gw gh cs x y ww wh ⟨r, fg, bg, bb, bu, bt⟩) e w' → ∃ A c, e = .returned (.agg #[.int .i64 rw_, .int .i64 rh_, .slice A m c]) ∧ OwnC w' w.heap.size A m c rcs ∧ Below w.heap.size w w' := ⟨(fillT gw gh cs x y ww wh ⟨r, fg, bg, bb, bu, bt⟩).1, (fillT gw gh cs x y ww wh ⟨r, fg, bg, bb, bu, bt⟩).2.1, (fillT gw gh cs x y ww wh ⟨r, fg, bg, bb, bu, bt⟩).2.2.length, (fillT gw gh cs x y ww wh ⟨r, fg, bg, bb, bu, bt⟩).2.2, fun hn' => ⟨fillT_len hl hn', fun w e w' h => h⟩⟩
  have HSpec0 := Lib.hid (fun (hn' : n ≤ 1048576) (W : World) (F : Option Addr) (d_ B : Nat) (h : OwnC W B F n d_ cs) => (spec_GridFill_own gw gh x y ww wh r fg bg bb bu bt h hn').mono (fun e w' h => (hans hn').2 _ _ _ h))
  have HImpl0 := Lib.hid (fun (hn' : n ≤ 1048576) (W : World) (F : Option Addr) (d_ B : Nat) (h : OwnC W B F n d_ cs) => (impl_GridFill_own gw gh x y ww wh r fg bg bb bu bt h hn').mono (fun e w' h => (hans hn').2 _ _ _ h))
  have HM := Lib.hid (fun (hn' : n ≤ 1048576) => (hans hn').1)
  clear hans
  have HSZ := Lib.hid (fun W => szGrid_any gw gh A n c (1048576) W hn (by omega) (by omega))
  by_cases hbig : (1048576 : Int) < (n : Int)
  · rw [if_pos hbig] at HSZ
    clear hr hl
    go_enter Try.func8, Try.ntmps8
    go_wp2_with fail
    refine (HSZ.out _).mono ?_
    rintro e v1 ⟨rfl, hx1⟩
    have HB1 := Lib.hid (hb0.out.trans (hx1.mono (by simp <;> omega)))
    have z1 : w.heap.size ≤ v1.heap.size := HB1.out.size
    have XXa := Lib.hid (BoxK.below X0a.out hx1 (by simp <;> omega))
    have s1a : w.heap.size < v1.heap.size := by have := hx1.size; simp at this; omega
    have t1a := s1a
    have XXac := Lib.hid (BoxK.below X0ac.out hx1 (by simp <;> omega))
    have s1ac : w.heap.size + 1 < v1.heap.size := by have := hx1.size; simp at this; omega
    have t1ac := s1ac
    clear hx1 hb0 X0a X0ac
    clear HSZ
    go_wp2_with fail
    go_ret
    exact ⟨rfl, HB1.out⟩
  rw [if_neg hbig] at HSZ
  have HT := Lib.hid (fun W (h : Below w.heap.size w W) => HTB.out W h (by omega))
  clear HTB hr hl
  have hlf0 : 0 ≤ (1048576 : Int) - n := by omega
  have hN : n ≤ 1048576 := by omega
  clear hbig
  go_enter Try.func8, Try.ntmps8
  go_wp2_with fail
  refine (HSZ.out _).mono ?_
  rintro e v1 ⟨rfl, hx1⟩
  have HB1 := Lib.hid (hb0.out.trans (hx1.mono (by simp <;> omega)))
  have z1 : w.heap.size ≤ v1.heap.size := HB1.out.size
  have XXa := Lib.hid (BoxK.below X0a.out hx1 (by simp <;> omega))
  have s1a : w.heap.size < v1.heap.size := by have := hx1.size; simp at this; omega
  have t1a := s1a
  have XXac := Lib.hid (BoxK.below X0ac.out hx1 (by simp <;> omega))
  have s1ac : w.heap.size + 1 < v1.heap.size := by have := hx1.size; simp at this; omega
  have t1ac := s1ac
  clear hx1 hb0 X0a X0ac
  clear HSZ
  have hm := HM.out hN
  have HSpec := Lib.hid (fun (W : World) (F : Option Addr) (d_ B : Nat) (h : OwnC W B F n d_ cs) => HSpec0.out hN W F d_ B h)
  have HImpl := Lib.hid (fun (W : World) (F : Option Addr) (d_ B : Nat) (h : OwnC W B F n d_ cs) => HImpl0.out hN W F d_ B h)
  clear HSpec0 HImpl0 HM
  have hne2 : (1 + 6 * (m : Int) != 1 + 6 * (m : Int)) = false := by simp
  have hge : decide (1 + 6 * (m : Int) < 0) = false := decide_eq_false (by omega)
  have hgn : decide (1 + 6 * (n : Int) < 0) = false := decide_eq_false (by omega)
  have HBD := Lib.hid (show Below w.heap.size w v1.drew from ⟨HB1.out.os, HB1.out.tape, HB1.out.output, HB1.out.size, HB1.out.block⟩)
  have XAC := XXac
  have SAC := Lib.hid s1ac
  have aq0 := XXa.out 0 _ rfl
  have aq1 := XXa.out 1 _ rfl
  have aq2 := XXa.out 2 _ rfl
  have acq0 := XXac.out 0 _ rfl
  have acq1 := XXac.out 1 _ rfl
  have acq2 := XXac.out 2 _ rfl
  have acq3 := XXac.out 3 _ rfl
  have acq4 := XXac.out 4 _ rfl
  have acq5 := XXac.out 5 _ rfl
  go_upto_region 5 with fail
  go_cut [14] (fun s wx => RelG v1 rw_ rh_ m rcs s wx)
  case first =>
    go_region_with (first
      | (go_at_call 27; (with_reducible refine (HT.out _ ?_).mono ?_); (first | exact HBD.out | exact HBD.out.alloc HBD.out.size _); rintro e y1 ⟨F1, d1, rfl, ho1, hx1⟩; (first | (have HS1 := Lib.hid (undrew hx1); have hs1 : v1.heap.size ≤ y1.heap.size := HS1.out.size) | (have HS1 := Lib.hid (undrew (((Below.refl v1.heap.size v1.drew).alloc (Nat.le_refl _) _).trans (hx1.mono (by simp)))); have hs1 : v1.heap.size + 1 ≤ y1.heap.size := (by have := hx1.size; simpa using this); have NB := Lib.hid (show BoxG y1 v1.heap.size #[.int .i64 0, .int .i64 0, .slice none 0 0] from BoxG.below (BoxG.new v1.drew #[.int .i64 0, .int .i64 0, .slice none 0 0]) hx1 (by simp)))); have HO1 := Lib.hid ho1; have hac1 : w.heap.size + 1 < y1.heap.size := Nat.lt_of_lt_of_le SAC.out HS1.out.size; have rc0 : y1.cell? ⟨w.heap.size + 1, 0, none⟩ = some (.int .i64 r) := BoxK.below XAC.out HS1.out SAC.out 0 _ rfl; have rc1 : y1.cell? ⟨w.heap.size + 1, 1, none⟩ = some (.int .i64 fg) := BoxK.below XAC.out HS1.out SAC.out 1 _ rfl; have rc2 : y1.cell? ⟨w.heap.size + 1, 2, none⟩ = some (.int .i64 bg) := BoxK.below XAC.out HS1.out SAC.out 2 _ rfl; have rc3 : y1.cell? ⟨w.heap.size + 1, 3, none⟩ = some (.bool bb) := BoxK.below XAC.out HS1.out SAC.out 3 _ rfl; have rc4 : y1.cell? ⟨w.heap.size + 1, 4, none⟩ = some (.bool bu) := BoxK.below XAC.out HS1.out SAC.out 4 _ rfl; have rc5 : y1.cell? ⟨w.heap.size + 1, 5, none⟩ = some (.bool bt) := BoxK.below XAC.out HS1.out SAC.out 5 _ rfl; clear hx1 ho1)
      | (go_at_call 23; (with_reducible refine (toCell_any _ _ _ _ _ _ _).mono ?_); rintro e y2 ⟨rfl, hx2⟩; (first | (have HS2 := Lib.hid (HS1.out.trans (hx2.mono HS1.out.size)); have HO2 := Lib.hid (HO1.out.below (Nat.le_refl _) hx2); have hs2 : y1.heap.size ≤ y2.heap.size := hx2.size; (first | replace NB := Lib.hid (NB.out.below hx2 (by first | exact NB.out.lt)) | skip)) | (have HS2 := Lib.hid (HS1.out.trans (((Below.refl y1.heap.size y1).alloc (Nat.le_refl _) _).trans (hx2.mono (by simp)) |>.mono HS1.out.size)); have HO2 := Lib.hid ((HO1.out.below (Nat.le_refl _) ((Below.refl _ _).alloc (Nat.le_refl _) _)).below (by simp) hx2); have hs2 : y1.heap.size + 1 ≤ y2.heap.size := (by have := hx2.size; simpa using this); have NB := Lib.hid (BoxG.below (BoxG.new y1 #[.int .i64 0, .int .i64 0, .slice none 0 0]) hx2 (by simp)))); clear hx2)
      | (go_at_call 35; (first | (with_reducible refine (HSpec.out _ _ _ _ HO2.out).mono ?_) | (with_reducible refine (HSpec.out _ _ _ _ (HO2.out.below (Nat.le_refl _) ((Below.refl _ _).alloc (Nat.le_refl _) _))).mono ?_)); rintro e y3 ⟨F3, d3, rfl, ho3, hx3⟩; (first | (have HS3 := Lib.hid (HS2.out.trans (hx3.mono HS2.out.size)); have HO3 := Lib.hid ho3; have hs3 : y2.heap.size ≤ y3.heap.size := hx3.size; (first | replace NB := Lib.hid (NB.out.below hx3 (by first | exact NB.out.lt)) | skip)) | (have HS3 := Lib.hid (HS2.out.trans (((Below.refl y2.heap.size y2).alloc (Nat.le_refl _) _).trans (hx3.mono (by simp)) |>.mono HS2.out.size)); have HO3 := Lib.hid ho3; have hs3 : y2.heap.size + 1 ≤ y3.heap.size := (by have := hx3.size; simpa using this); have NB := Lib.hid (BoxG.below (BoxG.new y2 #[.int .i64 0, .int .i64 0, .slice none 0 0]) hx3 (by simp)))); (first | (have n0 : y3.cell? ⟨_, 0, none⟩ = some (.int .i64 0) := NB.out.cell 0; have n1 : y3.cell? ⟨_, 1, none⟩ = some (.int .i64 0) := NB.out.cell 1; have n2 : y3.cell? ⟨_, 2, none⟩ = some (.slice none 0 0) := NB.out.cell 2; have g0 := NB.out.free 0; have g1 := NB.out.free 1; have g2 := NB.out.free 2) | skip); clear hx3 ho3))
    all_goals
      go_wp2_with fail
      go_meet
      case rel =>
        (first | exact relG_al HO3.out HS3.out (by omega) | exact relG_set NB.out HO3.out HS3.out (by omega) (by first | omega | (simp; done) | (simp; omega)))
  case rest =>
    obtain ⟨Fw0_, dw0_, pw0_, rfl, hbk, ho, hown, hbb, hx⟩ := hcut
    clear aq0 aq1 aq2
    clear acq0 acq1 acq2 acq3 acq4 acq5
    clear HBD XAC SAC
    obtain ⟨wk2, rfl⟩ : ∃ v : World, v = wc := ⟨_, rfl⟩
    have HB2 := Lib.hid (HB1.out.trans (hx.mono z1))
    clear HB1
    have z2 : w.heap.size ≤ wk2.heap.size := HB2.out.size
    clear z1
    have ch2 : v1.heap.size ≤ wk2.heap.size := hx.size
    have XXa_2 := Lib.hid (BoxK.below XXa.out hx s1a)
    clear XXa
    have s2a : w.heap.size < wk2.heap.size := Nat.lt_of_lt_of_le s1a hx.size
    clear s1a
    have XXac_2 := Lib.hid (BoxK.below XXac.out hx s1ac)
    clear XXac
    have s2ac : w.heap.size + 1 < wk2.heap.size := Nat.lt_of_lt_of_le s1ac hx.size
    clear s1ac
    have HO2 := Lib.hid ho
    have HL2 := Lib.hid hown
    have Xbw := Lib.hid hbk
    obtain ⟨lobw, snbw⟩ := hbb
    have tbw := snbw
    clear hx ho hown hbk
    have aq0 := XXa_2.out 0 _ rfl
    have aq1 := XXa_2.out 1 _ rfl
    have aq2 := XXa_2.out 2 _ rfl
    have HPB := HB2
    go_wp2_with fail
    refine (HT.out _ HPB.out).mono ?_
    rintro e v3 ⟨F3, d3, rfl, ho3, hx3⟩
    clear aq0 aq1 aq2
    have HO3 := Lib.hid ho3
    have HL3 := Lib.hid (show ∀ i, (Value.slice F3 n d3).ownBlock = some i → wk2.heap.size ≤ i ∧ (wk2.heap.size = i → True) ∧ i < v3.heap.size from fun i hi => by have := ho3.blk i hi; exact ⟨by omega, fun _ => trivial, this.2⟩)
    clear ho3
    have hst3 : Below wk2.heap.size wk2 v3 := hx3
    have HO2_3 := Lib.hid (HO2.out.below (Nat.le_refl _) hst3)
    clear HO2
    have HB3 := Lib.hid (HB2.out.trans (hst3.mono z2))
    clear HB2
    have z3 : w.heap.size ≤ v3.heap.size := HB3.out.size
    clear z2
    have ch3 : wk2.heap.size ≤ v3.heap.size := hst3.size
    have XXa_2_3 := Lib.hid (BoxK.below XXa_2.out hst3 s2a)
    clear XXa_2
    have s3a : w.heap.size < v3.heap.size := Nat.lt_of_lt_of_le s2a hst3.size
    clear s2a
    have XXac_2_3 := Lib.hid (BoxK.below XXac_2.out hst3 s2ac)
    clear XXac_2
    have s3ac : w.heap.size + 1 < v3.heap.size := Nat.lt_of_lt_of_le s2ac hst3.size
    clear s2ac
    have Xbw_3 := Lib.hid (BoxK.below Xbw.out hst3 snbw)
    clear Xbw
    have s3bw : pw0_ < v3.heap.size := Nat.lt_of_lt_of_le snbw hst3.size
    clear snbw
    clear hx3 hst3
    obtain ⟨wk4, hwk4⟩ : ∃ v : World, v = v3.alloc (.cells #[.int .i64 gw, .int .i64 gh, .slice F3 n d3] 25) := ⟨_, rfl⟩
    have hal : Below v3.heap.size v3 wk4 := by rw [hwk4]; exact (Below.refl v3.heap.size v3).alloc (Nat.le_refl _) (.cells #[.int .i64 gw, .int .i64 gh, .slice F3 n d3] 25)
    have Xbx := Lib.hid (show BoxK wk4 v3.heap.size [.int .i64 gw, .int .i64 gh, .slice F3 n d3] by rw [hwk4]; exact BoxK.new v3 [.int .i64 gw, .int .i64 gh, .slice F3 n d3] 25)
    have snbx : v3.heap.size < wk4.heap.size := by rw [hwk4]; simp
    have Hwk4 := Lib.hid hwk4.symm
    clear hwk4
    go_upto_region 7 with fail
    rw [Hwk4.out]
    clear Hwk4
    have HO2_3_4 := Lib.hid (HO2_3.out.below (Nat.le_refl _) hal)
    clear HO2_3
    have HO3_4 := Lib.hid (HO3.out.below (Nat.le_refl _) hal)
    clear HO3
    have HB4 := Lib.hid (HB3.out.trans (hal.mono z3))
    clear HB3
    have z4 : w.heap.size ≤ wk4.heap.size := HB4.out.size
    clear z3
    have ch4 : v3.heap.size ≤ wk4.heap.size := hal.size
    have XXa_2_3_4 := Lib.hid (BoxK.below XXa_2_3.out hal s3a)
    clear XXa_2_3
    have s4a : w.heap.size < wk4.heap.size := Nat.lt_of_lt_of_le s3a hal.size
    clear s3a
    have XXac_2_3_4 := Lib.hid (BoxK.below XXac_2_3.out hal s3ac)
    clear XXac_2_3
    have s4ac : w.heap.size + 1 < wk4.heap.size := Nat.lt_of_lt_of_le s3ac hal.size
    clear s3ac
    have Xbw_3_4 := Lib.hid (BoxK.below Xbw_3.out hal s3bw)
    clear Xbw_3
    have s4bw : pw0_ < wk4.heap.size := Nat.lt_of_lt_of_le s3bw hal.size
    clear s3bw
    have tbx := snbx
    clear hal
    have HBD := Lib.hid (show Below w.heap.size w wk4.drew from ⟨HB4.out.os, HB4.out.tape, HB4.out.output, HB4.out.size, HB4.out.block⟩)
    have XAC := XXac_2_3_4
    have SAC := Lib.hid s4ac
    have bxq0 := Xbx.out 0 _ rfl
    have bxq1 := Xbx.out 1 _ rfl
    have bxq2 := Xbx.out 2 _ rfl
    have acq0 := XXac_2_3_4.out 0 _ rfl
    have acq1 := XXac_2_3_4.out 1 _ rfl
    have acq2 := XXac_2_3_4.out 2 _ rfl
    have acq3 := XXac_2_3_4.out 3 _ rfl
    have acq4 := XXac_2_3_4.out 4 _ rfl
    have acq5 := XXac_2_3_4.out 5 _ rfl
    have XBX := Xbx
    have SBX := Lib.hid snbx
    have HOX := HO3_4
    go_cut [16] (fun s wx => RelG wk4 rw_ rh_ m rcs s wx)
    case first =>
      go_region_with (first
        | (go_at_call 23; (with_reducible refine (toCell_any _ _ _ _ _ _ _).mono ?_); rintro e y2 ⟨rfl, hx2⟩; (first | (have HS2 := Lib.hid (undrew hx2); have hs2 : wk4.heap.size ≤ y2.heap.size := HS2.out.size) | (have HS2 := Lib.hid (undrew (((Below.refl wk4.heap.size wk4.drew).alloc (Nat.le_refl _) _).trans (hx2.mono (by simp)))); have hs2 : wk4.heap.size + 1 ≤ y2.heap.size := (by have := hx2.size; simpa using this); have NB := Lib.hid (show BoxG y2 wk4.heap.size #[.int .i64 0, .int .i64 0, .slice none 0 0] from BoxG.below (BoxG.new wk4.drew #[.int .i64 0, .int .i64 0, .slice none 0 0]) hx2 (by simp)))); have HO2 := Lib.hid (HOX.out.below (Nat.le_refl _) HS2.out); have hbx2 : v3.heap.size < y2.heap.size := Nat.lt_of_lt_of_le SBX.out HS2.out.size; have rb0 : y2.cell? ⟨v3.heap.size, 0, none⟩ = some (.int .i64 gw) := BoxK.below XBX.out HS2.out SBX.out 0 _ rfl; have rb1 : y2.cell? ⟨v3.heap.size, 1, none⟩ = some (.int .i64 gh) := BoxK.below XBX.out HS2.out SBX.out 1 _ rfl; have rb2 : y2.cell? ⟨v3.heap.size, 2, none⟩ = some (.slice F3 n d3) := BoxK.below XBX.out HS2.out SBX.out 2 _ rfl; clear hx2)
        | (go_at_call 36; (first | (with_reducible refine (HImpl.out _ _ _ _ HO2.out).mono ?_) | (with_reducible refine (HImpl.out _ _ _ _ (HO2.out.below (Nat.le_refl _) ((Below.refl _ _).alloc (Nat.le_refl _) _))).mono ?_)); rintro e y3 ⟨F3, d3, rfl, ho3, hx3⟩; (first | (have HS3 := Lib.hid (HS2.out.trans (hx3.mono HS2.out.size)); have HO3 := Lib.hid ho3; have hs3 : y2.heap.size ≤ y3.heap.size := hx3.size; (first | replace NB := Lib.hid (NB.out.below hx3 (by first | exact NB.out.lt)) | skip)) | (have HS3 := Lib.hid (HS2.out.trans (((Below.refl y2.heap.size y2).alloc (Nat.le_refl _) _).trans (hx3.mono (by simp)) |>.mono HS2.out.size)); have HO3 := Lib.hid ho3; have hs3 : y2.heap.size + 1 ≤ y3.heap.size := (by have := hx3.size; simpa using this); have NB := Lib.hid (BoxG.below (BoxG.new y2 #[.int .i64 0, .int .i64 0, .slice none 0 0]) hx3 (by simp)))); (first | (have n0 : y3.cell? ⟨_, 0, none⟩ = some (.int .i64 0) := NB.out.cell 0; have n1 : y3.cell? ⟨_, 1, none⟩ = some (.int .i64 0) := NB.out.cell 1; have n2 : y3.cell? ⟨_, 2, none⟩ = some (.slice none 0 0) := NB.out.cell 2; have g0 := NB.out.free 0; have g1 := NB.out.free 1; have g2 := NB.out.free 2) | skip); clear hx3 ho3))
      all_goals
        go_wp2_with fail
        go_meet
        case rel =>
          (first | exact relG_al HO3.out HS3.out (by omega) | exact relG_set NB.out HO3.out HS3.out (by omega) (by first | omega | (simp; done) | (simp; omega)))
    case rest =>
      obtain ⟨Fg0_, dg0_, pg0_, rfl, hbk, ho, hown, hbb, hx⟩ := hcut
      clear bxq0 bxq1 bxq2
      clear acq0 acq1 acq2 acq3 acq4 acq5
      clear HBD XAC SAC XBX SBX HOX
      obtain ⟨wk5, rfl⟩ : ∃ v : World, v = wc := ⟨_, rfl⟩
      have HO2_3_4_5 := Lib.hid (HO2_3_4.out.below (Nat.le_refl _) hx)
      clear HO2_3_4
      have HO3_4_5 := Lib.hid (HO3_4.out.below (Nat.le_refl _) hx)
      clear HO3_4
      have HB5 := Lib.hid (HB4.out.trans (hx.mono z4))
      clear HB4
      have z5 : w.heap.size ≤ wk5.heap.size := HB5.out.size
      clear z4
      have ch5 : wk4.heap.size ≤ wk5.heap.size := hx.size
      have XXa_2_3_4_5 := Lib.hid (BoxK.below XXa_2_3_4.out hx s4a)
      clear XXa_2_3_4
      have s5a : w.heap.size < wk5.heap.size := Nat.lt_of_lt_of_le s4a hx.size
      clear s4a
      have XXac_2_3_4_5 := Lib.hid (BoxK.below XXac_2_3_4.out hx s4ac)
      clear XXac_2_3_4
      have s5ac : w.heap.size + 1 < wk5.heap.size := Nat.lt_of_lt_of_le s4ac hx.size
      clear s4ac
      have Xbw_3_4_5 := Lib.hid (BoxK.below Xbw_3_4.out hx s4bw)
      clear Xbw_3_4
      have s5bw : pw0_ < wk5.heap.size := Nat.lt_of_lt_of_le s4bw hx.size
      clear s4bw
      have Xbx_5 := Lib.hid (BoxK.below Xbx.out hx snbx)
      clear Xbx
      have s5bx : v3.heap.size < wk5.heap.size := Nat.lt_of_lt_of_le snbx hx.size
      clear snbx
      have HO5 := Lib.hid ho
      have HL5 := Lib.hid hown
      have Xbg := Lib.hid hbk
      obtain ⟨lobg, snbg⟩ := hbb
      have tbg := snbg
      clear hx ho hown hbk
      have bgq0 := Xbg.out 0 _ rfl
      have bgq1 := Xbg.out 1 _ rfl
      have bgq2 := Xbg.out 2 _ rfl
      have bwq0 := Xbw_3_4_5.out 0 _ rfl
      have bwq1 := Xbw_3_4_5.out 1 _ rfl
      have bwq2 := Xbw_3_4_5.out 2 _ rfl
      have HP0 := HO5
      have HP1 := HO2_3_4_5
      go_wp2_with fail
      refine (eqG rw_ rh_ HP0.out HP1.out (by omega)).mono ?_
      rintro e v6 ⟨rfl, hx6⟩
      clear bgq0 bgq1 bgq2
      clear bwq0 bwq1 bwq2
      have hst6 : Below wk5.heap.size wk5 v6 := hx6
      have HO2_3_4_5_6 := Lib.hid (HO2_3_4_5.out.below (Nat.le_refl _) hst6)
      clear HO2_3_4_5
      have HO3_4_5_6 := Lib.hid (HO3_4_5.out.below (Nat.le_refl _) hst6)
      clear HO3_4_5
      have HO5_6 := Lib.hid (HO5.out.below (Nat.le_refl _) hst6)
      clear HO5
      have HB6 := Lib.hid (HB5.out.trans (hst6.mono z5))
      clear HB5
      have z6 : w.heap.size ≤ v6.heap.size := HB6.out.size
      clear z5
      have ch6 : wk5.heap.size ≤ v6.heap.size := hst6.size
      have XXa_2_3_4_5_6 := Lib.hid (BoxK.below XXa_2_3_4_5.out hst6 s5a)
      clear XXa_2_3_4_5
      have s6a : w.heap.size < v6.heap.size := Nat.lt_of_lt_of_le s5a hst6.size
      clear s5a
      have XXac_2_3_4_5_6 := Lib.hid (BoxK.below XXac_2_3_4_5.out hst6 s5ac)
      clear XXac_2_3_4_5
      have s6ac : w.heap.size + 1 < v6.heap.size := Nat.lt_of_lt_of_le s5ac hst6.size
      clear s5ac
      have Xbw_3_4_5_6 := Lib.hid (BoxK.below Xbw_3_4_5.out hst6 s5bw)
      clear Xbw_3_4_5
      have s6bw : pw0_ < v6.heap.size := Nat.lt_of_lt_of_le s5bw hst6.size
      clear s5bw
      have Xbx_5_6 := Lib.hid (BoxK.below Xbx_5.out hst6 s5bx)
      clear Xbx_5
      have s6bx : v3.heap.size < v6.heap.size := Nat.lt_of_lt_of_le s5bx hst6.size
      clear s5bx
      have Xbg_6 := Lib.hid (BoxK.below Xbg.out hst6 snbg)
      clear Xbg
      have s6bg : pg0_ < v6.heap.size := Nat.lt_of_lt_of_le snbg hst6.size
      clear snbg
      clear hx6 hst6
      have aq0 := XXa_2_3_4_5_6.out 0 _ rfl
      have aq1 := XXa_2_3_4_5_6.out 1 _ rfl
      have aq2 := XXa_2_3_4_5_6.out 2 _ rfl
      have bxq0 := Xbx_5_6.out 0 _ rfl
      have bxq1 := Xbx_5_6.out 1 _ rfl
      have bxq2 := Xbx_5_6.out 2 _ rfl
      go_upto_region 10 with fail
      go_cut [53] (fun s wx => s = .bool false ∧ Below v6.heap.size v6 wx)
      case first =>
        go_region_with (first
          | (go_at_call 27; refine (HT.out _ ?_).mono ?_; exact ⟨HB6.out.os, HB6.out.tape, HB6.out.output, HB6.out.size, HB6.out.block⟩; rintro e y1 ⟨Fy, dy, rfl, hoy, hxy'⟩; have hxy : Below v6.heap.size v6 y1 := undrew hxy'; clear hxy'; have HOY := Lib.hid hoy; have HPY := Lib.hid (HO3_4_5_6.out.below (Nat.le_refl _) hxy); obtain ⟨r0, r1, r2⟩ : y1.cell? ⟨v3.heap.size, 0, none⟩ = some (.int .i64 gw) ∧ y1.cell? ⟨v3.heap.size, 1, none⟩ = some (.int .i64 gh) ∧ y1.cell? ⟨v3.heap.size, 2, none⟩ = some (.slice F3 n d3) := ⟨BoxK.below Xbx_5_6.out hxy s6bx 0 _ rfl, BoxK.below Xbx_5_6.out hxy s6bx 1 _ rfl, BoxK.below Xbx_5_6.out hxy s6bx 2 _ rfl⟩; have HXY := Lib.hid hxy; have zy := hxy.size; clear hoy hxy)
          | (go_at_call 28; refine (eqG gw gh HPY.out HOY.out (by omega)).mono ?_; rintro e y2 ⟨rfl, hxz⟩))
        all_goals
          have HE := Lib.hid (HXY.out.trans (hxz.mono zy))
          clear hxz
          go_wp2_with fail
          go_meet
          case rel => exact ⟨rfl, HE.out⟩
      case rest =>
        obtain ⟨rfl, hx⟩ := hcut
        clear aq0 aq1 aq2
        clear bxq0 bxq1 bxq2
        have HO2_3_4_5_6_7 := Lib.hid (HO2_3_4_5_6.out.below (Nat.le_refl _) hx)
        clear HO2_3_4_5_6
        have HO3_4_5_6_7 := Lib.hid (HO3_4_5_6.out.below (Nat.le_refl _) hx)
        clear HO3_4_5_6
        have HO5_6_7 := Lib.hid (HO5_6.out.below (Nat.le_refl _) hx)
        clear HO5_6
        have HB7 := Lib.hid (HB6.out.trans (hx.mono z6))
        clear HB6
        have z7 : w.heap.size ≤ wc.heap.size := HB7.out.size
        clear z6
        have ch7 : v6.heap.size ≤ wc.heap.size := hx.size
        have XXa_2_3_4_5_6_7 := Lib.hid (BoxK.below XXa_2_3_4_5_6.out hx s6a)
        clear XXa_2_3_4_5_6
        have s7a : w.heap.size < wc.heap.size := Nat.lt_of_lt_of_le s6a hx.size
        clear s6a
        have XXac_2_3_4_5_6_7 := Lib.hid (BoxK.below XXac_2_3_4_5_6.out hx s6ac)
        clear XXac_2_3_4_5_6
        have s7ac : w.heap.size + 1 < wc.heap.size := Nat.lt_of_lt_of_le s6ac hx.size
        clear s6ac
        have Xbw_3_4_5_6_7 := Lib.hid (BoxK.below Xbw_3_4_5_6.out hx s6bw)
        clear Xbw_3_4_5_6
        have s7bw : pw0_ < wc.heap.size := Nat.lt_of_lt_of_le s6bw hx.size
        clear s6bw
        have Xbx_5_6_7 := Lib.hid (BoxK.below Xbx_5_6.out hx s6bx)
        clear Xbx_5_6
        have s7bx : v3.heap.size < wc.heap.size := Nat.lt_of_lt_of_le s6bx hx.size
        clear s6bx
        have Xbg_6_7 := Lib.hid (BoxK.below Xbg_6.out hx s6bg)
        clear Xbg_6
        have s7bg : pg0_ < wc.heap.size := Nat.lt_of_lt_of_le s6bg hx.size
        clear s6bg
        clear hx
        obtain ⟨wk, rfl⟩ : ∃ v : World, v = wc := ⟨_, rfl⟩
        have bxq0 := Xbx_5_6_7.out 0 _ rfl
        have bxq1 := Xbx_5_6_7.out 1 _ rfl
        have bxq2 := Xbx_5_6_7.out 2 _ rfl
        go_wp2_with fail
        refine (markGrid_any gw gh _ n _ _ cs (1) _ HO3_4_5_6_7.out (by omega) (by omega) (by omega)).mono ?_
        rintro e v8 ⟨rfl, ho8, on8⟩
        clear bxq0 bxq1 bxq2
        have HO8 := Lib.hid ho8
        clear ho8
        have HO2_3_4_5_6_7_8 := Lib.hid (HO2_3_4_5_6_7.out.only on8 (fun i hi hs => by have h1 := HL2.out i hi; have h2 := HL3.out i hs; have hq1 := h1.2.1; have hq2 := h2.2.1; omega))
        clear HO2_3_4_5_6_7
        have HO5_6_7_8 := Lib.hid (HO5_6_7.out.only on8 (fun i hi hs => by have h1 := HL5.out i hi; have h2 := HL3.out i hs; have hq1 := h1.2.1; have hq2 := h2.2.1; omega))
        clear HO5_6_7
        have HB8 := Lib.hid (Only.below_ on8 HB7.out z7 (fun i hs => by have h2 := HL3.out i hs; omega))
        clear HB7
        have z8 : w.heap.size ≤ v8.heap.size := HB8.out.size
        clear z7
        have ch8 : wk.heap.size ≤ v8.heap.size := on8.size
        have XXa_2_3_4_5_6_7_8 := Lib.hid (BoxK.only XXa_2_3_4_5_6_7.out on8 (fun hs => by have h2 := HL3.out _ hs; first | omega | exact h2.2.1 rfl))
        clear XXa_2_3_4_5_6_7
        have s8a : w.heap.size < v8.heap.size := Nat.lt_of_lt_of_le s7a on8.size
        clear s7a
        have XXac_2_3_4_5_6_7_8 := Lib.hid (BoxK.only XXac_2_3_4_5_6_7.out on8 (fun hs => by have h2 := HL3.out _ hs; first | omega | exact h2.2.1 rfl))
        clear XXac_2_3_4_5_6_7
        have s8ac : w.heap.size + 1 < v8.heap.size := Nat.lt_of_lt_of_le s7ac on8.size
        clear s7ac
        have Xbw_3_4_5_6_7_8 := Lib.hid (BoxK.only Xbw_3_4_5_6_7.out on8 (fun hs => by have h2 := HL3.out _ hs; first | omega | exact h2.2.1 rfl))
        clear Xbw_3_4_5_6_7
        have s8bw : pw0_ < v8.heap.size := Nat.lt_of_lt_of_le s7bw on8.size
        clear s7bw
        have Xbx_5_6_7_8 := Lib.hid (BoxK.only Xbx_5_6_7.out on8 (fun hs => by have h2 := HL3.out _ hs; first | omega | exact h2.2.1 rfl))
        clear Xbx_5_6_7
        have s8bx : v3.heap.size < v8.heap.size := Nat.lt_of_lt_of_le s7bx on8.size
        clear s7bx
        have Xbg_6_7_8 := Lib.hid (BoxK.only Xbg_6_7.out on8 (fun hs => by have h2 := HL3.out _ hs; first | omega | exact h2.2.1 rfl))
        clear Xbg_6_7
        have s8bg : pg0_ < v8.heap.size := Nat.lt_of_lt_of_le s7bg on8.size
        clear s7bg
        clear on8 HO3_4_5_6_7
        clear HO8 HL3
        have bgq0 := Xbg_6_7_8.out 0 _ rfl
        have bgq1 := Xbg_6_7_8.out 1 _ rfl
        have bgq2 := Xbg_6_7_8.out 2 _ rfl
        have bwq0 := Xbw_3_4_5_6_7_8.out 0 _ rfl
        have bwq1 := Xbw_3_4_5_6_7_8.out 1 _ rfl
        have bwq2 := Xbw_3_4_5_6_7_8.out 2 _ rfl
        have HP0 := HO5_6_7_8
        have HP1 := HO2_3_4_5_6_7_8
        go_wp2_with fail
        refine (eqG rw_ rh_ HP0.out HP1.out (by omega)).mono ?_
        rintro e v9 ⟨rfl, hx9⟩
        clear bgq0 bgq1 bgq2
        clear bwq0 bwq1 bwq2
        have hst9 : Below v8.heap.size v8 v9 := hx9
        have HO2_3_4_5_6_7_8_9 := Lib.hid (HO2_3_4_5_6_7_8.out.below (Nat.le_refl _) hst9)
        clear HO2_3_4_5_6_7_8
        have HO5_6_7_8_9 := Lib.hid (HO5_6_7_8.out.below (Nat.le_refl _) hst9)
        clear HO5_6_7_8
        have HB9 := Lib.hid (HB8.out.trans (hst9.mono z8))
        clear HB8
        have z9 : w.heap.size ≤ v9.heap.size := HB9.out.size
        clear z8
        have ch9 : v8.heap.size ≤ v9.heap.size := hst9.size
        have XXa_2_3_4_5_6_7_8_9 := Lib.hid (BoxK.below XXa_2_3_4_5_6_7_8.out hst9 s8a)
        clear XXa_2_3_4_5_6_7_8
        have s9a : w.heap.size < v9.heap.size := Nat.lt_of_lt_of_le s8a hst9.size
        clear s8a
        have XXac_2_3_4_5_6_7_8_9 := Lib.hid (BoxK.below XXac_2_3_4_5_6_7_8.out hst9 s8ac)
        clear XXac_2_3_4_5_6_7_8
        have s9ac : w.heap.size + 1 < v9.heap.size := Nat.lt_of_lt_of_le s8ac hst9.size
        clear s8ac
        have Xbw_3_4_5_6_7_8_9 := Lib.hid (BoxK.below Xbw_3_4_5_6_7_8.out hst9 s8bw)
        clear Xbw_3_4_5_6_7_8
        have s9bw : pw0_ < v9.heap.size := Nat.lt_of_lt_of_le s8bw hst9.size
        clear s8bw
        have Xbx_5_6_7_8_9 := Lib.hid (BoxK.below Xbx_5_6_7_8.out hst9 s8bx)
        clear Xbx_5_6_7_8
        have s9bx : v3.heap.size < v9.heap.size := Nat.lt_of_lt_of_le s8bx hst9.size
        clear s8bx
        have Xbg_6_7_8_9 := Lib.hid (BoxK.below Xbg_6_7_8.out hst9 s8bg)
        clear Xbg_6_7_8
        have s9bg : pg0_ < v9.heap.size := Nat.lt_of_lt_of_le s8bg hst9.size
        clear s8bg
        clear hx9 hst9
        have bgq0 := Xbg_6_7_8_9.out 0 _ rfl
        have bgq1 := Xbg_6_7_8_9.out 1 _ rfl
        have bgq2 := Xbg_6_7_8_9.out 2 _ rfl
        go_wp2_with fail
        refine (markGrid_any rw_ rh_ _ m _ _ rcs (1) _ HO5_6_7_8_9.out (by omega) (by omega) (by omega)).mono ?_
        rintro e v10 ⟨rfl, ho10, on10⟩
        clear bgq0 bgq1 bgq2
        have HO10 := Lib.hid ho10
        clear ho10
        have HO2_3_4_5_6_7_8_9_10 := Lib.hid (HO2_3_4_5_6_7_8_9.out.only on10 (fun i hi hs => by have h1 := HL2.out i hi; have h2 := HL5.out i hs; have hq1 := h1.2.1; have hq2 := h2.2.1; omega))
        clear HO2_3_4_5_6_7_8_9
        have HB10 := Lib.hid (Only.below_ on10 HB9.out z9 (fun i hs => by have h2 := HL5.out i hs; omega))
        clear HB9
        have z10 : w.heap.size ≤ v10.heap.size := HB10.out.size
        clear z9
        have ch10 : v9.heap.size ≤ v10.heap.size := on10.size
        have XXa_2_3_4_5_6_7_8_9_10 := Lib.hid (BoxK.only XXa_2_3_4_5_6_7_8_9.out on10 (fun hs => by have h2 := HL5.out _ hs; first | omega | exact h2.2.1 rfl))
        clear XXa_2_3_4_5_6_7_8_9
        have s10a : w.heap.size < v10.heap.size := Nat.lt_of_lt_of_le s9a on10.size
        clear s9a
        have XXac_2_3_4_5_6_7_8_9_10 := Lib.hid (BoxK.only XXac_2_3_4_5_6_7_8_9.out on10 (fun hs => by have h2 := HL5.out _ hs; first | omega | exact h2.2.1 rfl))
        clear XXac_2_3_4_5_6_7_8_9
        have s10ac : w.heap.size + 1 < v10.heap.size := Nat.lt_of_lt_of_le s9ac on10.size
        clear s9ac
        have Xbw_3_4_5_6_7_8_9_10 := Lib.hid (BoxK.only Xbw_3_4_5_6_7_8_9.out on10 (fun hs => by have h2 := HL5.out _ hs; first | omega | exact h2.2.1 rfl))
        clear Xbw_3_4_5_6_7_8_9
        have s10bw : pw0_ < v10.heap.size := Nat.lt_of_lt_of_le s9bw on10.size
        clear s9bw
        have Xbx_5_6_7_8_9_10 := Lib.hid (BoxK.only Xbx_5_6_7_8_9.out on10 (fun hs => by have h2 := HL5.out _ hs; first | omega | exact h2.2.1 rfl))
        clear Xbx_5_6_7_8_9
        have s10bx : v3.heap.size < v10.heap.size := Nat.lt_of_lt_of_le s9bx on10.size
        clear s9bx
        have Xbg_6_7_8_9_10 := Lib.hid (BoxK.only Xbg_6_7_8_9.out on10 (fun hs => by have h2 := HL5.out _ hs; first | omega | exact h2.2.1 rfl))
        clear Xbg_6_7_8_9
        have s10bg : pg0_ < v10.heap.size := Nat.lt_of_lt_of_le s9bg on10.size
        clear s9bg
        clear on10 HO5_6_7_8_9
        have bgq0 := Xbg_6_7_8_9_10.out 0 _ rfl
        have bgq1 := Xbg_6_7_8_9_10.out 1 _ rfl
        have bgq2 := Xbg_6_7_8_9_10.out 2 _ rfl
        have HP0 := HO10
        go_wp2_with fail
        refine (heldGrid_any rw_ rh_ _ m _ (1) _ HP0.out.rd (by omega) (by omega) (by omega)).mono ?_
        rintro e v11 ⟨rfl, hx11⟩
        clear bgq0 bgq1 bgq2
        have hst11 : Below v10.heap.size v10 v11 := hx11
        have HO2_3_4_5_6_7_8_9_10_11 := Lib.hid (HO2_3_4_5_6_7_8_9_10.out.below (Nat.le_refl _) hst11)
        clear HO2_3_4_5_6_7_8_9_10
        have HO10_11 := Lib.hid (HO10.out.below (Nat.le_refl _) hst11)
        clear HO10
        have HB11 := Lib.hid (HB10.out.trans (hst11.mono z10))
        clear HB10
        have z11 : w.heap.size ≤ v11.heap.size := HB11.out.size
        clear z10
        have ch11 : v10.heap.size ≤ v11.heap.size := hst11.size
        have XXa_2_3_4_5_6_7_8_9_10_11 := Lib.hid (BoxK.below XXa_2_3_4_5_6_7_8_9_10.out hst11 s10a)
        clear XXa_2_3_4_5_6_7_8_9_10
        have s11a : w.heap.size < v11.heap.size := Nat.lt_of_lt_of_le s10a hst11.size
        clear s10a
        have XXac_2_3_4_5_6_7_8_9_10_11 := Lib.hid (BoxK.below XXac_2_3_4_5_6_7_8_9_10.out hst11 s10ac)
        clear XXac_2_3_4_5_6_7_8_9_10
        have s11ac : w.heap.size + 1 < v11.heap.size := Nat.lt_of_lt_of_le s10ac hst11.size
        clear s10ac
        have Xbw_3_4_5_6_7_8_9_10_11 := Lib.hid (BoxK.below Xbw_3_4_5_6_7_8_9_10.out hst11 s10bw)
        clear Xbw_3_4_5_6_7_8_9_10
        have s11bw : pw0_ < v11.heap.size := Nat.lt_of_lt_of_le s10bw hst11.size
        clear s10bw
        have Xbx_5_6_7_8_9_10_11 := Lib.hid (BoxK.below Xbx_5_6_7_8_9_10.out hst11 s10bx)
        clear Xbx_5_6_7_8_9_10
        have s11bx : v3.heap.size < v11.heap.size := Nat.lt_of_lt_of_le s10bx hst11.size
        clear s10bx
        have Xbg_6_7_8_9_10_11 := Lib.hid (BoxK.below Xbg_6_7_8_9_10.out hst11 s10bg)
        clear Xbg_6_7_8_9_10
        have s11bg : pg0_ < v11.heap.size := Nat.lt_of_lt_of_le s10bg hst11.size
        clear s10bg
        clear hx11 hst11
        have HBD := Lib.hid (show Below w.heap.size w v11.drew from ⟨HB11.out.os, HB11.out.tape, HB11.out.output, HB11.out.size, HB11.out.block⟩)
        have XAC := XXac_2_3_4_5_6_7_8_9_10_11
        have SAC := Lib.hid s11ac
        have aq0 := XXa_2_3_4_5_6_7_8_9_10_11.out 0 _ rfl
        have aq1 := XXa_2_3_4_5_6_7_8_9_10_11.out 1 _ rfl
        have aq2 := XXa_2_3_4_5_6_7_8_9_10_11.out 2 _ rfl
        have acq0 := XXac_2_3_4_5_6_7_8_9_10_11.out 0 _ rfl
        have acq1 := XXac_2_3_4_5_6_7_8_9_10_11.out 1 _ rfl
        have acq2 := XXac_2_3_4_5_6_7_8_9_10_11.out 2 _ rfl
        have acq3 := XXac_2_3_4_5_6_7_8_9_10_11.out 3 _ rfl
        have acq4 := XXac_2_3_4_5_6_7_8_9_10_11.out 4 _ rfl
        have acq5 := XXac_2_3_4_5_6_7_8_9_10_11.out 5 _ rfl
        go_upto_region 24 with fail
        go_cut [20] (fun s wx => RelG v11 rw_ rh_ m rcs s wx)
        case first =>
          go_region_with (first
            | (go_at_call 27; (with_reducible refine (HT.out _ ?_).mono ?_); (first | exact HBD.out | exact HBD.out.alloc HBD.out.size _); rintro e y1 ⟨F1, d1, rfl, ho1, hx1⟩; (first | (have HS1 := Lib.hid (undrew hx1); have hs1 : v11.heap.size ≤ y1.heap.size := HS1.out.size) | (have HS1 := Lib.hid (undrew (((Below.refl v11.heap.size v11.drew).alloc (Nat.le_refl _) _).trans (hx1.mono (by simp)))); have hs1 : v11.heap.size + 1 ≤ y1.heap.size := (by have := hx1.size; simpa using this); have NB := Lib.hid (show BoxG y1 v11.heap.size #[.int .i64 0, .int .i64 0, .slice none 0 0] from BoxG.below (BoxG.new v11.drew #[.int .i64 0, .int .i64 0, .slice none 0 0]) hx1 (by simp)))); have HO1 := Lib.hid ho1; have hac1 : w.heap.size + 1 < y1.heap.size := Nat.lt_of_lt_of_le SAC.out HS1.out.size; have rc0 : y1.cell? ⟨w.heap.size + 1, 0, none⟩ = some (.int .i64 r) := BoxK.below XAC.out HS1.out SAC.out 0 _ rfl; have rc1 : y1.cell? ⟨w.heap.size + 1, 1, none⟩ = some (.int .i64 fg) := BoxK.below XAC.out HS1.out SAC.out 1 _ rfl; have rc2 : y1.cell? ⟨w.heap.size + 1, 2, none⟩ = some (.int .i64 bg) := BoxK.below XAC.out HS1.out SAC.out 2 _ rfl; have rc3 : y1.cell? ⟨w.heap.size + 1, 3, none⟩ = some (.bool bb) := BoxK.below XAC.out HS1.out SAC.out 3 _ rfl; have rc4 : y1.cell? ⟨w.heap.size + 1, 4, none⟩ = some (.bool bu) := BoxK.below XAC.out HS1.out SAC.out 4 _ rfl; have rc5 : y1.cell? ⟨w.heap.size + 1, 5, none⟩ = some (.bool bt) := BoxK.below XAC.out HS1.out SAC.out 5 _ rfl; clear hx1 ho1)
            | (go_at_call 23; (with_reducible refine (toCell_any _ _ _ _ _ _ _).mono ?_); rintro e y2 ⟨rfl, hx2⟩; (first | (have HS2 := Lib.hid (HS1.out.trans (hx2.mono HS1.out.size)); have HO2 := Lib.hid (HO1.out.below (Nat.le_refl _) hx2); have hs2 : y1.heap.size ≤ y2.heap.size := hx2.size; (first | replace NB := Lib.hid (NB.out.below hx2 (by first | exact NB.out.lt)) | skip)) | (have HS2 := Lib.hid (HS1.out.trans (((Below.refl y1.heap.size y1).alloc (Nat.le_refl _) _).trans (hx2.mono (by simp)) |>.mono HS1.out.size)); have HO2 := Lib.hid ((HO1.out.below (Nat.le_refl _) ((Below.refl _ _).alloc (Nat.le_refl _) _)).below (by simp) hx2); have hs2 : y1.heap.size + 1 ≤ y2.heap.size := (by have := hx2.size; simpa using this); have NB := Lib.hid (BoxG.below (BoxG.new y1 #[.int .i64 0, .int .i64 0, .slice none 0 0]) hx2 (by simp)))); clear hx2)
            | (go_at_call 36; (first | (with_reducible refine (HImpl.out _ _ _ _ HO2.out).mono ?_) | (with_reducible refine (HImpl.out _ _ _ _ (HO2.out.below (Nat.le_refl _) ((Below.refl _ _).alloc (Nat.le_refl _) _))).mono ?_)); rintro e y3 ⟨F3, d3, rfl, ho3, hx3⟩; (first | (have HS3 := Lib.hid (HS2.out.trans (hx3.mono HS2.out.size)); have HO3 := Lib.hid ho3; have hs3 : y2.heap.size ≤ y3.heap.size := hx3.size; (first | replace NB := Lib.hid (NB.out.below hx3 (by first | exact NB.out.lt)) | skip)) | (have HS3 := Lib.hid (HS2.out.trans (((Below.refl y2.heap.size y2).alloc (Nat.le_refl _) _).trans (hx3.mono (by simp)) |>.mono HS2.out.size)); have HO3 := Lib.hid ho3; have hs3 : y2.heap.size + 1 ≤ y3.heap.size := (by have := hx3.size; simpa using this); have NB := Lib.hid (BoxG.below (BoxG.new y2 #[.int .i64 0, .int .i64 0, .slice none 0 0]) hx3 (by simp)))); (first | (have n0 : y3.cell? ⟨_, 0, none⟩ = some (.int .i64 0) := NB.out.cell 0; have n1 : y3.cell? ⟨_, 1, none⟩ = some (.int .i64 0) := NB.out.cell 1; have n2 : y3.cell? ⟨_, 2, none⟩ = some (.slice none 0 0) := NB.out.cell 2; have g0 := NB.out.free 0; have g1 := NB.out.free 1; have g2 := NB.out.free 2) | skip); clear hx3 ho3))
          all_goals
            go_wp2_with fail
            go_meet
            case rel =>
              (first | exact relG_al HO3.out HS3.out (by omega) | exact relG_set NB.out HO3.out HS3.out (by omega) (by first | omega | (simp; done) | (simp; omega)))
        case rest =>
          obtain ⟨Fh0_, dh0_, ph0_, rfl, hbk, ho, hown, hbb, hx⟩ := hcut
          clear aq0 aq1 aq2
          clear acq0 acq1 acq2 acq3 acq4 acq5
          clear HBD XAC SAC
          obtain ⟨wk12, rfl⟩ : ∃ v : World, v = wc := ⟨_, rfl⟩
          have HO2_3_4_5_6_7_8_9_10_11_12 := Lib.hid (HO2_3_4_5_6_7_8_9_10_11.out.below (Nat.le_refl _) hx)
          clear HO2_3_4_5_6_7_8_9_10_11
          have HO10_11_12 := Lib.hid (HO10_11.out.below (Nat.le_refl _) hx)
          clear HO10_11
          have HB12 := Lib.hid (HB11.out.trans (hx.mono z11))
          clear HB11
          have z12 : w.heap.size ≤ wk12.heap.size := HB12.out.size
          clear z11
          have ch12 : v11.heap.size ≤ wk12.heap.size := hx.size
          have XXa_2_3_4_5_6_7_8_9_10_11_12 := Lib.hid (BoxK.below XXa_2_3_4_5_6_7_8_9_10_11.out hx s11a)
          clear XXa_2_3_4_5_6_7_8_9_10_11
          have s12a : w.heap.size < wk12.heap.size := Nat.lt_of_lt_of_le s11a hx.size
          clear s11a
          have XXac_2_3_4_5_6_7_8_9_10_11_12 := Lib.hid (BoxK.below XXac_2_3_4_5_6_7_8_9_10_11.out hx s11ac)
          clear XXac_2_3_4_5_6_7_8_9_10_11
          have s12ac : w.heap.size + 1 < wk12.heap.size := Nat.lt_of_lt_of_le s11ac hx.size
          clear s11ac
          have Xbw_3_4_5_6_7_8_9_10_11_12 := Lib.hid (BoxK.below Xbw_3_4_5_6_7_8_9_10_11.out hx s11bw)
          clear Xbw_3_4_5_6_7_8_9_10_11
          have s12bw : pw0_ < wk12.heap.size := Nat.lt_of_lt_of_le s11bw hx.size
          clear s11bw
          have Xbx_5_6_7_8_9_10_11_12 := Lib.hid (BoxK.below Xbx_5_6_7_8_9_10_11.out hx s11bx)
          clear Xbx_5_6_7_8_9_10_11
          have s12bx : v3.heap.size < wk12.heap.size := Nat.lt_of_lt_of_le s11bx hx.size
          clear s11bx
          have Xbg_6_7_8_9_10_11_12 := Lib.hid (BoxK.below Xbg_6_7_8_9_10_11.out hx s11bg)
          clear Xbg_6_7_8_9_10_11
          have s12bg : pg0_ < wk12.heap.size := Nat.lt_of_lt_of_le s11bg hx.size
          clear s11bg
          have HO12 := Lib.hid ho
          have HL12 := Lib.hid hown
          have Xbh := Lib.hid hbk
          obtain ⟨lobh, snbh⟩ := hbb
          have tbh := snbh
          clear hx ho hown hbk
          have bhq0 := Xbh.out 0 _ rfl
          have bhq1 := Xbh.out 1 _ rfl
          have bhq2 := Xbh.out 2 _ rfl
          have bwq0 := Xbw_3_4_5_6_7_8_9_10_11_12.out 0 _ rfl
          have bwq1 := Xbw_3_4_5_6_7_8_9_10_11_12.out 1 _ rfl
          have bwq2 := Xbw_3_4_5_6_7_8_9_10_11_12.out 2 _ rfl
          have HP0 := HO12
          have HP1 := HO2_3_4_5_6_7_8_9_10_11_12
          go_wp2_with fail
          refine (eqG rw_ rh_ HP0.out HP1.out (by omega)).mono ?_
          rintro e v13 ⟨rfl, hx13⟩
          clear bhq0 bhq1 bhq2
          clear bwq0 bwq1 bwq2
          have hst13 : Below wk12.heap.size wk12 v13 := hx13
          have HO2_3_4_5_6_7_8_9_10_11_12_13 := Lib.hid (HO2_3_4_5_6_7_8_9_10_11_12.out.below (Nat.le_refl _) hst13)
          clear HO2_3_4_5_6_7_8_9_10_11_12
          have HO10_11_12_13 := Lib.hid (HO10_11_12.out.below (Nat.le_refl _) hst13)
          clear HO10_11_12
          have HO12_13 := Lib.hid (HO12.out.below (Nat.le_refl _) hst13)
          clear HO12
          have HB13 := Lib.hid (HB12.out.trans (hst13.mono z12))
          clear HB12
          have z13 : w.heap.size ≤ v13.heap.size := HB13.out.size
          clear z12
          have ch13 : wk12.heap.size ≤ v13.heap.size := hst13.size
          have XXa_2_3_4_5_6_7_8_9_10_11_12_13 := Lib.hid (BoxK.below XXa_2_3_4_5_6_7_8_9_10_11_12.out hst13 s12a)
          clear XXa_2_3_4_5_6_7_8_9_10_11_12
          have s13a : w.heap.size < v13.heap.size := Nat.lt_of_lt_of_le s12a hst13.size
          clear s12a
          have XXac_2_3_4_5_6_7_8_9_10_11_12_13 := Lib.hid (BoxK.below XXac_2_3_4_5_6_7_8_9_10_11_12.out hst13 s12ac)
          clear XXac_2_3_4_5_6_7_8_9_10_11_12
          have s13ac : w.heap.size + 1 < v13.heap.size := Nat.lt_of_lt_of_le s12ac hst13.size
          clear s12ac
          have Xbw_3_4_5_6_7_8_9_10_11_12_13 := Lib.hid (BoxK.below Xbw_3_4_5_6_7_8_9_10_11_12.out hst13 s12bw)
          clear Xbw_3_4_5_6_7_8_9_10_11_12
          have s13bw : pw0_ < v13.heap.size := Nat.lt_of_lt_of_le s12bw hst13.size
          clear s12bw
          have Xbx_5_6_7_8_9_10_11_12_13 := Lib.hid (BoxK.below Xbx_5_6_7_8_9_10_11_12.out hst13 s12bx)
          clear Xbx_5_6_7_8_9_10_11_12
          have s13bx : v3.heap.size < v13.heap.size := Nat.lt_of_lt_of_le s12bx hst13.size
          clear s12bx
          have Xbg_6_7_8_9_10_11_12_13 := Lib.hid (BoxK.below Xbg_6_7_8_9_10_11_12.out hst13 s12bg)
          clear Xbg_6_7_8_9_10_11_12
          have s13bg : pg0_ < v13.heap.size := Nat.lt_of_lt_of_le s12bg hst13.size
          clear s12bg
          have Xbh_13 := Lib.hid (BoxK.below Xbh.out hst13 snbh)
          clear Xbh
          have s13bh : ph0_ < v13.heap.size := Nat.lt_of_lt_of_le snbh hst13.size
          clear snbh
          clear hx13 hst13
          have bgq0 := Xbg_6_7_8_9_10_11_12_13.out 0 _ rfl
          have bgq1 := Xbg_6_7_8_9_10_11_12_13.out 1 _ rfl
          have bgq2 := Xbg_6_7_8_9_10_11_12_13.out 2 _ rfl
          have HP0 := HO10_11_12_13
          go_wp2_with fail
          refine (heldGrid_any rw_ rh_ _ m _ (1) _ HP0.out.rd (by omega) (by omega) (by omega)).mono ?_
          rintro e v14 ⟨rfl, hx14⟩
          clear bgq0 bgq1 bgq2
          have hst14 : Below v13.heap.size v13 v14 := hx14
          have HO2_3_4_5_6_7_8_9_10_11_12_13_14 := Lib.hid (HO2_3_4_5_6_7_8_9_10_11_12_13.out.below (Nat.le_refl _) hst14)
          clear HO2_3_4_5_6_7_8_9_10_11_12_13
          have HO10_11_12_13_14 := Lib.hid (HO10_11_12_13.out.below (Nat.le_refl _) hst14)
          clear HO10_11_12_13
          have HO12_13_14 := Lib.hid (HO12_13.out.below (Nat.le_refl _) hst14)
          clear HO12_13
          have HB14 := Lib.hid (HB13.out.trans (hst14.mono z13))
          clear HB13
          have z14 : w.heap.size ≤ v14.heap.size := HB14.out.size
          clear z13
          have ch14 : v13.heap.size ≤ v14.heap.size := hst14.size
          have XXa_2_3_4_5_6_7_8_9_10_11_12_13_14 := Lib.hid (BoxK.below XXa_2_3_4_5_6_7_8_9_10_11_12_13.out hst14 s13a)
          clear XXa_2_3_4_5_6_7_8_9_10_11_12_13
          have s14a : w.heap.size < v14.heap.size := Nat.lt_of_lt_of_le s13a hst14.size
          clear s13a
          have XXac_2_3_4_5_6_7_8_9_10_11_12_13_14 := Lib.hid (BoxK.below XXac_2_3_4_5_6_7_8_9_10_11_12_13.out hst14 s13ac)
          clear XXac_2_3_4_5_6_7_8_9_10_11_12_13
          have s14ac : w.heap.size + 1 < v14.heap.size := Nat.lt_of_lt_of_le s13ac hst14.size
          clear s13ac
          have Xbw_3_4_5_6_7_8_9_10_11_12_13_14 := Lib.hid (BoxK.below Xbw_3_4_5_6_7_8_9_10_11_12_13.out hst14 s13bw)
          clear Xbw_3_4_5_6_7_8_9_10_11_12_13
          have s14bw : pw0_ < v14.heap.size := Nat.lt_of_lt_of_le s13bw hst14.size
          clear s13bw
          have Xbx_5_6_7_8_9_10_11_12_13_14 := Lib.hid (BoxK.below Xbx_5_6_7_8_9_10_11_12_13.out hst14 s13bx)
          clear Xbx_5_6_7_8_9_10_11_12_13
          have s14bx : v3.heap.size < v14.heap.size := Nat.lt_of_lt_of_le s13bx hst14.size
          clear s13bx
          have Xbg_6_7_8_9_10_11_12_13_14 := Lib.hid (BoxK.below Xbg_6_7_8_9_10_11_12_13.out hst14 s13bg)
          clear Xbg_6_7_8_9_10_11_12_13
          have s14bg : pg0_ < v14.heap.size := Nat.lt_of_lt_of_le s13bg hst14.size
          clear s13bg
          have Xbh_13_14 := Lib.hid (BoxK.below Xbh_13.out hst14 s13bh)
          clear Xbh_13
          have s14bh : ph0_ < v14.heap.size := Nat.lt_of_lt_of_le s13bh hst14.size
          clear s13bh
          clear hx14 hst14
          go_wp2_with fail
          go_ret
          exact ⟨rfl, HB14.out⟩
end Go.Proofs.Ytknopmbjbokpaaa.fnExactGridFill
