/- FnExactPaneOk: the walk of the law from the contracts of the program, of its model and of the laws' helpers; at every input, under the row's own condition on the listed variables. -/
import Derived.Test.YtbheimjepikkfaaDoorStU
import Derived.Deep.RegionWith
import Derived.Deep.Cut
import Derived.Deep.CutRange
import Derived.Deep.DeepCutAuto
import Derived.Deep.DrawnRows
namespace Go.Proofs.YtbheimjepikkfaaDoor.fnExactPaneOk
open Go.Proofs.YtbheimjepikkfaaDoor.St
open Go.RowKit Go.Proofs.YtbheimjepikkfaaDoor.Bytes Go.Proofs.YtbheimjepikkfaaDoor.Rows_ Go.Proofs.YtbheimjepikkfaaDoor.RowK Go.Proofs.YtbheimjepikkfaaDoor.Gr Go.Proofs.YtbheimjepikkfaaDoor.DOk Go.Proofs.YtbheimjepikkfaaDoor.Opq Go.Proofs.YtbheimjepikkfaaDoor.Sc
set_option linter.unusedVariables false
attribute [local go_sem ↓] Go.wp_at_zero Go.wp_at_succ lm_lawsVp lm_implVp lm_lawsScr lm_implScr lm_lawsTerm lm_implTerm lm_lawsPane lm_implPane lr_lawsTerm lr_lawsPane lr_implVp lr_implTerm lr_implPane sm_Vp sm_Scr sm_Term sm_Pane sr_Vp sr_Term sr_Pane
attribute [local go_sem] RowZ.set rowOf_set rowOf_setRow_other rowOf_setRow_same rowOf_setCell_other blkOf_ptr isHead_ptr aggN_agg isPtr_ptr offOf_ptr setRow_alloc rowZ_at rowZ_past rowZ_setRow_other rowOf_alloc_at rowOf_alloc_past rowOf_drew seg_alloc_past seg_alloc_at seg_setCell_other seg_setRow_other seg_drew cut_term_scr cut_term_vp cut_pane_term vpA_size termA_size paneA_size paneA_size one_vp one_scr one_term one_pane vp_at0 vp_at1 vp_at2 vp_at3 term_at0 term_at1 term_at2 term_at3 pane_at0 pane_at1 pane_at2 pane_at3 pane_at4 pane_at5
theorem own : ownKnob Tryd.prog.godebug = none := by kernel_rfl
set_option maxRecDepth 100000 in
set_option maxHeartbeats 16000000 in
theorem walk (s : PaneS) (w : World) (hr : RdT w w.heap.size s.t) (hl : LenP s) (hg : Rng s.t.v.bs) (hT : Dec.Tabs8 w) :
    Calls Tryd.prog 4 #[.agg (paneA s)] w fun e w' => e = .returned (.bool true) ∧ Below w.heap.size w w' := by
  have HR := Lib.hid (fun W (h : Below w.heap.size w W) => (hr.below (Nat.le_refl _) h).more h.size)
  have HLN := Lib.hid hl
  obtain ⟨ok, hok⟩ : ∃ b, b = okPd s.data := ⟨_, rfl⟩
  have HK := Lib.hid hok.symm
  have HQ := Lib.hid (show ∀ t : PaneS, t.data = s.data → szP t = szP s from fun t h => szP_of h)
  have HG := Lib.hid (fun (t : PaneS) (h : t.data = s.data) => (show Rng t.t.v.bs by rw [bs_ofPane h]; exact hg))
  have HTB := Lib.hid (fun W (hb : Below w.heap.size w W) => Rune.tabs_below hT hb)
  clear hr hl hok hg hT
  have hne : (ok != ok) = false := by simp
  have HB0 := Lib.hid (Below.refl w.heap.size w)
  go_enter Tryd.func4, Tryd.ntmps4
  have HX := Lib.hid (show Below w.heap.size w (w.alloc (.cells (paneA s) 52)) from ((Below.refl w.heap.size w).alloc (by simp <;> omega) (.cells (paneA s) 52)))
  have HBX := Lib.hid (HB0.out.trans (HX.out.mono HB0.out.size))
  have pb_ := RowB.new w (paneA s) 52
  (try simp only [World.size_alloc] at pb_)
  have PBa := Lib.hid (show RowB (w.alloc (.cells (paneA s) 52)) (w.heap.size) (paneA s) from pb_)
  clear pb_
  go_wp2_with fail
  refine (szPane_any s 1048576 _ (HR.out _ HBX.out) HLN.out (by omega) (by omega)).mono ?_
  rintro e v1 ⟨r, rfl, hr1, hx⟩
  have HB1 := Lib.hid (HBX.out.trans (hx.mono HBX.out.size))
  have Fa1 := Lib.hid (RowB.below PBa.out hx PBa.out.lt)
  have sz1 : w.heap.size ≤ v1.heap.size := Nat.le_trans HX.out.size hx.size
  clear HX HBX HB0 PBa hx
  have row_a := Fa1.out.row
  have lt_a := Fa1.out.lt
  rcases hr1 with rfl | ⟨h0, h1⟩
  · go_wp2_with fail
    go_ret
    exact ⟨rfl, HB1.out⟩
  clear row_a lt_a
  have HSZ := Lib.hid (show szP s ≤ 1048576 by omega)
  clear h1
  have HX := Lib.hid (show Below v1.heap.size v1 v1 from (Below.refl v1.heap.size v1))
  have HBX := Lib.hid (HB1.out.trans (HX.out.mono HB1.out.size))
  have PBa := Lib.hid (RowB.below Fa1.out HX.out Fa1.out.lt)
  have row_a : rowOf v1 (w.heap.size) = (paneA s) := Fa1.out.row
  have lt_a : w.heap.size < v1.heap.size := Fa1.out.lt
  go_wp2_with fail
  refine (toPane_any s _ (HR.out _ HBX.out) (szT_le HSZ.out)).mono ?_
  rintro e v2 ⟨s1, rfl, ho, hd, hx⟩
  clear row_a lt_a
  have HB2 := Lib.hid (HBX.out.trans (hx.mono HBX.out.size))
  have Fa2 := Lib.hid (RowB.below PBa.out hx PBa.out.lt)
  have sz2 : v1.heap.size ≤ v2.heap.size := Nat.le_trans HX.out.size hx.size
  have Et2 := Lib.hid ho
  clear HX HBX HB1 Fa1 PBa hx ho
  have D1 := Lib.hid hd
  clear hd
  have HX := Lib.hid (show Below v2.heap.size v2 v2 from (Below.refl v2.heap.size v2))
  have Nt := Lib.hid (Et2.out.below (Nat.le_refl _) HX.out)
  have HBX := Lib.hid (HB2.out.trans (HX.out.mono HB2.out.size))
  have PBa := Lib.hid (RowB.below Fa2.out HX.out Fa2.out.lt)
  go_wp2_with fail
  refine (spec_PaneOk_any s1 _ (Nt.out.in_ (HG.out _ D1.out)) (by rw [cmd_of D1.out]; exact HLN.out.c) (by rw [dir_of D1.out]; exact HLN.out.d) (szT_le (by rw [HQ.out _ D1.out]; exact HSZ.out))).mono ?_
  rintro e v3 ⟨rfl, hx⟩
  have HB3 := Lib.hid (HBX.out.trans (hx.mono HBX.out.size))
  have Et3 := Lib.hid (Nt.out.below (Nat.le_refl _) hx)
  have Fa3 := Lib.hid (RowB.below PBa.out hx PBa.out.lt)
  have sz3 : v2.heap.size ≤ v3.heap.size := Nat.le_trans HX.out.size hx.size
  clear HX HBX HB2 Et2 Fa2 Nt PBa hx
  rw [D1.out, HK.out]
  clear Et3
  have HX := Lib.hid (show Below v3.heap.size v3 v3 from (Below.refl v3.heap.size v3))
  have HBX := Lib.hid (HB3.out.trans (HX.out.mono HB3.out.size))
  have PBa := Lib.hid (RowB.below Fa3.out HX.out Fa3.out.lt)
  have row_a : rowOf v3 (w.heap.size) = (paneA s) := Fa3.out.row
  have lt_a : w.heap.size < v3.heap.size := Fa3.out.lt
  go_wp2_with fail
  refine (toPane_any s _ (HR.out _ HBX.out) (szT_le HSZ.out)).mono ?_
  rintro e v4 ⟨s2, rfl, ho, hd, hx⟩
  clear row_a lt_a
  have HB4 := Lib.hid (HBX.out.trans (hx.mono HBX.out.size))
  have Fa4 := Lib.hid (RowB.below PBa.out hx PBa.out.lt)
  have sz4 : v3.heap.size ≤ v4.heap.size := Nat.le_trans HX.out.size hx.size
  have Ex4 := Lib.hid ho
  clear HX HBX HB3 Fa3 PBa hx ho
  have D2 := Lib.hid hd
  clear hd
  have HX := Lib.hid (show Below v4.heap.size v4 (v4.alloc (.cells (paneA s2) 56)) from ((Below.refl v4.heap.size v4).alloc (by simp <;> omega) (.cells (paneA s2) 56)))
  have Nx := Lib.hid (Ex4.out.below (Nat.le_refl _) HX.out)
  have HBX := Lib.hid (HB4.out.trans (HX.out.mono HB4.out.size))
  have pb_ := RowB.new v4 (paneA s2) 56
  (try simp only [World.size_alloc] at pb_)
  have PBbx := Lib.hid (show RowB (v4.alloc (.cells (paneA s2) 56)) (v4.heap.size) (paneA s2) from pb_)
  clear pb_
  have PBa := Lib.hid (RowB.below Fa4.out HX.out Fa4.out.lt)
  go_wp2_with fail
  refine (impl_PaneOk_any s2 _ (HTB.out _ HBX.out) (Nx.out.in_ (HG.out _ D2.out)) (by rw [cmd_of D2.out]; exact HLN.out.c) (by rw [dir_of D2.out]; exact HLN.out.d) (szT_le (by rw [HQ.out _ D2.out]; exact HSZ.out))).mono ?_
  rintro e v5 ⟨rfl, hx⟩
  have HB5 := Lib.hid (HBX.out.trans (hx.mono HBX.out.size))
  have Ex5 := Lib.hid (Nx.out.below (Nat.le_refl _) hx)
  have Fa5 := Lib.hid (RowB.below PBa.out hx PBa.out.lt)
  have Fbx5 := Lib.hid (RowB.below PBbx.out hx PBbx.out.lt)
  have sz5 : v4.heap.size ≤ v5.heap.size := Nat.le_trans HX.out.size hx.size
  clear HX HBX HB4 Ex4 Fa4 Nx PBa PBbx hx
  rw [D2.out, HK.out]
  have row_a := Fa5.out.row
  have lt_a := Fa5.out.lt
  have row_x := Fbx5.out.row
  have lt_x := Fbx5.out.lt
  have HT := Lib.hid (fun W (h : Below w.heap.size w W) => toPane_any s W (HR.out W h) (szT_le HSZ.out))
  go_upto_region 10 with fail
  go_cut [26] (fun c wx => c = .bool false ∧ Below v5.heap.size v5 wx)
  case first =>
    go_region_with (first
      | (go_at_call 12; refine (HT.out _ ?_).mono ?_; exact ⟨HB5.out.os, HB5.out.tape, HB5.out.output, HB5.out.size, HB5.out.block⟩; rintro e y1 ⟨s3, rfl, hoy, hdy, hxy'⟩; have hxy : Below v5.heap.size v5 y1 := Rows_.undrew hxy'; clear hxy'; have HOY := Lib.hid hoy; have HDY := Lib.hid hdy; have HPY := Lib.hid (Ex5.out.below (Nat.le_refl _) hxy); have row_y : rowOf y1 v4.heap.size = paneA s2 := (RowB.below Fbx5.out hxy lt_x).row; have row_z : rowOf y1 w.heap.size = paneA s := (RowB.below Fa5.out hxy lt_a).row; have HXY := Lib.hid hxy; have zy := hxy.size; clear hoy hdy hxy)
      | (go_at_call 14; refine (eqPane_yes s2 s3 _ HPY.out.rd HOY.out.rd (HDY.out.trans D2.out.symm) (szT_le (by rw [HQ.out _ D2.out]; exact HSZ.out))).mono ?_; rintro e y2 ⟨rfl, hxz⟩))
    all_goals
      have HE := Lib.hid (HXY.out.trans (hxz.mono zy))
      clear hxz
      go_wp2_with fail
      go_meet
      case rel => exact ⟨rfl, HE.out⟩
  case rest =>
    obtain ⟨rfl, hx⟩ := hcut
    have HB6 := Lib.hid (HB5.out.trans (hx.mono HB5.out.size))
    clear hx row_a row_x lt_a lt_x
    go_wp2_with fail
    go_ret
    exact ⟨rfl, HB6.out⟩
end Go.Proofs.YtbheimjepikkfaaDoor.fnExactPaneOk
