/- Texts that lay in modules of their own: SoJ, SoK. -/
import Derived.Test.YtgnpgkkjcloghaaGreatDoorSoI
import Derived.Deep.RegionWith
import Derived.Deep.DeepCutAuto
import Derived.Test.YtgnpgkkjcloghaaGreatDoorKm21
import Derived.Test.YtgnpgkkjcloghaaGreatDoorSoH
namespace Go.Proofs.YtgnpgkkjcloghaaGreatDoor.St
open Go.RowKit Go.Proofs.YtgnpgkkjcloghaaGreatDoor.Bytes Go.Proofs.YtgnpgkkjcloghaaGreatDoor.Rows_ Go.Proofs.YtgnpgkkjcloghaaGreatDoor.RowK Go.Proofs.YtgnpgkkjcloghaaGreatDoor.Gr Go.Proofs.YtgnpgkkjcloghaaGreatDoor.DOk Go.Proofs.YtgnpgkkjcloghaaGreatDoor.Opq Go.Proofs.YtgnpgkkjcloghaaGreatDoor.Sc
set_option linter.unusedVariables false
attribute [local go_sem ↓] Go.wp_at_zero Go.wp_at_succ lm_lawsVp lm_implVp lm_lawsScr lm_implScr lm_lawsTerm lm_implTerm lm_lawsPane lm_implPane lm_lawsWin lm_implWin lm_lawsSess lm_implSess lr_implVp lr_implTerm lr_implPane lr_implWin lr_implSess lr_lawsState lr_implState sm_Vp sm_Scr sm_Term sm_Pane sm_Win sm_Sess sr_Vp sr_Term sr_Pane sr_Win sr_Sess sr_State
attribute [local go_sem] RowZ.set rowOf_set rowOf_setRow_other rowOf_setRow_same rowOf_setCell_other blkOf_ptr isHead_ptr aggN_agg isPtr_ptr offOf_ptr setRow_alloc rowZ_at rowZ_past rowZ_setRow_other rowOf_alloc_at rowOf_alloc_past rowOf_drew seg_alloc_past seg_alloc_at seg_setCell_other seg_setRow_other seg_drew cut_term_scr cut_term_vp cut_pane_term vpA_size termA_size paneA_size winA_size sessA_size stA_size scrA_size one_vp one_scr one_term one_pane one_win one_sess one_st vp_at0 vp_at1 vp_at2 vp_at3 term_at0 term_at1 term_at2 term_at3 pane_at0 pane_at1 pane_at2 pane_at3 pane_at4 pane_at5 win_at0 win_at1 win_at2 win_at3 win_at4 sess_at0 sess_at1 sess_at2 st_at0 st_at1 st_at2 st_at3 st_at4 st_at5 st_at6
set_option maxRecDepth 100000 in
set_option maxHeartbeats 1600000 in
theorem stateIdsOk_any (s : StS) (w : World) (hr : RdSt w w.heap.size s) (hn : szSt s ≤ 1048576) (hb : boundsB s.data = true) :
    Calls Tryz.prog 25 #[.agg (stA s)] w fun e w' => e = .returned (.bool (stateIdsB s.data)) ∧ Below w.heap.size w w' := by
  have HR := Lib.hid (fun W (h : Below w.heap.size w W) => (hr.below (Nat.le_refl _) h).more h.size)
  have HN := Lib.hid hn
  have HB0 := Lib.hid ((Below.refl w.heap.size w).alloc (Nat.le_refl _) (.cells (stA s) 33))
  obtain ⟨np, nw, nx⟩ : s.panes.length ≤ 24 ∧ s.wins.length ≤ 12 ∧ s.next ≤ 1000000 := by
    unfold boundsB at hb
    simp only [Bool.and_eq_true, decide_eq_true_eq, idB_iff] at hb
    obtain ⟨⟨⟨⟨⟨_, _⟩, h3⟩, h4⟩, h5⟩, _⟩ := hb
    refine ⟨?_, ?_, h3.2⟩
    · show s.panes.length ≤ 24; have h := h4; unfold StS.data at h; simpa using h
    · show s.wins.length ≤ 12; have h := h5; unfold StS.data at h; simpa using h
  have lp : (paneIds s.data).length = s.panes.length := by unfold paneIds; show ((s.panes.map PaneS.data).map _).length = _; simp
  have lw : (winIds s.data).length = s.wins.length := by unfold winIds; show ((s.wins.map WinS.data).map _).length = _; simp
  have LP := Lib.hid lp
  have LW := Lib.hid lw
  have HK := Lib.hid (show stateIdsB s.data = (Sc.okT 0 s.next (paneIds s.data) && Sc.okT 0 s.next (winIds s.data) && decide (paneIds s.data ++ winIds s.data).Nodup) from rfl)
  clear hr hn hb lp lw
  go_enter Tryz.func25, Tryz.ntmps25
  go_upto_region 1 with fail
  obtain ⟨W0, hW0⟩ : ∃ x, x = w.alloc (.cells (stA s) 33) := ⟨_, rfl⟩
  have PB0 := Lib.hid (show RowB W0 w.heap.size (stA s) from by rw [hW0]; exact RowB.new w (stA s) 33)
  rw [← hW0] at HB0
  rw [← hW0]
  have hs0 : w.heap.size < W0.heap.size := by rw [hW0]; simp
  clear hW0
  have row0 : rowOf W0 w.heap.size = stA s := PB0.out.row
  have HPI := Lib.hid (fun W (h : Below w.heap.size w W) => paneIds_any s W (HR.out _ h) HN.out)
  have HWI := Lib.hid (fun W (h : Below w.heap.size w W) => winIds_any s W (HR.out _ h) HN.out)
  have HB0d := Lib.hid (HB0.out.drew)
  have HID := Lib.hid (Below.refl W0.heap.size W0)
  clear HR HN
  go_cut [3, 4] (fun p q wx => ∃ (A1 A2 : Option Addr) (c1 c2 : Nat), p = .slice A1 s.panes.length c1 ∧ q = .slice A2 s.wins.length c2 ∧ OwnI wx 0 A1 s.panes.length c1 (paneIds s.data) ∧ OwnI wx 0 A2 s.wins.length c2 (winIds s.data) ∧ Hid (Below w.heap.size w wx) ∧ Hid (RowB wx w.heap.size (stA s)))
  case first =>
    go_region_with (first
      | (go_at_call 59; first
          | (refine (HPI.out _ HB0d.out).mono ?_; rintro e u1 ⟨A1, c1, rfl, ho1, hb1'⟩; have hb1 := undrew hb1'; have HB1 := Lib.hid (HB0.out.trans (hb1.mono HB0.out.size)); have PB1 := Lib.hid (PB0.out.below hb1 PB0.out.lt); have row1 : rowOf u1 w.heap.size = stA s := PB1.out.row; have lt1 : w.heap.size < u1.heap.size := PB1.out.lt; have HO1 := Lib.hid ho1; clear ho1 hb1 hb1')
          | (refine (HPI.out _ HB1.out).mono ?_; rintro e u2 ⟨A1, c1, rfl, ho2, hb2⟩; have HB2 := Lib.hid (HB1.out.trans (hb2.mono HB1.out.size)); have PB2 := Lib.hid (PB1.out.below hb2 PB1.out.lt); have HOP := Lib.hid ho2; have HOW := Lib.hid (HO1.out.below (Nat.le_refl _) hb2); clear ho2 hb2))
      | (go_at_call 60; first
          | (refine (HWI.out _ HB0d.out).mono ?_; rintro e u1 ⟨A2, c2, rfl, ho1, hb1'⟩; have hb1 := undrew hb1'; have HB1 := Lib.hid (HB0.out.trans (hb1.mono HB0.out.size)); have PB1 := Lib.hid (PB0.out.below hb1 PB0.out.lt); have row1 : rowOf u1 w.heap.size = stA s := PB1.out.row; have lt1 : w.heap.size < u1.heap.size := PB1.out.lt; have HO1 := Lib.hid ho1; clear ho1 hb1 hb1')
          | (refine (HWI.out _ HB1.out).mono ?_; rintro e u2 ⟨A2, c2, rfl, ho2, hb2⟩; have HB2 := Lib.hid (HB1.out.trans (hb2.mono HB1.out.size)); have PB2 := Lib.hid (PB1.out.below hb2 PB1.out.lt); have HOW := Lib.hid ho2; have HOP := Lib.hid (HO1.out.below (Nat.le_refl _) hb2); clear ho2 hb2)))
    all_goals
      go_wp2_with fail
      go_meet
      case rel => exact ⟨A1, A2, c1, c2, rfl, rfl, HOP.out.more (Nat.zero_le _), HOW.out.more (Nat.zero_le _), HB2, PB2⟩
  case rest =>
    obtain ⟨A1, A2, c1, c2, rfl, rfl, ho12, ho2, HB2, PB2⟩ := hcut
    have HO12 := Lib.hid ho12
    have HO2 := Lib.hid ho2
    have hs2 : w.heap.size ≤ wc.heap.size := HB2.out.size
    have lt2 : w.heap.size < wc.heap.size := PB2.out.lt
    have cs3 : wc.cell? ⟨w.heap.size, 3, none⟩ = some (.int .i64 s.next) := PB2.out.cell 3
    clear ho12 ho2 HPI HWI PB0 row0 HB0d
    cases q1 : Sc.okT 0 s.next (paneIds s.data) <;> have Q1 := Lib.hid q1 <;> clear q1
    · go_wp2_with fail
      refine (areAsc1_any A1 s.panes.length c1 (paneIds s.data) s.next _ HO12.out.rd LP.out (by omega) (by omega)).mono ?_
      rintro e v ⟨rfl, rfl⟩
      rw [Q1.out]
      go_wp2_with fail
      go_ret
      exact ⟨Attr.rt_bool (by rw [HK.out, Q1.out, Bool.false_and, Bool.false_and]), HB2.out⟩
    go_wp2_with fail
    refine (areAsc1_any A1 s.panes.length c1 (paneIds s.data) s.next _ HO12.out.rd LP.out (by omega) (by omega)).mono ?_
    rintro e v ⟨rfl, rfl⟩
    rw [Q1.out]
    cases q2 : Sc.okT 0 s.next (winIds s.data) <;> have Q2 := Lib.hid q2 <;> clear q2
    · go_wp2_with fail
      refine (areAsc1_any A2 s.wins.length c2 (winIds s.data) s.next _ HO2.out.rd LW.out (by omega) (by omega)).mono ?_
      rintro e v ⟨rfl, rfl⟩
      rw [Q2.out]
      go_wp2_with fail
      go_ret
      exact ⟨Attr.rt_bool (by rw [HK.out, Q1.out, Q2.out, Bool.and_false, Bool.false_and]), HB2.out⟩
    go_wp2_with fail
    refine (areAsc1_any A2 s.wins.length c2 (winIds s.data) s.next _ HO2.out.rd LW.out (by omega) (by omega)).mono ?_
    rintro e v ⟨rfl, rfl⟩
    rw [Q2.out]
    have HP := Lib.hid (parts2I wc (Tr.okPart_int HO12.out (by omega)) (Tr.okPart_int HO2.out (by omega)))
    go_wp2_with fail
    refine (Tr.concatI_any _ 2 2 [Tr.partI A1 s.panes.length c1 (paneIds s.data), Tr.partI A2 s.wins.length c2 (winIds s.data)] _ HP.out rfl (by omega) (fun h => by cases h)).mono ?_
    rintro e v4 ⟨A4, c4, rfl, ho4, hb4⟩
    have hsum : Tr.sumN [Tr.partI A1 s.panes.length c1 (paneIds s.data), Tr.partI A2 s.wins.length c2 (winIds s.data)] = s.panes.length + s.wins.length := by simp [Tr.sumN, Tr.partI]
    have hcat : (Tr.catD [Tr.partI A1 s.panes.length c1 (paneIds s.data), Tr.partI A2 s.wins.length c2 (winIds s.data)]).flatten = iv (paneIds s.data ++ winIds s.data) := by
      unfold Tr.catD Tr.partI
      simp only [List.map_cons, List.map_nil, List.flatten_cons, List.flatten_nil, List.append_nil, List.flatten_append, Tr.ri_flat]
      unfold iv; rw [List.map_append]
    rw [hsum, hcat] at ho4
    rw [hsum]
    have HO4 := Lib.hid (show OwnI v4 _ A4 (s.panes.length + s.wins.length) c4 (paneIds s.data ++ winIds s.data) from ho4)
    have HB4 := Lib.hid ((HB2.out.alloc (by omega) _).trans (hb4.mono (by simp; omega)))
    clear ho4 hb4 hsum hcat
    have HWF := Lib.hid (show ∀ z ∈ paneIds s.data ++ winIds s.data, (Lit.int .i64 z).wf = true from fun z hz => by
      rcases List.mem_append.1 hz with h | h
      · exact asc_wf Q1.out nx z h
      · exact asc_wf Q2.out nx z h)
    go_wp2_with (go_at_call 62; refine (Tr.areDistinct_any A4 (s.panes.length + s.wins.length) c4 _ (paneIds s.data ++ winIds s.data) _ HO4.out.rd HO4.out.len (by omega) HWF.out (Nat.le_refl _)).mono ?_; rintro e v5 ⟨rfl, hb5⟩)
    go_ret
    exact ⟨Attr.rt_bool (by rw [HK.out, Q1.out, Q2.out, Bool.and_self, Bool.true_and]), HB4.out.trans (hb5.mono HB4.out.size)⟩
end Go.Proofs.YtgnpgkkjcloghaaGreatDoor.St
namespace Go.Proofs.YtgnpgkkjcloghaaGreatDoor.St
open Go.RowKit Go.Proofs.YtgnpgkkjcloghaaGreatDoor.Bytes Go.Proofs.YtgnpgkkjcloghaaGreatDoor.Rows_ Go.Proofs.YtgnpgkkjcloghaaGreatDoor.RowK Go.Proofs.YtgnpgkkjcloghaaGreatDoor.Gr Go.Proofs.YtgnpgkkjcloghaaGreatDoor.DOk Go.Proofs.YtgnpgkkjcloghaaGreatDoor.Opq Go.Proofs.YtgnpgkkjcloghaaGreatDoor.Sc
set_option linter.unusedVariables false
attribute [local go_sem ↓] Go.wp_at_zero Go.wp_at_succ lm_lawsVp lm_implVp lm_lawsScr lm_implScr lm_lawsTerm lm_implTerm lm_lawsPane lm_implPane lm_lawsWin lm_implWin lm_lawsSess lm_implSess lr_implVp lr_implTerm lr_implPane lr_implWin lr_implSess lr_lawsState lr_implState sm_Vp sm_Scr sm_Term sm_Pane sm_Win sm_Sess sr_Vp sr_Term sr_Pane sr_Win sr_Sess sr_State
attribute [local go_sem] RowZ.set rowOf_set rowOf_setRow_other rowOf_setRow_same rowOf_setCell_other blkOf_ptr isHead_ptr aggN_agg isPtr_ptr offOf_ptr setRow_alloc rowZ_at rowZ_past rowZ_setRow_other rowOf_alloc_at rowOf_alloc_past rowOf_drew seg_alloc_past seg_alloc_at seg_setCell_other seg_setRow_other seg_drew cut_term_scr cut_term_vp cut_pane_term vpA_size termA_size paneA_size winA_size sessA_size stA_size scrA_size one_vp one_scr one_term one_pane one_win one_sess one_st vp_at0 vp_at1 vp_at2 vp_at3 term_at0 term_at1 term_at2 term_at3 pane_at0 pane_at1 pane_at2 pane_at3 pane_at4 pane_at5 win_at0 win_at1 win_at2 win_at3 win_at4 sess_at0 sess_at1 sess_at2 st_at0 st_at1 st_at2 st_at3 st_at4 st_at5 st_at6
theorem ids_wf {d : StD} (hb : boundsB d = true) (hi : stateIdsB d = true) : ∀ z ∈ paneIds d ++ winIds d, (Lit.int .i64 z).wf = true := by
  unfold stateIdsB at hi
  unfold boundsB at hb
  simp only [Bool.and_eq_true, decide_eq_true_eq, idB_iff] at hi hb
  intro z hz
  rcases List.mem_append.1 hz with h | h
  · exact asc_wf hi.1.1 hb.1.1.1.2.2 z h
  · exact asc_wf hi.1.2 hb.1.1.1.2.2 z h
theorem bounds_lens {s : StS} (hb : boundsB s.data = true) : s.panes.length ≤ 24 ∧ s.wins.length ≤ 12 ∧ s.sess.length ≤ 8 := by
  unfold boundsB at hb
  simp only [Bool.and_eq_true, decide_eq_true_eq] at hb
  obtain ⟨⟨⟨_, h4⟩, h5⟩, h6⟩ := hb
  unfold StS.data at h4 h5 h6
  exact ⟨by simpa using h4, by simpa using h5, by simpa using h6⟩
theorem panesV_is (s : StS) : panesV (s.panes.map PaneS.data) = panesB s.data := rfl
theorem sessV_is (s : StS) : ((s.sess.map SessS.data).all sess1 && decide ((s.sess.map SessS.data).map (·.name)).Nodup) = sessB s.data := rfl
set_option maxRecDepth 100000 in
set_option maxHeartbeats 1600000 in
theorem impl_StateOk_any (B : Nat) (s : StS) (w : World) (h : StIn w B s) (hT : Dec.Tabs8 w) :
    Calls Tryz.prog 8 #[.agg (stA s)] w fun e w' => e = .returned (.bool (okStD s.data)) ∧ Below w.heap.size w w' := by
  have HI := Lib.hid (fun W (hb : Below w.heap.size w W) => h.below hb)
  have HTB := Lib.hid (fun W (hb : Below w.heap.size w W) => Rune.tabs_below hT hb)
  have HB0 := Lib.hid ((Below.refl w.heap.size w).alloc (Nat.le_refl _) (.cells (stA s) 33))
  have PB0 := Lib.hid (RowB.new w (stA s) 33)
  have HK := Lib.hid (show okStD s.data = (boundsB s.data && stateIdsB s.data && panesB s.data && winsB s.data && sessB s.data && eachB s.data && fitB s.data) from rfl)
  obtain ⟨W0, hW0⟩ : ∃ x, x = w.alloc (.cells (stA s) 33) := ⟨_, rfl⟩
  have HWF := Lib.hid (fun h1 h2 => ids_wf (d := s.data) h1 h2)
  have hl := h.lens
  clear h hT
  go_enter Tryz.func8, Tryz.ntmps8
  go_upto_region 1 with fail
  rw [← hW0]
  rw [← hW0] at HB0 PB0
  clear hW0
  have row0 : rowOf W0 w.heap.size = stA s := PB0.out.row
  have lt0 : w.heap.size < W0.heap.size := PB0.out.lt
  go_wp2_with fail
  refine (boundsOk_any s _ (HI.out _ HB0.out).n).mono ?_
  rintro e v1 ⟨rfl, hb1⟩
  have HB1 := Lib.hid (HB0.out.trans (hb1.mono HB0.out.size))
  have PB1 := Lib.hid (PB0.out.below hb1 PB0.out.lt)
  have row1 : rowOf v1 w.heap.size = stA s := PB1.out.row
  have lt1 : w.heap.size < v1.heap.size := PB1.out.lt
  clear hb1 row0 lt0
  rcases q1 : boundsB s.data with _ | _
  · have HA := Lib.hid (show okStD s.data = false by rw [HK.out, q1]; simp only [Bool.false_and])
    go_wp2_with fail
    go_ret
    exact ⟨Attr.rt_bool HA.out.symm, HB1.out⟩
  go_wp2_with fail
  refine (stateIdsOk_any s _ (HI.out _ HB1.out).r (HI.out _ HB1.out).n q1).mono ?_
  rintro e v2 ⟨rfl, hb2⟩
  have HB2 := Lib.hid (HB1.out.trans (hb2.mono HB1.out.size))
  have PB2 := Lib.hid (PB1.out.below hb2 PB1.out.lt)
  have row2 : rowOf v2 w.heap.size = stA s := PB2.out.row
  have lt2 : w.heap.size < v2.heap.size := PB2.out.lt
  have c4 : v2.cell? ⟨w.heap.size, 4, none⟩ = some (.slice s.pA s.panes.length s.pc) := PB2.out.cell 4
  clear hb2 row1 lt1
  rcases q2 : stateIdsB s.data with _ | _
  · have HA := Lib.hid (show okStD s.data = false by rw [HK.out, q1, q2]; simp only [Bool.and_false, Bool.false_and])
    go_wp2_with fail
    go_ret
    exact ⟨Attr.rt_bool HA.out.symm, HB2.out⟩
  have HWFI := Lib.hid (HWF.out q1 q2)
  have hl2 := bounds_lens q1
  go_wp2_with fail
  refine (panesOk_any s.pA s.panes.length s.pc s.panes _ (HTB.out _ HB2.out) (HI.out _ HB2.out).r.p (HI.out _ HB2.out).p (HI.out _ HB2.out).cmd rfl (by omega)).mono ?_
  rintro e v3 ⟨rfl, hb3⟩
  have HB3 := Lib.hid (HB2.out.trans (hb3.mono HB2.out.size))
  have PB3 := Lib.hid (PB2.out.below hb3 PB2.out.lt)
  have row3 : rowOf v3 w.heap.size = stA s := PB3.out.row
  have lt3 : w.heap.size < v3.heap.size := PB3.out.lt
  clear hb3 row2 lt2 c4
  rw [panesV_is]
  rcases q3 : panesB s.data with _ | _
  · have HA := Lib.hid (show okStD s.data = false by rw [HK.out, q1, q2, q3]; simp only [Bool.and_false, Bool.false_and])
    go_wp2_with fail
    go_ret
    exact ⟨Attr.rt_bool HA.out.symm, HB3.out⟩
  go_wp2_with fail
  refine (winsOk_any B s _ (HI.out _ HB3.out)).mono ?_
  rintro e v4 ⟨rfl, hb4⟩
  have HB4 := Lib.hid (HB3.out.trans (hb4.mono HB3.out.size))
  have PB4 := Lib.hid (PB3.out.below hb4 PB3.out.lt)
  have lt4 : w.heap.size < v4.heap.size := PB4.out.lt
  have c6 : v4.cell? ⟨w.heap.size, 6, none⟩ = some (.slice s.eA s.sess.length s.ec) := PB4.out.cell 6
  clear hb4 row3 lt3
  rcases q4 : winsB s.data with _ | _
  · have HA := Lib.hid (show okStD s.data = false by rw [HK.out, q1, q2, q3, q4]; simp only [Bool.and_false, Bool.false_and])
    go_wp2_with fail
    go_ret
    exact ⟨Attr.rt_bool HA.out.symm, HB4.out⟩
  go_wp2_with fail
  refine (sessOk_any s.eA s.sess.length s.ec s.sess _ (HI.out _ HB4.out).r.e (fun x hx => (HI.out _ HB4.out).r.et x hx) (HI.out _ HB4.out).ename rfl (by omega)).mono ?_
  rintro e v5 ⟨rfl, hb5⟩
  have HB5 := Lib.hid (HB4.out.trans (hb5.mono HB4.out.size))
  have PB5 := Lib.hid (PB4.out.below hb5 PB4.out.lt)
  have row5 : rowOf v5 w.heap.size = stA s := PB5.out.row
  have lt5 : w.heap.size < v5.heap.size := PB5.out.lt
  clear hb5 c6 lt4
  rw [sessV_is]
  rcases q5 : sessB s.data with _ | _
  · have HA := Lib.hid (show okStD s.data = false by rw [HK.out, q1, q2, q3, q4, q5]; simp only [Bool.and_false, Bool.false_and])
    go_wp2_with fail
    go_ret
    exact ⟨Attr.rt_bool HA.out.symm, HB5.out⟩
  go_wp2_with fail
  refine (isEachInOne_any B s _ (HI.out _ HB5.out) HWFI.out).mono ?_
  rintro e v6 ⟨rfl, hb6⟩
  have HB6 := Lib.hid (HB5.out.trans (hb6.mono HB5.out.size))
  have PB6 := Lib.hid (PB5.out.below hb6 PB5.out.lt)
  have row6 : rowOf v6 w.heap.size = stA s := PB6.out.row
  have lt6 : w.heap.size < v6.heap.size := PB6.out.lt
  clear hb6 row5 lt5
  rcases q6 : eachB s.data with _ | _
  · have HA := Lib.hid (show okStD s.data = false by rw [HK.out, q1, q2, q3, q4, q5, q6]; simp only [Bool.and_false, Bool.false_and])
    go_wp2_with fail
    go_ret
    exact ⟨Attr.rt_bool HA.out.symm, HB6.out⟩
  have HA := Lib.hid (show okStD s.data = fitB s.data by rw [HK.out, q1, q2, q3, q4, q5, q6]; simp only [Bool.true_and])
  go_wp2_with fail
  refine (termsFit_any B s _ (HI.out _ HB6.out)).mono ?_
  rintro e v7 ⟨rfl, hb7⟩
  have HB7 := Lib.hid (HB6.out.trans (hb7.mono HB6.out.size))
  clear hb7
  go_wp2_with fail
  go_ret
  exact ⟨Attr.rt_bool HA.out.symm, HB7.out⟩
end Go.Proofs.YtgnpgkkjcloghaaGreatDoor.St
