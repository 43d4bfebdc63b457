/- FnExactStateNew: the walk of the law from the contracts of the program, of its model and of the laws' helpers; at every input, no condition. -/
import Derived.Test.YtgnpgkkjcloghaaGreatDoorSoY
namespace Go.Proofs.YtgnpgkkjcloghaaGreatDoor.fnExactStateNew
open Go.Proofs.YtgnpgkkjcloghaaGreatDoor.St
open Go.RowKit Go.Proofs.YtgnpgkkjcloghaaGreatDoor.Bytes Go.Proofs.YtgnpgkkjcloghaaGreatDoor.Rows_ Go.Proofs.YtgnpgkkjcloghaaGreatDoor.RowK Go.Proofs.YtgnpgkkjcloghaaGreatDoor.Gr Go.Proofs.YtgnpgkkjcloghaaGreatDoor.DOk Go.Proofs.YtgnpgkkjcloghaaGreatDoor.Opq Go.Proofs.YtgnpgkkjcloghaaGreatDoor.Sc
set_option linter.unusedVariables false
attribute [local go_sem ↓] Go.wp_at_zero Go.wp_at_succ lm_lawsVp lm_implVp lm_lawsScr lm_implScr lm_lawsTerm lm_implTerm lm_lawsPane lm_implPane lm_lawsWin lm_implWin lm_lawsSess lm_implSess lr_implVp lr_implTerm lr_implPane lr_implWin lr_implSess lr_lawsState lr_implState sm_Vp sm_Scr sm_Term sm_Pane sm_Win sm_Sess sr_Vp sr_Term sr_Pane sr_Win sr_Sess sr_State
attribute [local go_sem] RowZ.set rowOf_set rowOf_setRow_other rowOf_setRow_same rowOf_setCell_other blkOf_ptr isHead_ptr aggN_agg isPtr_ptr offOf_ptr setRow_alloc rowZ_at rowZ_past rowZ_setRow_other rowOf_alloc_at rowOf_alloc_past rowOf_drew seg_alloc_past seg_alloc_at seg_setCell_other seg_setRow_other seg_drew cut_term_scr cut_term_vp cut_pane_term vpA_size termA_size paneA_size winA_size sessA_size stA_size scrA_size one_vp one_scr one_term one_pane one_win one_sess one_st vp_at0 vp_at1 vp_at2 vp_at3 term_at0 term_at1 term_at2 term_at3 pane_at0 pane_at1 pane_at2 pane_at3 pane_at4 pane_at5 win_at0 win_at1 win_at2 win_at3 win_at4 sess_at0 sess_at1 sess_at2 st_at0 st_at1 st_at2 st_at3 st_at4 st_at5 st_at6
theorem own : ownKnob Tryz.prog.godebug = none := by kernel_rfl
set_option maxRecDepth 100000 in
set_option maxHeartbeats 3200000 in
theorem walk (a b l : Int) (w : World) (w0 : (Lit.int .i64 a).wf = true) (w1 : (Lit.int .i64 b).wf = true) (w2 : (Lit.int .i64 l).wf = true) (hT : Dec.Tabs8 w) :
    Calls Tryz.prog 4 #[.int .i64 a, .int .i64 b, .int .i64 l] w fun e w' => e = .returned (.bool true) ∧ Below w.heap.size w w' := by
  clear w0 w1 w2
  obtain ⟨x, y, z, n, hx⟩ := newS_form a b l
  obtain ⟨ok, hok⟩ : ∃ o, o = newOkB a b l := ⟨_, rfl⟩
  have HTB := Lib.hid (fun W (hb : Below w.heap.size w W) => Rune.tabs_below hT hb)
  have HAN := Lib.hid (show ∀ W e w', AnsSN a b l W e w' → e = .returned (.tuple #[.agg #[.int .i64 x, .int .i64 y, .int .i64 z, .int .i64 n, .slice none 0 0, .slice none 0 0, .slice none 0 0], .bool ok]) ∧ Below W.heap.size W w' from fun W e w' h => by
    unfold AnsSN at h; rw [hx, emptyS_A, ← hok] at h; exact h)
  have HSP := Lib.hid (fun W => (spec_StateNew_any a b l W).mono (fun e w' h => HAN.out W e w' h))
  have HIM := Lib.hid (fun W (hb : Below w.heap.size w W) => (impl_StateNew_any a b l W (HTB.out W hb)).mono (fun e w' h => HAN.out W e w' h))
  have hne : (ok != ok) = false := by simp
  clear hx hok HAN hT
  have HEQ := Lib.hid (fun W => eqState_empty x y z n W)
  have HMK := Lib.hid (fun W => markState_empty x y z n 1 W (by omega))
  have HHE := Lib.hid (fun W => heldState_empty x y z n 1 W (by omega))
  go_enter Tryz.func4, Tryz.ntmps4
  go_wp2_with fail
  refine (HSP.out _).mono ?_
  rintro e v1 ⟨rfl, hb1⟩
  have HBa := Lib.hid ((show Below w.heap.size w v1 from hb1).alloc hb1.size (.cells #[.int .i64 x, .int .i64 y, .int .i64 z, .int .i64 n, .slice none 0 0, .slice none 0 0, .slice none 0 0] 33))
  have s1 : w.heap.size ≤ v1.heap.size := hb1.size
  have Rw1 := Lib.hid (RowB.new v1 #[.int .i64 x, .int .i64 y, .int .i64 z, .int .i64 n, .slice none 0 0, .slice none 0 0, .slice none 0 0] 33)
  clear hb1
  go_wp2_with fail
  refine (HIM.out _ HBa.out).mono ?_
  rintro e v2 ⟨rfl, hb2⟩
  have s2 : v1.heap.size < v2.heap.size := by have := hb2.size; simp at this; omega
  have Rw2 := Lib.hid ((Rw1.out.below hb2 (by simp)).alloc (.cells #[.int .i64 x, .int .i64 y, .int .i64 z, .int .i64 n, .slice none 0 0, .slice none 0 0, .slice none 0 0] 33))
  have Rg2 := Lib.hid (RowB.new v2 #[.int .i64 x, .int .i64 y, .int .i64 z, .int .i64 n, .slice none 0 0, .slice none 0 0, .slice none 0 0] 33)
  have row_w : rowOf v2 v1.heap.size = #[.int .i64 x, .int .i64 y, .int .i64 z, .int .i64 n, .slice none 0 0, .slice none 0 0, .slice none 0 0] := (Rw1.out.below hb2 (by simp)).row
  have HBb := Lib.hid ((HBa.out.trans (hb2.mono (by simp; omega))).alloc (by omega) (.cells #[.int .i64 x, .int .i64 y, .int .i64 z, .int .i64 n, .slice none 0 0, .slice none 0 0, .slice none 0 0] 33))
  clear hb2
  go_wp2_with fail
  refine (HEQ.out _).mono ?_
  rintro e v3 ⟨rfl, hb3⟩
  have HBc := Lib.hid (HBb.out.trans (hb3.mono HBb.out.size))
  have Rw3 := Lib.hid (Rw2.out.below hb3 Rw2.out.lt)
  have Rg3 := Lib.hid (Rg2.out.below hb3 Rg2.out.lt)
  have row_g : rowOf v3 v2.heap.size = #[.int .i64 x, .int .i64 y, .int .i64 z, .int .i64 n, .slice none 0 0, .slice none 0 0, .slice none 0 0] := Rg3.out.row
  have lt_g : v2.heap.size < v3.heap.size := Rg3.out.lt
  clear hb3 row_w
  go_wp2_with fail
  refine (HMK.out _).mono ?_
  rintro e v4 ⟨rfl, hb4⟩
  have HBd := Lib.hid (HBc.out.trans (hb4.mono HBc.out.size))
  have Rw4 := Lib.hid (Rw3.out.below hb4 Rw3.out.lt)
  have Rg4 := Lib.hid (Rg3.out.below hb4 Rg3.out.lt)
  have row_g4 : rowOf v4 v2.heap.size = #[.int .i64 x, .int .i64 y, .int .i64 z, .int .i64 n, .slice none 0 0, .slice none 0 0, .slice none 0 0] := Rg4.out.row
  have lt_g4 : v2.heap.size < v4.heap.size := Rg4.out.lt
  clear hb4 row_g lt_g
  go_wp2_with fail
  refine (HHE.out _).mono ?_
  rintro e v5 ⟨rfl, hb5⟩
  have HBe := Lib.hid (HBd.out.trans (hb5.mono HBd.out.size))
  have Rw5 := Lib.hid (Rw4.out.below hb5 Rw4.out.lt)
  have Rg5 := Lib.hid (Rg4.out.below hb5 Rg4.out.lt)
  clear hb5 row_g4 lt_g4
  go_wp2_with fail
  refine (HIM.out _ HBe.out).mono ?_
  rintro e v6 ⟨rfl, hb6⟩
  have HBf := Lib.hid ((HBe.out.trans (hb6.mono HBe.out.size)).alloc (by have := HBe.out.size; have := hb6.size; omega) (.cells #[.int .i64 x, .int .i64 y, .int .i64 z, .int .i64 n, .slice none 0 0, .slice none 0 0, .slice none 0 0] 33))
  have Rw6 := Lib.hid ((Rw5.out.below hb6 Rw5.out.lt).alloc (.cells #[.int .i64 x, .int .i64 y, .int .i64 z, .int .i64 n, .slice none 0 0, .slice none 0 0, .slice none 0 0] 33))
  have Rg6 := Lib.hid ((Rg5.out.below hb6 Rg5.out.lt).alloc (.cells #[.int .i64 x, .int .i64 y, .int .i64 z, .int .i64 n, .slice none 0 0, .slice none 0 0, .slice none 0 0] 33))
  have row_w6 : rowOf v6 v1.heap.size = #[.int .i64 x, .int .i64 y, .int .i64 z, .int .i64 n, .slice none 0 0, .slice none 0 0, .slice none 0 0] := (Rw5.out.below hb6 Rw5.out.lt).row
  have lt_w6 : v1.heap.size < v6.heap.size := (Rw5.out.below hb6 Rw5.out.lt).lt
  clear hb6
  go_wp2_with fail
  refine (HEQ.out _).mono ?_
  rintro e v7 ⟨rfl, hb7⟩
  have HBg := Lib.hid (HBf.out.trans (hb7.mono HBf.out.size))
  have Rg7 := Lib.hid (Rg6.out.below hb7 Rg6.out.lt)
  have row_g7 : rowOf v7 v2.heap.size = #[.int .i64 x, .int .i64 y, .int .i64 z, .int .i64 n, .slice none 0 0, .slice none 0 0, .slice none 0 0] := Rg7.out.row
  have lt_g7 : v2.heap.size < v7.heap.size := Rg7.out.lt
  clear hb7 row_w6 lt_w6
  go_wp2_with fail
  refine (HHE.out _).mono ?_
  rintro e v8 ⟨rfl, hb8⟩
  have HBh := Lib.hid (HBg.out.trans (hb8.mono HBg.out.size))
  clear hb8
  go_wp2_with fail
  go_ret
  exact ⟨rfl, HBh.out⟩
end Go.Proofs.YtgnpgkkjcloghaaGreatDoor.fnExactStateNew

