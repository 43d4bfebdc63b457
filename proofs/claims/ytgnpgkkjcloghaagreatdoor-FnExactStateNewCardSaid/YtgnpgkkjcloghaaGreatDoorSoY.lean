/- The laws' marks over a state without panes, windows and sessions. -/
import Derived.Test.YtgnpgkkjcloghaaGreatDoorSoX
import Derived.LoopN
namespace Go.Proofs.YtgnpgkkjcloghaaGreatDoor.St
open Go.RowKit Go.Proofs.YtgnpgkkjcloghaaGreatDoor.Bytes Go.Proofs.YtgnpgkkjcloghaaGreatDoor.Rows_ Go.Proofs.YtgnpgkkjcloghaaGreatDoor.RowK Go.Proofs.YtgnpgkkjcloghaaGreatDoor.Gr Go.Proofs.YtgnpgkkjcloghaaGreatDoor.DOk Go.Proofs.YtgnpgkkjcloghaaGreatDoor.Opq Go.Proofs.YtgnpgkkjcloghaaGreatDoor.Sc
set_option linter.unusedVariables false
attribute [local go_sem ↓] Go.wp_at_zero Go.wp_at_succ lm_lawsVp lm_implVp lm_lawsScr lm_implScr lm_lawsTerm lm_implTerm lm_lawsPane lm_implPane lm_lawsWin lm_implWin lm_lawsSess lm_implSess lr_implVp lr_implTerm lr_implPane lr_implWin lr_implSess lr_lawsState lr_implState sm_Vp sm_Scr sm_Term sm_Pane sm_Win sm_Sess sr_Vp sr_Term sr_Pane sr_Win sr_Sess sr_State
attribute [local go_sem] RowZ.set rowOf_set rowOf_setRow_other rowOf_setRow_same rowOf_setCell_other blkOf_ptr isHead_ptr aggN_agg isPtr_ptr offOf_ptr setRow_alloc rowZ_at rowZ_past rowZ_setRow_other rowOf_alloc_at rowOf_alloc_past rowOf_drew seg_alloc_past seg_alloc_at seg_setCell_other seg_setRow_other seg_drew cut_term_scr cut_term_vp cut_pane_term vpA_size termA_size paneA_size winA_size sessA_size stA_size scrA_size one_vp one_scr one_term one_pane one_win one_sess one_st vp_at0 vp_at1 vp_at2 vp_at3 term_at0 term_at1 term_at2 term_at3 pane_at0 pane_at1 pane_at2 pane_at3 pane_at4 pane_at5 win_at0 win_at1 win_at2 win_at3 win_at4 sess_at0 sess_at1 sess_at2 st_at0 st_at1 st_at2 st_at3 st_at4 st_at5 st_at6
set_option maxRecDepth 100000 in
set_option maxHeartbeats 1600000 in
theorem markPaneS_empty (k : Int) (w : World) : Calls Tryz.prog 34 #[.slice none 0 0, .int .i64 k] w fun e w' => e = .returned (.int .i64 k) ∧ w = w' := by
  go_enter Tryz.func34, Tryz.ntmps34
  go_wp2_with fail
  refine wp_loop_rounds 1 ?_
  rw [rounds_succ]
  go_wp2_with fail
  go_ret
  exact ⟨rfl, rfl⟩
set_option maxRecDepth 100000 in
set_option maxHeartbeats 1600000 in
theorem markWinS_empty (k : Int) (w : World) : Calls Tryz.prog 35 #[.slice none 0 0, .int .i64 k] w fun e w' => e = .returned (.int .i64 k) ∧ w = w' := by
  go_enter Tryz.func35, Tryz.ntmps35
  go_wp2_with fail
  refine wp_loop_rounds 1 ?_
  rw [rounds_succ]
  go_wp2_with fail
  go_ret
  exact ⟨rfl, rfl⟩
set_option maxRecDepth 100000 in
set_option maxHeartbeats 1600000 in
theorem markSessS_empty (k : Int) (w : World) : Calls Tryz.prog 36 #[.slice none 0 0, .int .i64 k] w fun e w' => e = .returned (.int .i64 k) ∧ w = w' := by
  go_enter Tryz.func36, Tryz.ntmps36
  go_wp2_with fail
  refine wp_loop_rounds 1 ?_
  rw [rounds_succ]
  go_wp2_with fail
  go_ret
  exact ⟨rfl, rfl⟩
set_option maxRecDepth 100000 in
set_option maxHeartbeats 1600000 in
theorem heldPaneS_empty (k : Int) (w : World) : Calls Tryz.prog 37 #[.slice none 0 0, .int .i64 k] w fun e w' => e = .returned (.int .i64 k) ∧ w = w' := by
  go_enter Tryz.func37, Tryz.ntmps37
  go_wp2_with fail
  refine wp_loop_rounds 1 ?_
  rw [rounds_succ]
  go_wp2_with fail
  go_ret
  exact ⟨rfl, rfl⟩
set_option maxRecDepth 100000 in
set_option maxHeartbeats 1600000 in
theorem heldWinS_empty (k : Int) (w : World) : Calls Tryz.prog 38 #[.slice none 0 0, .int .i64 k] w fun e w' => e = .returned (.int .i64 k) ∧ w = w' := by
  go_enter Tryz.func38, Tryz.ntmps38
  go_wp2_with fail
  refine wp_loop_rounds 1 ?_
  rw [rounds_succ]
  go_wp2_with fail
  go_ret
  exact ⟨rfl, rfl⟩
set_option maxRecDepth 100000 in
set_option maxHeartbeats 1600000 in
theorem heldSessS_empty (k : Int) (w : World) : Calls Tryz.prog 39 #[.slice none 0 0, .int .i64 k] w fun e w' => e = .returned (.int .i64 k) ∧ w = w' := by
  go_enter Tryz.func39, Tryz.ntmps39
  go_wp2_with fail
  refine wp_loop_rounds 1 ?_
  rw [rounds_succ]
  go_wp2_with fail
  go_ret
  exact ⟨rfl, rfl⟩
set_option maxRecDepth 100000 in
set_option maxHeartbeats 1600000 in
theorem markState_empty (x y z n k : Int) (w : World) (hk : 0 ≤ k) : Calls Tryz.prog 12 #[.agg #[.int .i64 x, .int .i64 y, .int .i64 z, .int .i64 n, .slice none 0 0, .slice none 0 0, .slice none 0 0], .int .i64 k] w fun e w' => e = .returned (.int .i64 k) ∧ Below w.heap.size w w' := by
  have HB0 := Lib.hid ((Below.refl w.heap.size w).alloc (Nat.le_refl _) (.cells #[.int .i64 x, .int .i64 y, .int .i64 z, .int .i64 n, .slice none 0 0, .slice none 0 0, .slice none 0 0] 33))
  have hk0 : ¬ k < 0 := by omega
  have R := RowB.new w #[.int .i64 x, .int .i64 y, .int .i64 z, .int .i64 n, .slice none 0 0, .slice none 0 0, .slice none 0 0] 33
  have c4 : (w.alloc (.cells #[.int .i64 x, .int .i64 y, .int .i64 z, .int .i64 n, .slice none 0 0, .slice none 0 0, .slice none 0 0] 33)).cell? ⟨w.heap.size, 4, none⟩ = some (.slice none 0 0) := R.cell 4
  have c5 : (w.alloc (.cells #[.int .i64 x, .int .i64 y, .int .i64 z, .int .i64 n, .slice none 0 0, .slice none 0 0, .slice none 0 0] 33)).cell? ⟨w.heap.size, 5, none⟩ = some (.slice none 0 0) := R.cell 5
  have c6 : (w.alloc (.cells #[.int .i64 x, .int .i64 y, .int .i64 z, .int .i64 n, .slice none 0 0, .slice none 0 0, .slice none 0 0] 33)).cell? ⟨w.heap.size, 6, none⟩ = some (.slice none 0 0) := R.cell 6
  clear R
  go_enter Tryz.func12, Tryz.ntmps12
  go_wp2_with fail
  refine (markPaneS_empty k _).mono ?_
  rintro e v ⟨rfl, rfl⟩
  go_wp2_with fail
  refine (markWinS_empty k _).mono ?_
  rintro e v ⟨rfl, rfl⟩
  go_wp2_with fail
  refine (markSessS_empty k _).mono ?_
  rintro e v ⟨rfl, rfl⟩
  go_wp2_with fail
  go_ret
  exact ⟨rfl, HB0.out⟩
set_option maxRecDepth 100000 in
set_option maxHeartbeats 1600000 in
theorem heldState_empty (x y z n k : Int) (w : World) (hk : 0 ≤ k) : Calls Tryz.prog 13 #[.agg #[.int .i64 x, .int .i64 y, .int .i64 z, .int .i64 n, .slice none 0 0, .slice none 0 0, .slice none 0 0], .int .i64 k] w fun e w' => e = .returned (.int .i64 k) ∧ Below w.heap.size w w' := by
  have HB0 := Lib.hid ((Below.refl w.heap.size w).alloc (Nat.le_refl _) (.cells #[.int .i64 x, .int .i64 y, .int .i64 z, .int .i64 n, .slice none 0 0, .slice none 0 0, .slice none 0 0] 33))
  have hk0 : ¬ k < 0 := by omega
  have R := RowB.new w #[.int .i64 x, .int .i64 y, .int .i64 z, .int .i64 n, .slice none 0 0, .slice none 0 0, .slice none 0 0] 33
  have c4 : (w.alloc (.cells #[.int .i64 x, .int .i64 y, .int .i64 z, .int .i64 n, .slice none 0 0, .slice none 0 0, .slice none 0 0] 33)).cell? ⟨w.heap.size, 4, none⟩ = some (.slice none 0 0) := R.cell 4
  have c5 : (w.alloc (.cells #[.int .i64 x, .int .i64 y, .int .i64 z, .int .i64 n, .slice none 0 0, .slice none 0 0, .slice none 0 0] 33)).cell? ⟨w.heap.size, 5, none⟩ = some (.slice none 0 0) := R.cell 5
  have c6 : (w.alloc (.cells #[.int .i64 x, .int .i64 y, .int .i64 z, .int .i64 n, .slice none 0 0, .slice none 0 0, .slice none 0 0] 33)).cell? ⟨w.heap.size, 6, none⟩ = some (.slice none 0 0) := R.cell 6
  clear R
  go_enter Tryz.func13, Tryz.ntmps13
  go_wp2_with fail
  refine (heldPaneS_empty k _).mono ?_
  rintro e v ⟨rfl, rfl⟩
  go_wp2_with fail
  refine (heldWinS_empty k _).mono ?_
  rintro e v ⟨rfl, rfl⟩
  go_wp2_with fail
  refine (heldSessS_empty k _).mono ?_
  rintro e v ⟨rfl, rfl⟩
  go_wp2_with fail
  go_ret
  exact ⟨rfl, HB0.out⟩
theorem newS_form (a b l : Int) : ∃ x y z n, newS_ a b l = emptyS x y z n := by
  unfold newS_; split
  · exact ⟨_, _, _, _, rfl⟩
  · exact ⟨_, _, _, _, rfl⟩
theorem eqState_empty (x y z n : Int) (w : World) : Calls Tryz.prog 9 #[.agg #[.int .i64 x, .int .i64 y, .int .i64 z, .int .i64 n, .slice none 0 0, .slice none 0 0, .slice none 0 0], .agg #[.int .i64 x, .int .i64 y, .int .i64 z, .int .i64 n, .slice none 0 0, .slice none 0 0, .slice none 0 0]] w fun e w' => e = .returned (.bool true) ∧ Below w.heap.size w w' :=
  eqState_yes (emptyS x y z n) (emptyS x y z n) w (emptyS_in w 0 x y z n).r (emptyS_in w 0 x y z n).r rfl (emptyS_in w 0 x y z n).n
end Go.Proofs.YtgnpgkkjcloghaaGreatDoor.St

