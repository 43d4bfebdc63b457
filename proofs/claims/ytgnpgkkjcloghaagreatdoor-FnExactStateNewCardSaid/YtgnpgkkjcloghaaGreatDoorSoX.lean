/- A state without panes, windows and sessions: the model's StateOk at it, and StateNew on both sides. -/
import Derived.Test.YtgnpgkkjcloghaaGreatDoorSoSa
import Derived.Test.YtgnpgkkjcloghaaGreatDoorGrNewS
namespace Go.Proofs.YtgnpgkkjcloghaaGreatDoor.St
open Go.RowKit Go.Proofs.YtgnpgkkjcloghaaGreatDoor.Bytes Go.Proofs.YtgnpgkkjcloghaaGreatDoor.Rows_ Go.Proofs.YtgnpgkkjcloghaaGreatDoor.RowK Go.Proofs.YtgnpgkkjcloghaaGreatDoor.Gr Go.Proofs.YtgnpgkkjcloghaaGreatDoor.DOk Go.Proofs.YtgnpgkkjcloghaaGreatDoor.Opq Go.Proofs.YtgnpgkkjcloghaaGreatDoor.Sc
set_option linter.unusedVariables false
attribute [local go_sem ↓] Go.wp_at_zero Go.wp_at_succ lm_lawsVp lm_implVp lm_lawsScr lm_implScr lm_lawsTerm lm_implTerm lm_lawsPane lm_implPane lm_lawsWin lm_implWin lm_lawsSess lm_implSess lr_implVp lr_implTerm lr_implPane lr_implWin lr_implSess lr_lawsState lr_implState sm_Vp sm_Scr sm_Term sm_Pane sm_Win sm_Sess sr_Vp sr_Term sr_Pane sr_Win sr_Sess sr_State
attribute [local go_sem] RowZ.set rowOf_set rowOf_setRow_other rowOf_setRow_same rowOf_setCell_other blkOf_ptr isHead_ptr aggN_agg isPtr_ptr offOf_ptr setRow_alloc rowZ_at rowZ_past rowZ_setRow_other rowOf_alloc_at rowOf_alloc_past rowOf_drew seg_alloc_past seg_alloc_at seg_setCell_other seg_setRow_other seg_drew cut_term_scr cut_term_vp cut_pane_term vpA_size termA_size paneA_size winA_size sessA_size stA_size scrA_size one_vp one_scr one_term one_pane one_win one_sess one_st vp_at0 vp_at1 vp_at2 vp_at3 term_at0 term_at1 term_at2 term_at3 pane_at0 pane_at1 pane_at2 pane_at3 pane_at4 pane_at5 win_at0 win_at1 win_at2 win_at3 win_at4 sess_at0 sess_at1 sess_at2 st_at0 st_at1 st_at2 st_at3 st_at4 st_at5 st_at6
def emptyS (a b l n : Int) : StS := ⟨a, b, l, n, none, 0, [], none, 0, [], none, 0, []⟩
theorem emptyS_A (a b l n : Int) : stA (emptyS a b l n) = #[.int .i64 a, .int .i64 b, .int .i64 l, .int .i64 n, .slice none 0 0, .slice none 0 0, .slice none 0 0] := rfl
def newOkB (a b l : Int) : Bool := sizeB a b && okL l
theorem emptyS_in (w : World) (B a b l n : Int) : StIn w 0 (emptyS a b l n) := by
  refine ⟨⟨fun h => ?_, fun p hp => ?_, fun h => ?_, fun p hp => ?_, fun h => ?_, fun p hp => ?_⟩, fun x hx => ?_, fun x hx => ?_, fun x hx => ?_, ?_, fun x hx => ?_⟩
  all_goals first
    | (simp [emptyS] at h; done) | (simp [emptyS] at hp; done) | (simp [emptyS] at hx; done) | (simp [emptyS, szSt, sumN]; done)
theorem emptyS_ok (a b l : Int) : okStD (emptyS a b l 1).data = newOkB a b l := by
  unfold okStD newOkB
  have h1 : boundsB (emptyS a b l 1).data = (sizeB a b && okL l) := by
    unfold boundsB; simp [emptyS, StS.data, idB]
  have h2 : stateIdsB (emptyS a b l 1).data = true := by unfold stateIdsB; simp [emptyS, StS.data, paneIds, winIds, Sc.okT]
  have h3 : panesB (emptyS a b l 1).data = true := by unfold panesB; simp [emptyS, StS.data, pidsD]
  have h4 : winsB (emptyS a b l 1).data = true := by unfold winsB; simp [emptyS, StS.data]
  have h5 : sessB (emptyS a b l 1).data = true := by unfold sessB; simp [emptyS, StS.data]
  have h6 : eachB (emptyS a b l 1).data = true := (eachB_iff _).2 (by unfold eachP; simp [emptyS, StS.data, leafIds, memIds, paneIds, winIds, entKeys])
  have h7 : fitB (emptyS a b l 1).data = true := by unfold fitB; simp [emptyS, StS.data]
  rw [h1, h2, h3, h4, h5, h6, h7]; simp only [Bool.and_true]
set_option maxRecDepth 100000 in
set_option maxHeartbeats 1600000 in
theorem l14Wins_empty (a b l : Int) (w : World) :
    Calls Tryz.prog 18 #[.agg #[.int .i64 a, .int .i64 b, .int .i64 l, .int .i64 1, .slice none 0 0, .slice none 0 0, .slice none 0 0]] w fun e w' => e = .returned (.bool true) ∧ Below w.heap.size w w' := by
  have hb0 := ((Below.refl w.heap.size w).alloc (Nat.le_refl _) (.cells #[.int .i64 a, .int .i64 b, .int .i64 l, .int .i64 1, .slice none 0 0, .slice none 0 0, .slice none 0 0] 33)).alloc (by simp) (.cells #[] 3)
  have hc4 : ((w.alloc (.cells #[.int .i64 a, .int .i64 b, .int .i64 l, .int .i64 1, .slice none 0 0, .slice none 0 0, .slice none 0 0] 33)).alloc (.cells #[] 3)).cell? ⟨w.heap.size, 4, none⟩ = some (.slice none 0 0) := (RowB.alloc (RowB.new w #[.int .i64 a, .int .i64 b, .int .i64 l, .int .i64 1, .slice none 0 0, .slice none 0 0, .slice none 0 0] 33) _).cell 4
  have hc5 : ((w.alloc (.cells #[.int .i64 a, .int .i64 b, .int .i64 l, .int .i64 1, .slice none 0 0, .slice none 0 0, .slice none 0 0] 33)).alloc (.cells #[] 3)).cell? ⟨w.heap.size, 5, none⟩ = some (.slice none 0 0) := (RowB.alloc (RowB.new w #[.int .i64 a, .int .i64 b, .int .i64 l, .int .i64 1, .slice none 0 0, .slice none 0 0, .slice none 0 0] 33) _).cell 5
  obtain ⟨V0, hV0⟩ : ∃ x, x = (w.alloc (.cells #[.int .i64 a, .int .i64 b, .int .i64 l, .int .i64 1, .slice none 0 0, .slice none 0 0, .slice none 0 0] 33)).alloc (.cells #[] 3) := ⟨_, rfl⟩
  rw [← hV0] at hb0 hc4 hc5
  have HB0 := Lib.hid hb0
  clear hb0
  go_enter Tryz.func18, Tryz.ntmps18
  go_upto_region 2 with fail
  rw [← hV0]
  clear hV0
  go_wp2_with fail
  go_loopw [3, 14] (fun v i wr => v = .slice (some ⟨w.heap.size + 1, 0, none⟩) 0 0 ∧ i = .int .i64 0 ∧ V0 = wr) (fun _ _ _ => 0)
  case atStart => exact ⟨rfl, rfl, rfl⟩
  case round =>
    obtain ⟨rfl, rfl, rfl⟩ := hrel
    go_wp2_with fail
    go_loopw [89] (fun i wr => i = .int .i64 0 ∧ V0 = wr) (fun _ _ => 0)
    case atStart => exact ⟨rfl, rfl⟩
    case round =>
      obtain ⟨rfl, rfl⟩ := hrel
      go_wp2_with fail
      go_ret
      exact ⟨rfl, HB0.out⟩
set_option maxRecDepth 100000 in
set_option maxHeartbeats 1600000 in
theorem l14Panes_empty (a b l : Int) (w : World) :
    Calls Tryz.prog 20 #[.agg #[.int .i64 a, .int .i64 b, .int .i64 l, .int .i64 1, .slice none 0 0, .slice none 0 0, .slice none 0 0]] w fun e w' => e = .returned (.bool true) ∧ Below w.heap.size w w' := by
  have hb0 := ((Below.refl w.heap.size w).alloc (Nat.le_refl _) (.cells #[.int .i64 a, .int .i64 b, .int .i64 l, .int .i64 1, .slice none 0 0, .slice none 0 0, .slice none 0 0] 33)).alloc (by simp) (.cells #[] 3)
  have hc4 : ((w.alloc (.cells #[.int .i64 a, .int .i64 b, .int .i64 l, .int .i64 1, .slice none 0 0, .slice none 0 0, .slice none 0 0] 33)).alloc (.cells #[] 3)).cell? ⟨w.heap.size, 4, none⟩ = some (.slice none 0 0) := (RowB.alloc (RowB.new w #[.int .i64 a, .int .i64 b, .int .i64 l, .int .i64 1, .slice none 0 0, .slice none 0 0, .slice none 0 0] 33) _).cell 4
  have hc5 : ((w.alloc (.cells #[.int .i64 a, .int .i64 b, .int .i64 l, .int .i64 1, .slice none 0 0, .slice none 0 0, .slice none 0 0] 33)).alloc (.cells #[] 3)).cell? ⟨w.heap.size, 5, none⟩ = some (.slice none 0 0) := (RowB.alloc (RowB.new w #[.int .i64 a, .int .i64 b, .int .i64 l, .int .i64 1, .slice none 0 0, .slice none 0 0, .slice none 0 0] 33) _).cell 5
  obtain ⟨V0, hV0⟩ : ∃ x, x = (w.alloc (.cells #[.int .i64 a, .int .i64 b, .int .i64 l, .int .i64 1, .slice none 0 0, .slice none 0 0, .slice none 0 0] 33)).alloc (.cells #[] 3) := ⟨_, rfl⟩
  rw [← hV0] at hb0 hc4 hc5
  have HB0 := Lib.hid hb0
  clear hb0
  go_enter Tryz.func20, Tryz.ntmps20
  go_upto_region 2 with fail
  rw [← hV0]
  clear hV0
  go_wp2_with fail
  go_loopw [12] (fun i wr => i = .int .i64 0 ∧ V0 = wr) (fun _ _ => 0)
  case atStart => exact ⟨rfl, rfl⟩
  case round =>
    obtain ⟨rfl, rfl⟩ := hrel
    go_wp2_with fail
    go_ret
    exact ⟨rfl, HB0.out⟩
set_option maxRecDepth 100000 in
set_option maxHeartbeats 1600000 in
theorem spec_StateOk_empty (a b l : Int) (w : World) :
    Calls Tryz.prog 6 #[.agg #[.int .i64 a, .int .i64 b, .int .i64 l, .int .i64 1, .slice none 0 0, .slice none 0 0, .slice none 0 0]] w fun e w' => e = .returned (.bool (newOkB a b l)) ∧ Below w.heap.size w w' := by
  have HB0 := Lib.hid ((Below.refl w.heap.size w).alloc (Nat.le_refl _) (.cells #[.int .i64 a, .int .i64 b, .int .i64 l, .int .i64 1, .slice none 0 0, .slice none 0 0, .slice none 0 0] 33))
  have PB0 := Lib.hid (RowB.new w #[.int .i64 a, .int .i64 b, .int .i64 l, .int .i64 1, .slice none 0 0, .slice none 0 0, .slice none 0 0] 33)
  have HK := Lib.hid (show newOkB a b l = (sizeB a b && okL l) from rfl)
  have HGN := Lib.hid (fun W => (spec_GridNew_any a b W).mono (fun e w' (h : AnsN W.heap.size W a b e w') => (show ∃ (x y : Int) (A : Option Addr) (n c : Nat), e = .returned (.tuple #[.agg #[.int .i64 x, .int .i64 y, .slice A n c], .bool (sizeB a b)]) ∧ Below W.heap.size W w' from by
    unfold AnsN at h
    cases hs : sizeB a b
    · rw [hs, if_neg (by simp)] at h; exact ⟨0, 0, none, 0, 0, h.1, h.2⟩
    · rw [hs, if_pos rfl] at h; obtain ⟨A, c, h1, _, h3⟩ := h; exact ⟨_, _, _, _, _, h1, h3⟩)))
  go_enter Tryz.func6, Tryz.ntmps6
  go_wp2_with fail
  refine (HGN.out _).mono ?_
  rintro e v1 ⟨x, y, A, n, c, rfl, hb1⟩
  have hbx := (Below.refl v1.heap.size v1).alloc (Nat.le_refl _) (.cells #[.int .i64 x, .int .i64 y, .slice A n c] 46)
  have hs1 : w.heap.size < v1.heap.size := by have := hb1.size; simp at this; omega
  have HB1 := Lib.hid ((HB0.out.trans (hb1.mono (by simp))).trans (hbx.mono (by omega)))
  have PB1 := Lib.hid (RowB.below (RowB.below PB0.out hb1 (by simp)) hbx hs1)
  obtain ⟨V, hV⟩ : ∃ V, V = v1.alloc (.cells #[.int .i64 x, .int .i64 y, .slice A n c] 46) := ⟨_, rfl⟩
  generalize sizeB a b = sz at *
  go_upto_region 2 with fail
  rw [← hV] at HB1 PB1
  rw [← hV]
  clear hbx hb1 hV
  have c2 : V.cell? ⟨w.heap.size, 2, none⟩ = some (.int .i64 l) := PB1.out.cell 2
  have c3 : V.cell? ⟨w.heap.size, 3, none⟩ = some (.int .i64 1) := PB1.out.cell 3
  have c4 : V.cell? ⟨w.heap.size, 4, none⟩ = some (.slice none 0 0) := PB1.out.cell 4
  have c5 : V.cell? ⟨w.heap.size, 5, none⟩ = some (.slice none 0 0) := PB1.out.cell 5
  have c6 : V.cell? ⟨w.heap.size, 6, none⟩ = some (.slice none 0 0) := PB1.out.cell 6
  have row1 : rowOf V w.heap.size = #[.int .i64 a, .int .i64 b, .int .i64 l, .int .i64 1, .slice none 0 0, .slice none 0 0, .slice none 0 0] := PB1.out.row
  have lt1 : w.heap.size < V.heap.size := PB1.out.lt
  cases sz
  · have HA := Lib.hid (show newOkB a b l = false by rw [HK.out]; rfl)
    go_wp2_with fail
    go_ret
    exact ⟨Attr.rt_bool HA.out.symm, HB1.out⟩
  by_cases l0 : l < 0
  · have HA := Lib.hid (show newOkB a b l = false by rw [HK.out, Bool.true_and]; exact decide_eq_false (by omega))
    go_wp2_with fail
    go_ret
    exact ⟨Attr.rt_bool HA.out.symm, HB1.out⟩
  by_cases l1 : 100 < l
  · have HA := Lib.hid (show newOkB a b l = false by rw [HK.out, Bool.true_and]; exact decide_eq_false (by omega))
    go_wp2_with fail
    go_ret
    exact ⟨Attr.rt_bool HA.out.symm, HB1.out⟩
  have HA := Lib.hid (show newOkB a b l = true by rw [HK.out, Bool.true_and]; exact decide_eq_true (by omega))
  have HS := Lib.hid (fun W => (show Calls Tryz.prog 19 #[.agg #[.int .i64 a, .int .i64 b, .int .i64 l, .int .i64 1, .slice none 0 0, .slice none 0 0, .slice none 0 0]] W fun e w' => e = .returned (.bool true) ∧ Below W.heap.size W w' from (l14Sess_any 0 (emptyS a b l 1) W (emptyS_in W 0 a b l 1)).mono (fun e w' h => ⟨by rw [h.1]; exact Attr.rt_bool (@decide_eq_true _ (Classical.propDecidable _) (by unfold mSess; simp [emptyS, StS.data, memIds])), h.2⟩)))
  go_wp2_with fail
  refine (l14Wins_empty a b l _).mono ?_
  rintro e v2 ⟨rfl, hb2⟩
  have HB2 := Lib.hid (HB1.out.trans (hb2.mono HB1.out.size))
  have PB2 := Lib.hid (PB1.out.below hb2 PB1.out.lt)
  have row2 : rowOf v2 w.heap.size = #[.int .i64 a, .int .i64 b, .int .i64 l, .int .i64 1, .slice none 0 0, .slice none 0 0, .slice none 0 0] := PB2.out.row
  have lt2 : w.heap.size < v2.heap.size := PB2.out.lt
  clear hb2
  go_wp2_with fail
  refine (HS.out _).mono ?_
  rintro e v3 ⟨rfl, hb3⟩
  have HB3 := Lib.hid (HB2.out.trans (hb3.mono HB2.out.size))
  have PB3 := Lib.hid (PB2.out.below hb3 PB2.out.lt)
  have row3 : rowOf v3 w.heap.size = #[.int .i64 a, .int .i64 b, .int .i64 l, .int .i64 1, .slice none 0 0, .slice none 0 0, .slice none 0 0] := PB3.out.row
  have lt3 : w.heap.size < v3.heap.size := PB3.out.lt
  clear hb3
  go_wp2_with fail
  refine (l14Panes_empty a b l _).mono ?_
  rintro e v4 ⟨rfl, hb4⟩
  have HB4 := Lib.hid (HB3.out.trans (hb4.mono HB3.out.size))
  clear hb4
  go_wp2_with fail
  go_ret
  exact ⟨Attr.rt_bool HA.out.symm, HB4.out⟩
theorem impl_StateOk_empty (a b l : Int) (w : World) (hT : Dec.Tabs8 w) :
    Calls Tryz.prog 8 #[.agg #[.int .i64 a, .int .i64 b, .int .i64 l, .int .i64 1, .slice none 0 0, .slice none 0 0, .slice none 0 0]] w fun e w' => e = .returned (.bool (newOkB a b l)) ∧ Below w.heap.size w w' :=
  (impl_StateOk_any 0 (emptyS a b l 1) w (emptyS_in w 0 a b l 1) hT).mono (fun e w' h => ⟨by rw [h.1, emptyS_ok], h.2⟩)
theorem res55b {P : Program} {fn : Func} {p q : Tmp} {T : TypeId} {d : TypeDesc} {sz : Nat} (h : fn.results = #[.cell p T, .tmp q]) (hu : P.underlying T = some d) (hd : (match d with | .struct _ | .array _ _ => true | _ => false) = true) (hi : (P.info? T).map (·.size) = some sz)
    (tmps : Array Value) (w : World) (b : Nat) (C : Array Value) (v : Value) (hp : tmps.getD p undef = .pointer (some ⟨b, 0, none⟩)) (hq : tmps.getD q undef = v) (hb : RowB w b C) (hs : C.size = sz) : (results fn tmps).run P w = .ok (.tuple #[.agg C, v]) w := by
  obtain ⟨T', hb⟩ := hb
  have hp' : tmps[p]?.getD undef = .pointer (some ⟨b, 0, none⟩) := by simpa using hp
  have hq' : tmps[q]?.getD undef = v := by simpa using hq
  simp [results, h, hp', hq', asAddr, run_loadVar_row w b T' T C (0, 0) d hb hu hd (by rw [hi, hs])]
/-- what StateNew answers -/
def newS_ (a b l : Int) : StS := if newOkB a b l = true then emptyS a b l 1 else emptyS 0 0 0 0
def AnsSN (a b l : Int) (w : World) (e : Ending) (w' : World) : Prop := e = .returned (.tuple #[.agg (stA (newS_ a b l)), .bool (newOkB a b l)]) ∧ Below w.heap.size w w'
set_option maxRecDepth 100000 in
set_option maxHeartbeats 1600000 in
theorem spec_StateNew_any (a b l : Int) (w : World) : Calls Tryz.prog 10 #[.int .i64 a, .int .i64 b, .int .i64 l] w (AnsSN a b l w) := by
  have l1 : w.heap.size < w.heap.size + 1 := by omega
  have HB0 := Lib.hid (((Below.refl w.heap.size w).alloc (Nat.le_refl _) (.cells #[.int .i64 0, .int .i64 0, .int .i64 0, .int .i64 0, .slice none 0 0, .slice none 0 0, .slice none 0 0] 33)).alloc (by simp) (.cells #[.int .i64 a, .int .i64 b, .int .i64 l, .int .i64 1, .slice none 0 0, .slice none 0 0, .slice none 0 0] 33))
  have RA := Lib.hid (RowB.alloc (RowB.new w #[.int .i64 0, .int .i64 0, .int .i64 0, .int .i64 0, .slice none 0 0, .slice none 0 0, .slice none 0 0] 33) (.cells #[.int .i64 a, .int .i64 b, .int .i64 l, .int .i64 1, .slice none 0 0, .slice none 0 0, .slice none 0 0] 33))
  have RB_ := RowB.new (w.alloc (.cells #[.int .i64 0, .int .i64 0, .int .i64 0, .int .i64 0, .slice none 0 0, .slice none 0 0, .slice none 0 0] 33)) #[.int .i64 a, .int .i64 b, .int .i64 l, .int .i64 1, .slice none 0 0, .slice none 0 0, .slice none 0 0] 33
  rw [World.size_alloc] at RB_
  have RB := Lib.hid RB_
  clear RB_
  have HOK := Lib.hid (fun W (hb : Below w.heap.size w W) => spec_StateOk_empty a b l W)
  go_enter Tryz.func10, Tryz.ntmps10
  go_wp2_with fail
  refine (HOK.out _ HB0.out).mono ?_
  rintro e v1 ⟨rfl, hb⟩
  have RA1 := Lib.hid (RowB.below RA.out hb (by simp; omega))
  have RB1 := Lib.hid (RowB.below RB.out hb (by simp))
  have HB1 := Lib.hid (HB0.out.trans (hb.mono (by simp; omega)))
  have rz : RowZ v1 w.heap.size 7 := RowZ.of RA1.out 7 rfl
  have z1 : w.heap.size < v1.heap.size := RA1.out.lt
  have z2 : w.heap.size + 1 < v1.heap.size := RB1.out.lt
  have row2 : rowOf v1 (w.heap.size + 1) = #[.int .i64 a, .int .i64 b, .int .i64 l, .int .i64 1, .slice none 0 0, .slice none 0 0, .slice none 0 0] := RB1.out.row
  have ho0 : One #[.int .i64 0, .int .i64 0, .int .i64 0, .int .i64 0, .slice none 0 0, .slice none 0 0, .slice none 0 0] := one_st (emptyS 0 0 0 0)
  have ho1 : One #[.int .i64 a, .int .i64 b, .int .i64 l, .int .i64 1, .slice none 0 0, .slice none 0 0, .slice none 0 0] := one_st (emptyS a b l 1)
  clear hb HOK
  cases hok : newOkB a b l
  · go_wp2_with fail
    refine bodyPost_ret (v := .tuple #[.agg (stA (emptyS 0 0 0 0)), .bool false]) (res55b rfl Tryz.underlying33 rfl size_implState _ _ w.heap.size _ _ rfl rfl (RA1.out.setRow) rfl) rfl ⟨by unfold newS_; rw [hok]; rfl, ?_⟩
    exact below_setRow HB1.out (Nat.le_refl _) _
  · go_wp2_with fail
    refine bodyPost_ret (v := .tuple #[.agg (stA (emptyS a b l 1)), .bool true]) (res55b rfl Tryz.underlying33 rfl size_implState _ _ w.heap.size _ _ rfl rfl (RA1.out.setRow) rfl) rfl ⟨by unfold newS_; rw [hok]; rfl, ?_⟩
    exact below_setRow HB1.out (Nat.le_refl _) _
set_option maxRecDepth 100000 in
set_option maxHeartbeats 1600000 in
theorem impl_StateNew_any (a b l : Int) (w : World) (hT : Dec.Tabs8 w) : Calls Tryz.prog 11 #[.int .i64 a, .int .i64 b, .int .i64 l] w (AnsSN a b l w) := by
  have l1 : w.heap.size < w.heap.size + 1 := by omega
  have HB0 := Lib.hid (((Below.refl w.heap.size w).alloc (Nat.le_refl _) (.cells #[.int .i64 0, .int .i64 0, .int .i64 0, .int .i64 0, .slice none 0 0, .slice none 0 0, .slice none 0 0] 33)).alloc (by simp) (.cells #[.int .i64 a, .int .i64 b, .int .i64 l, .int .i64 1, .slice none 0 0, .slice none 0 0, .slice none 0 0] 33))
  have RA := Lib.hid (RowB.alloc (RowB.new w #[.int .i64 0, .int .i64 0, .int .i64 0, .int .i64 0, .slice none 0 0, .slice none 0 0, .slice none 0 0] 33) (.cells #[.int .i64 a, .int .i64 b, .int .i64 l, .int .i64 1, .slice none 0 0, .slice none 0 0, .slice none 0 0] 33))
  have RB_ := RowB.new (w.alloc (.cells #[.int .i64 0, .int .i64 0, .int .i64 0, .int .i64 0, .slice none 0 0, .slice none 0 0, .slice none 0 0] 33)) #[.int .i64 a, .int .i64 b, .int .i64 l, .int .i64 1, .slice none 0 0, .slice none 0 0, .slice none 0 0] 33
  rw [World.size_alloc] at RB_
  have RB := Lib.hid RB_
  clear RB_
  have HOK := Lib.hid (fun W (hb : Below w.heap.size w W) => impl_StateOk_empty a b l W (Rune.tabs_below hT hb))
  go_enter Tryz.func11, Tryz.ntmps11
  go_wp2_with fail
  refine (HOK.out _ HB0.out).mono ?_
  rintro e v1 ⟨rfl, hb⟩
  have RA1 := Lib.hid (RowB.below RA.out hb (by simp; omega))
  have RB1 := Lib.hid (RowB.below RB.out hb (by simp))
  have HB1 := Lib.hid (HB0.out.trans (hb.mono (by simp; omega)))
  have rz : RowZ v1 w.heap.size 7 := RowZ.of RA1.out 7 rfl
  have z1 : w.heap.size < v1.heap.size := RA1.out.lt
  have z2 : w.heap.size + 1 < v1.heap.size := RB1.out.lt
  have row2 : rowOf v1 (w.heap.size + 1) = #[.int .i64 a, .int .i64 b, .int .i64 l, .int .i64 1, .slice none 0 0, .slice none 0 0, .slice none 0 0] := RB1.out.row
  have ho0 : One #[.int .i64 0, .int .i64 0, .int .i64 0, .int .i64 0, .slice none 0 0, .slice none 0 0, .slice none 0 0] := one_st (emptyS 0 0 0 0)
  have ho1 : One #[.int .i64 a, .int .i64 b, .int .i64 l, .int .i64 1, .slice none 0 0, .slice none 0 0, .slice none 0 0] := one_st (emptyS a b l 1)
  clear hb HOK
  cases hok : newOkB a b l
  · go_wp2_with fail
    refine bodyPost_ret (v := .tuple #[.agg (stA (emptyS 0 0 0 0)), .bool false]) (res55b rfl Tryz.underlying33 rfl size_implState _ _ w.heap.size _ _ rfl rfl (RA1.out.setRow) rfl) rfl ⟨by unfold newS_; rw [hok]; rfl, ?_⟩
    exact below_setRow HB1.out (Nat.le_refl _) _
  · go_wp2_with fail
    refine bodyPost_ret (v := .tuple #[.agg (stA (emptyS a b l 1)), .bool true]) (res55b rfl Tryz.underlying33 rfl size_implState _ _ w.heap.size _ _ rfl rfl (RA1.out.setRow) rfl) rfl ⟨by unfold newS_; rw [hok]; rfl, ?_⟩
    exact below_setRow HB1.out (Nat.le_refl _) _
end Go.Proofs.YtgnpgkkjcloghaaGreatDoor.St

