/- The laws' helpers over states: the copy, the size, the comparison where both hold the same. -/
import Derived.Test.YtkinkdgnephcbaaStLb
import Derived.Deep.RegionWith
import Derived.Deep.DrawnRows
namespace Go.Proofs.Ytkinkdgnephcbaa.St
open Go.RowKit Go.Proofs.Ytkinkdgnephcbaa.Bytes Go.Proofs.Ytkinkdgnephcbaa.Rows_ Go.Proofs.Ytkinkdgnephcbaa.RowK Go.Proofs.Ytkinkdgnephcbaa.Gr Go.Proofs.Ytkinkdgnephcbaa.DOk Go.Proofs.Ytkinkdgnephcbaa.Opq Go.Proofs.Ytkinkdgnephcbaa.Sc
set_option linter.unusedVariables false
attribute [local go_sem ↓] Go.wp_at_zero Go.wp_at_succ lm_lawsVp lm_implVp lm_lawsScr lm_implScr lm_lawsTerm lm_implTerm lm_lawsPane lm_implPane lm_lawsWin lm_implWin lm_lawsSess lm_implSess lr_implVp lr_implTerm lr_implPane lr_implWin lr_implSess lr_lawsState lr_implState sm_Vp sm_Scr sm_Term sm_Pane sm_Win sm_Sess sr_Vp sr_Term sr_Pane sr_Win sr_Sess sr_State
attribute [local go_sem] RowZ.set rowOf_set rowOf_setRow_other rowOf_setRow_same rowOf_setCell_other blkOf_ptr isHead_ptr aggN_agg isPtr_ptr offOf_ptr setRow_alloc rowZ_at rowZ_past rowZ_setRow_other rowOf_alloc_at rowOf_alloc_past rowOf_drew seg_alloc_past seg_alloc_at seg_setCell_other seg_setRow_other seg_drew cut_term_scr cut_term_vp cut_pane_term vpA_size termA_size paneA_size winA_size sessA_size stA_size scrA_size one_vp one_scr one_term one_pane one_win one_sess one_st vp_at0 vp_at1 vp_at2 vp_at3 term_at0 term_at1 term_at2 term_at3 pane_at0 pane_at1 pane_at2 pane_at3 pane_at4 pane_at5 win_at0 win_at1 win_at2 win_at3 win_at4 sess_at0 sess_at1 sess_at2 st_at0 st_at1 st_at2 st_at3 st_at4 st_at5 st_at6
theorem szP_t (p : PaneS) : szT p.t ≤ szP p := by unfold szP; omega
theorem szW_t (p : WinS) : p.tree.length ≤ szW p := by unfold szW; omega
theorem szE_t (p : SessS) : p.wins.length ≤ szE p := by unfold szE; omega
def AnsSt (d : StD) (w : World) (e : Ending) (w' : World) : Prop := ∃ s, e = .returned (.agg (stA s)) ∧ OwnSt w' w.heap.size s ∧ s.data = d ∧ Below w.heap.size w w'
set_option maxRecDepth 100000 in
set_option maxHeartbeats 1600000 in
theorem toState_any (s : StS) (w : World) (hr : RdSt w w.heap.size s) (hn : szSt s ≤ 1048576) :
    Calls Try.prog 47 #[.agg (stA s)] w (AnsSt s.data w) := by
  have HR := Lib.hid (fun W (h : Below w.heap.size w W) => (hr.below (Nat.le_refl _) h).more h.size)
  unfold szSt at hn
  have n1 : s.panes.length ≤ 1048576 := by omega
  have n2 : s.wins.length ≤ 1048576 := by omega
  have n3 : s.sess.length ≤ 1048576 := by omega
  have N1 := Lib.hid (show ∀ p ∈ s.panes, szT p.t ≤ 1048576 from fun p hp => by have h1 := sumN_mem szP hp; have h2 := szP_t p; omega)
  have N2 := Lib.hid (show ∀ p ∈ s.wins, p.tree.length ≤ 1048576 from fun p hp => by have h1 := sumN_mem szW hp; have h2 := szW_t p; omega)
  have N3 := Lib.hid (show ∀ p ∈ s.sess, p.wins.length ≤ 1048576 from fun p hp => by have h1 := sumN_mem szE hp; have h2 := szE_t p; omega)
  clear hr hn
  have l1 : w.heap.size < w.heap.size + 1 := by omega
  have l2 : w.heap.size < w.heap.size + 1 + 1 := by omega
  have l3 : w.heap.size + 1 < w.heap.size + 1 + 1 := by omega
  go_enter Try.func47, Try.ntmps47
  go_wp2_with fail
  refine (toPaneS_any s.pA s.panes.length s.pc s.panes _ (HR.out _ ?hb).p rfl (HR.out _ ?hb').pt n1 N1.out).mono ?_
  case hb => repeat (first | exact Below.refl _ _ | refine Below.alloc ?_ (by simp <;> omega) _)
  case hb' => repeat (first | exact Below.refl _ _ | refine Below.alloc ?_ (by simp <;> omega) _)
  rintro e v1 ⟨A1, c1, g1, rfl, ho1, hd1, hq1, hb1⟩
  have hl1 := map_len hd1
  have ne_ao : w.heap.size ≠ w.heap.size + 1 + 1 := by omega
  have ne_ro : w.heap.size + 1 ≠ w.heap.size + 1 + 1 := by omega
  have ne_ra : w.heap.size + 1 ≠ w.heap.size := by omega
  have ne_ar : w.heap.size ≠ w.heap.size + 1 := by omega
  have ne_or : w.heap.size + 1 + 1 ≠ w.heap.size + 1 := by omega
  have xa := RowB.below (((RowB.new w (stA s) 74).alloc _).alloc _) hb1 (by simp <;> omega)
  have xr := RowB.below ((RowB.new (w.alloc _) _ _).alloc _) hb1 (by simp <;> omega)
  have xo := RowB.below (RowB.new ((w.alloc _).alloc _) _ _) hb1 (by simp <;> omega)
  simp only [World.size_alloc] at xr xo
  have XA1 := Lib.hid xa
  have XR1 := Lib.hid xr
  have XO1 := Lib.hid xo
  clear xa xr xo
  have za : w.heap.size < v1.heap.size := XA1.out.lt
  have zr : w.heap.size + 1 < v1.heap.size := XR1.out.lt
  have zo : w.heap.size + 1 + 1 < v1.heap.size := XO1.out.lt
  have HB1 := Lib.hid (show Below w.heap.size w v1 from Below.trans (((((Below.refl w.heap.size w).alloc (Nat.le_refl _) _).alloc (by simp) _).alloc (by simp <;> omega) _)) (hb1.mono (by simp <;> omega)))
  have P1 := Lib.hid (own_moreK (base' := w.heap.size + 3) ho1 (by simp <;> omega))
  have Q1 := Lib.hid (hq1.more (base' := w.heap.size + 3) (by simp <;> omega))
  have D1 := Lib.hid hd1
  clear ho1 hb1 hq1 hd1
  have co4 : v1.cell? ⟨w.heap.size + 1 + 1, 4, none⟩ = some (.slice none 0 0) := XO1.out.cell 4
  have fo4 : v1.frozen? ⟨w.heap.size + 1 + 1, 4, none⟩ = false := XO1.out.free 4
  have ca5 : v1.cell? ⟨w.heap.size, 5, none⟩ = some (.slice s.wA s.wins.length s.wc) := XA1.out.cell 5
  go_wp2_with fail
  refine (toWinS_any s.wA s.wins.length s.wc s.wins _ (HR.out _ ?hb).wr rfl (HR.out _ ?hb').wt n2 N2.out).mono ?_
  case hb => exact HB1.out.setCell (by simp <;> omega) _
  case hb' => exact HB1.out.setCell (by simp <;> omega) _
  rintro e v2 ⟨A2, c2, g2, rfl, ho2, hd2, hq2, hb2⟩
  clear co4 fo4 ca5
  have hl2 := map_len hd2
  have XA2 := Lib.hid (RowB.below (XA1.out.other (by omega)) hb2 (by simp only [World.size_setCell]; omega))
  have XR2 := Lib.hid (RowB.below (XR1.out.other (by omega)) hb2 (by simp only [World.size_setCell]; omega))
  have XO2 := Lib.hid (RowB.below (XO1.out.set) hb2 (by simp only [World.size_setCell]; omega))
  have P2 := Lib.hid (own_belowK (own_setK P1.out (w.heap.size + 1 + 1) 4 (.slice A1 s.panes.length c1) (by omega)) (Nat.le_refl _) hb2)
  have Q2 := Lib.hid ((Q1.out.set_ (w.heap.size + 1 + 1) 4 (.slice A1 s.panes.length c1) (by omega)).below (Nat.le_refl _) hb2)
  have R2 := Lib.hid (own_moreK (base' := w.heap.size + 3) ho2 (by simp only [World.size_setCell]; omega))
  have S2 := Lib.hid (hq2.more (base' := w.heap.size + 3) (by simp only [World.size_setCell]; omega))
  have zv2 : v1.heap.size ≤ v2.heap.size := by have := hb2.size; simp only [World.size_setCell] at this; exact this
  have HB2 := Lib.hid ((HB1.out.setCell (p := ⟨w.heap.size + 1 + 1, 4, none⟩) (by simp <;> omega) (.slice A1 s.panes.length c1)).trans (hb2.mono (by simp only [World.size_setCell]; omega)))
  have D2 := Lib.hid hd2
  have zr2 : w.heap.size + 1 < v2.heap.size := by omega
  have zo2 : w.heap.size + 1 + 1 < v2.heap.size := by omega
  have za2 : w.heap.size < v2.heap.size := by omega
  clear ho2 hb2 hq2 P1 Q1 XA1 XR1 HB1 hd2 za zr zo
  have co5 : v2.cell? ⟨w.heap.size + 1 + 1, 5, none⟩ = some (.slice none 0 0) := XO2.out.cell 5
  have fo5 : v2.frozen? ⟨w.heap.size + 1 + 1, 5, none⟩ = false := XO2.out.free 5
  have ca6 : v2.cell? ⟨w.heap.size, 6, none⟩ = some (.slice s.eA s.sess.length s.ec) := XA2.out.cell 6
  go_wp2_with fail
  refine (toSessS_any s.eA s.sess.length s.ec s.sess _ (HR.out _ ?hb).e rfl (HR.out _ ?hb').et n3 N3.out).mono ?_
  case hb => exact HB2.out.setCell (by simp <;> omega) _
  case hb' => exact HB2.out.setCell (by simp <;> omega) _
  rintro e v3 ⟨A3, c3, g3, rfl, ho3, hd3, hq3, hb3⟩
  clear co5 fo5 ca6
  have hl3 := map_len hd3
  have XR3 := Lib.hid (RowB.below (XR2.out.other (by omega)) hb3 (by simp only [World.size_setCell]; omega))
  have XO3 := Lib.hid (RowB.below (XO2.out.set) hb3 (by simp only [World.size_setCell]; omega))
  have P3 := Lib.hid (own_belowK (own_setK P2.out (w.heap.size + 1 + 1) 5 (.slice A2 s.wins.length c2) (by omega)) (Nat.le_refl _) hb3)
  have Q3 := Lib.hid ((Q2.out.set_ (w.heap.size + 1 + 1) 5 (.slice A2 s.wins.length c2) (by omega)).below (Nat.le_refl _) hb3)
  have R3 := Lib.hid (own_belowK (own_setK R2.out (w.heap.size + 1 + 1) 5 (.slice A2 s.wins.length c2) (by omega)) (Nat.le_refl _) hb3)
  have S3 := Lib.hid ((S2.out.set_ (w.heap.size + 1 + 1) 5 (.slice A2 s.wins.length c2) (by omega)).below (Nat.le_refl _) hb3)
  have T3 := Lib.hid (own_moreK (base' := w.heap.size + 3) ho3 (by simp only [World.size_setCell]; omega))
  have U3 := Lib.hid (hq3.more (base' := w.heap.size + 3) (by simp only [World.size_setCell]; omega))
  have zv3 : v2.heap.size ≤ v3.heap.size := by have := hb3.size; simp only [World.size_setCell] at this; exact this
  have HB3 := Lib.hid ((HB2.out.setCell (p := ⟨w.heap.size + 1 + 1, 5, none⟩) (by simp <;> omega) (.slice A2 s.wins.length c2)).trans (hb3.mono (by simp only [World.size_setCell]; omega)))
  have D3 := Lib.hid hd3
  have zr3 : w.heap.size + 1 < v3.heap.size := by omega
  have zo3 : w.heap.size + 1 + 1 < v3.heap.size := by omega
  clear ho3 hb3 hq3 P2 Q2 R2 S2 XA2 XR2 HB2 hd3 za2 zr2 zo2
  have co6 : v3.cell? ⟨w.heap.size + 1 + 1, 6, none⟩ = some (.slice none 0 0) := XO3.out.cell 6
  have fo6 : v3.frozen? ⟨w.heap.size + 1 + 1, 6, none⟩ = false := XO3.out.free 6
  have rz : RowZ v3 (w.heap.size + 1) 7 := RowZ.of XR3.out 7 rfl
  have hput : (rowOf v3 (w.heap.size + 1 + 1)).setIfInBounds 6 (.slice A3 s.sess.length c3) = stA ⟨s.w, s.h, s.lim, s.next, A1, c1, g1, A2, c2, g2, A3, c3, g3⟩ := by
    rw [XO3.out.row]; unfold stA stL; simp only [hl1, hl2, hl3]; rfl
  have HF := Lib.hid (show OwnSt v3 (w.heap.size + 3) ⟨s.w, s.h, s.lim, s.next, A1, c1, g1, A2, c2, g2, A3, c3, g3⟩ from
    ⟨hl1 ▸ P3.out, Q3.out, hl2 ▸ R3.out, S3.out, hl3 ▸ T3.out, U3.out⟩)
  go_wp2_with fail
  refine bodyPost_ret (v := .agg (stA ⟨s.w, s.h, s.lim, s.next, A1, c1, g1, A2, c2, g2, A3, c3, g3⟩)) (res_State rfl _ _ (w.heap.size + 1) _ rfl (RowB.setRow (XR3.out.other (by omega))) rfl) rfl ⟨_, rfl, ?_, ?_, ?_⟩
  · exact ((HF.out.set_ _ _ _ (by omega)).row_ _ _ (by omega)).more (by omega)
  · show StD.mk _ _ _ _ _ _ _ = _
    rw [D1.out, D2.out, D3.out]; rfl
  · exact below_setRow (HB3.out.setCell (by simp <;> omega) _) (by omega) _
set_option maxRecDepth 100000 in
set_option maxHeartbeats 1600000 in
theorem szState_any (s : StS) (left : Int) (w : World) (hr : RdSt w w.heap.size s) (hn : LenSt s) (h0 : 0 ≤ left) (h1 : left ≤ 1048576) :
    Calls Try.prog 45 #[.agg (stA s), .int .i64 left] w (Sc.Left left (szSt s) w.heap.size w) := by
  have HR := Lib.hid (fun W (h : Below w.heap.size w W) => (hr.below (Nat.le_refl _) h).more h.size)
  have HN := Lib.hid hn
  have HZ := Lib.hid (show szSt s = s.panes.length + sumN szP s.panes + (s.wins.length + sumN szW s.wins) + (s.sess.length + sumN szE s.sess) from rfl)
  clear hr hn
  go_enter Try.func45, Try.ntmps45
  go_wp2_with fail
  refine (szPaneS_any s.pA s.panes.length s.pc s.panes left _ (HR.out _ ?hb).p rfl (HR.out _ ?hb').pt HN.out.p HN.out.pt h0 h1).mono ?_
  case hb => repeat (first | exact Below.refl _ _ | refine Below.alloc ?_ (by simp <;> omega) _)
  case hb' => repeat (first | exact Below.refl _ _ | refine Below.alloc ?_ (by simp <;> omega) _)
  rintro e v1 ⟨r1, rfl, hr, hb⟩
  have xa := RowB.below (RowB.new w (stA s) 74) hb (by simp <;> omega)
  have XA1 := Lib.hid xa
  have za1 : w.heap.size < v1.heap.size := xa.lt
  have HB1 := Lib.hid (show Below w.heap.size w v1 from Below.trans ((Below.refl w.heap.size w).alloc (Nat.le_refl _) _) (hb.mono (by simp)))
  clear xa
  clear hb
  rcases hr with rfl | ⟨hr0_1, hr1⟩
  · go_wp2_with fail
    go_ret
    exact ⟨-1, rfl, .inl rfl, HB1.out⟩
  have HQ1 := Lib.hid hr1
  have hr2_1 : r1 ≤ 1048576 := by omega
  clear hr1
  have ca : v1.cell? ⟨w.heap.size, 5, none⟩ = some (.slice s.wA s.wins.length s.wc) := XA1.out.cell 5
  go_wp2_with fail
  refine (szWinS_any s.wA s.wins.length s.wc s.wins r1 _ (HR.out _ HB1.out).wr rfl (HR.out _ HB1.out).wt HN.out.w HN.out.wt hr0_1 hr2_1).mono ?_
  rintro e v2 ⟨r2, rfl, hr, hb⟩
  have XA2 := Lib.hid (RowB.below XA1.out hb XA1.out.lt)
  have za2 : w.heap.size < v2.heap.size := XA2.out.lt
  have HB2 := Lib.hid (HB1.out.trans (hb.mono HB1.out.size))
  clear hb
  rcases hr with rfl | ⟨hr0_2, hr1⟩
  · go_wp2_with fail
    go_ret
    exact ⟨-1, rfl, .inl rfl, HB2.out⟩
  have HQ2 := Lib.hid hr1
  have hr2_2 : r2 ≤ 1048576 := by omega
  clear hr1
  clear ca
  have ca : v2.cell? ⟨w.heap.size, 6, none⟩ = some (.slice s.eA s.sess.length s.ec) := XA2.out.cell 6
  go_wp2_with fail
  refine (szSessS_any s.eA s.sess.length s.ec s.sess r2 _ (HR.out _ HB2.out).e rfl (HR.out _ HB2.out).et HN.out.e HN.out.et hr0_2 hr2_2).mono ?_
  rintro e v3 ⟨r3, rfl, hr, hb⟩
  have HB3 := Lib.hid (HB2.out.trans (hb.mono HB2.out.size))
  clear hb
  rcases hr with rfl | ⟨hr0_3, hr1⟩
  · go_wp2_with fail
    go_ret
    exact ⟨-1, rfl, .inl rfl, HB3.out⟩
  have HQ3 := Lib.hid hr1
  have hr2_3 : r3 ≤ 1048576 := by omega
  clear hr1
  clear ca
  go_wp2_with fail
  go_ret
  exact ⟨r3, rfl, .inr ⟨hr0_3, by have := HQ1.out; have := HQ2.out; have := HQ3.out; rw [HZ.out]; omega⟩, HB3.out⟩
set_option maxRecDepth 100000 in
set_option maxHeartbeats 1600000 in
theorem eqState_yes (s s' : StS) (w : World) (hr : RdSt w w.heap.size s) (hr' : RdSt w w.heap.size s') (he : s'.data = s.data) (hn : szSt s ≤ 1048576) :
    Calls Try.prog 49 #[.agg (stA s), .agg (stA s')] w fun e w' => e = .returned (.bool true) ∧ Below w.heap.size w w' := by
  simp only [StS.data, StD.mk.injEq] at he
  obtain ⟨q1, q2, q3, q4, q5, q6, q7⟩ := he
  have HR := Lib.hid (fun W (h : Below w.heap.size w W) => (hr.below (Nat.le_refl _) h).more h.size)
  have HR' := Lib.hid (fun W (h : Below w.heap.size w W) => (hr'.below (Nat.le_refl _) h).more h.size)
  unfold szSt at hn
  have n1 : s.panes.length ≤ 1048576 := by omega
  have n2 : s.wins.length ≤ 1048576 := by omega
  have n3 : s.sess.length ≤ 1048576 := by omega
  have N1 := Lib.hid (show ∀ p ∈ s.panes, szT p.t ≤ 1048576 from fun p hp => by have h1 := sumN_mem szP hp; have h2 := szP_t p; omega)
  have N2 := Lib.hid (show ∀ p ∈ s.wins, p.tree.length ≤ 1048576 from fun p hp => by have h1 := sumN_mem szW hp; have h2 := szW_t p; omega)
  have N3 := Lib.hid (show ∀ p ∈ s.sess, p.wins.length ≤ 1048576 from fun p hp => by have h1 := sumN_mem szE hp; have h2 := szE_t p; omega)
  have e0 : (s.w != s'.w) = false := by rw [q1]; simp
  have e1 : (s.h != s'.h) = false := by rw [q2]; simp
  have e2 : (s.lim != s'.lim) = false := by rw [q3]; simp
  have e3 : (s.next != s'.next) = false := by rw [q4]; simp
  have L1 := Lib.hid (map_len q5)
  have L2 := Lib.hid (map_len q6)
  have L3 := Lib.hid (map_len q7)
  have Q5 := Lib.hid q5
  have Q6 := Lib.hid q6
  have Q7 := Lib.hid q7
  clear hr hr' hn q1 q2 q3 q4 q5 q6 q7
  have l1 : w.heap.size < w.heap.size + 1 := by omega
  have l2 : w.heap.size < w.heap.size + 1 + 1 := by omega
  have l3 : w.heap.size + 1 < w.heap.size + 1 + 1 := by omega
  go_enter Try.func49, Try.ntmps49
  go_wp2_with fail
  rw [L1.out]
  refine (eqPaneS_yes s.pA s'.pA s.panes.length s.pc s'.pc s.panes s'.panes _ (HR.out _ ?hb).p (HR'.out _ ?hb').p (HR.out _ ?hb).pt (HR'.out _ ?hb').pt Q5.out rfl n1 N1.out).mono ?_
  case hb => repeat (first | exact Below.refl _ _ | refine Below.alloc ?_ (by simp <;> omega) _)
  case hb' => repeat (first | exact Below.refl _ _ | refine Below.alloc ?_ (by simp <;> omega) _)
  rintro e v1 ⟨rfl, hb1⟩
  have ne_ab : w.heap.size ≠ w.heap.size + 1 := by omega
  have ne_ba : w.heap.size + 1 ≠ w.heap.size := by omega
  have xa := RowB.below ((RowB.new w (stA s) 81).alloc _) hb1 (by simp <;> omega)
  have xb := RowB.below (RowB.new (w.alloc _) (stA s') _) hb1 (by simp <;> omega)
  simp only [World.size_alloc] at xb
  have XA := Lib.hid xa
  have XB := Lib.hid xb
  clear xa xb
  have za : w.heap.size < v1.heap.size := XA.out.lt
  have zb : w.heap.size + 1 < v1.heap.size := XB.out.lt
  have HB1 := Lib.hid (show Below w.heap.size w v1 from Below.trans (((Below.refl w.heap.size w).alloc (Nat.le_refl _) _).alloc (by simp) _) (hb1.mono (by simp <;> omega)))
  clear hb1
  have ca5 : v1.cell? ⟨w.heap.size, 5, none⟩ = some (.slice s.wA s.wins.length s.wc) := XA.out.cell 5
  have cb5 : v1.cell? ⟨w.heap.size + 1, 5, none⟩ = some (.slice s'.wA s.wins.length s'.wc) := by rw [XB.out.cell 5, ← L2.out]; rfl
  go_wp2_with fail
  refine (eqWinS_yes s.wA s'.wA s.wins.length s.wc s'.wc s.wins s'.wins _ (HR.out _ HB1.out).wr (HR'.out _ HB1.out).wr (HR.out _ HB1.out).wt (HR'.out _ HB1.out).wt Q6.out rfl n2 N2.out).mono ?_
  rintro e v2 ⟨rfl, hb2⟩
  clear ca5 cb5
  have HB2 := Lib.hid (HB1.out.trans (hb2.mono HB1.out.size))
  have XA2 := Lib.hid (RowB.below XA.out hb2 XA.out.lt)
  have XB2 := Lib.hid (RowB.below XB.out hb2 XB.out.lt)
  have za2 : w.heap.size < v2.heap.size := XA2.out.lt
  have zb2 : w.heap.size + 1 < v2.heap.size := XB2.out.lt
  clear hb2
  have ca6 : v2.cell? ⟨w.heap.size, 6, none⟩ = some (.slice s.eA s.sess.length s.ec) := XA2.out.cell 6
  have cb6 : v2.cell? ⟨w.heap.size + 1, 6, none⟩ = some (.slice s'.eA s.sess.length s'.ec) := by rw [XB2.out.cell 6, ← L3.out]; rfl
  go_wp2_with fail
  refine (eqSessS_yes s.eA s'.eA s.sess.length s.ec s'.ec s.sess s'.sess _ (HR.out _ HB2.out).e (HR'.out _ HB2.out).e (HR.out _ HB2.out).et (HR'.out _ HB2.out).et Q7.out rfl n3 N3.out).mono ?_
  rintro e v3 ⟨rfl, hb3⟩
  have HB3 := Lib.hid (HB2.out.trans (hb3.mono HB2.out.size))
  clear hb3
  go_wp2_with fail
  go_ret
  exact ⟨rfl, HB3.out⟩
theorem eqSt {s s' : StS} {w : World} {b1 b2 : Nat} (h1 : OwnSt w b1 s) (h2 : OwnSt w b2 s') (he : s'.data = s.data) (hn : szSt s ≤ 1048576) :
    Calls Try.prog 49 #[.agg (stA s), .agg (stA s')] w fun e w' => e = .returned (.bool true) ∧ Below w.heap.size w w' := eqState_yes s s' w h1.rd h2.rd he hn
end Go.Proofs.Ytkinkdgnephcbaa.St
