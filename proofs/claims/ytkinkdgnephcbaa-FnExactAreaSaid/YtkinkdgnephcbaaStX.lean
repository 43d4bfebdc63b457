/- The laws' helpers over windows and sessions: the copy, the size, the comparison where both hold the same. -/
import Derived.Test.YtkinkdgnephcbaaStV
import Derived.Deep.RegionWith
import Derived.Deep.DrawnRows
namespace Go.Proofs.Ytkinkdgnephcbaa.St
open Go.RowKit Go.Proofs.Ytkinkdgnephcbaa.Bytes Go.Proofs.Ytkinkdgnephcbaa.Rows_ Go.Proofs.Ytkinkdgnephcbaa.RowK Go.Proofs.Ytkinkdgnephcbaa.Gr Go.Proofs.Ytkinkdgnephcbaa.DOk Go.Proofs.Ytkinkdgnephcbaa.Opq Go.Proofs.Ytkinkdgnephcbaa.Sc
set_option linter.unusedVariables false
attribute [local go_sem ↓] Go.wp_at_zero Go.wp_at_succ lm_lawsVp lm_implVp lm_lawsScr lm_implScr lm_lawsTerm lm_implTerm lm_lawsPane lm_implPane lm_lawsWin lm_implWin lm_lawsSess lm_implSess lr_implVp lr_implTerm lr_implPane lr_implWin lr_implSess lr_lawsState lr_implState sm_Vp sm_Scr sm_Term sm_Pane sm_Win sm_Sess sr_Vp sr_Term sr_Pane sr_Win sr_Sess sr_State
attribute [local go_sem] RowZ.set rowOf_set rowOf_setRow_other rowOf_setRow_same rowOf_setCell_other blkOf_ptr isHead_ptr aggN_agg isPtr_ptr offOf_ptr setRow_alloc rowZ_at rowZ_past rowZ_setRow_other rowOf_alloc_at rowOf_alloc_past rowOf_drew seg_alloc_past seg_alloc_at seg_setCell_other seg_setRow_other seg_drew cut_term_scr cut_term_vp cut_pane_term vpA_size termA_size paneA_size winA_size sessA_size stA_size scrA_size one_vp one_scr one_term one_pane one_win one_sess one_st vp_at0 vp_at1 vp_at2 vp_at3 term_at0 term_at1 term_at2 term_at3 pane_at0 pane_at1 pane_at2 pane_at3 pane_at4 pane_at5 win_at0 win_at1 win_at2 win_at3 win_at4 sess_at0 sess_at1 sess_at2 st_at0 st_at1 st_at2 st_at3 st_at4 st_at5 st_at6
set_option maxRecDepth 100000 in
set_option maxHeartbeats 1600000 in
theorem toWin_any (x : WinS) (w : World) (hr : Tr.RdN w w.heap.size x.tA x.tree) (hn : x.tree.length ≤ 1048576) :
    Calls Try.prog 154 #[.agg (winA x)] w fun e w' => ∃ x', e = .returned (.agg (winA x')) ∧ Tr.OwnN w' w.heap.size x'.tA x'.tree.length x'.tc x'.tree ∧ x'.data = x.data ∧ Below w.heap.size w w' := by
  have HR := Lib.hid (fun W (h : Below w.heap.size w W) => (hr.below (Nat.le_refl _) h).more h.size)
  clear hr
  have l1 : w.heap.size < w.heap.size + 1 := by omega
  have l2 : w.heap.size < w.heap.size + 1 + 1 := by omega
  have l3 : w.heap.size + 1 < w.heap.size + 1 + 1 := by omega
  go_enter Try.func154, Try.ntmps154
  go_wp2_with fail
  refine (Tr.toNodeS_any x.tA x.tree.length x.tc x.tree _ (HR.out _ ?hb) rfl (by omega)).mono ?_
  case hb => repeat (first | exact Below.refl _ _ | refine Below.alloc ?_ (by simp <;> omega) _)
  rintro e v1 ⟨A1, c1, rfl, ho1, hb1⟩
  have ne_ao : w.heap.size ≠ w.heap.size + 1 + 1 := by omega
  have ne_ro : w.heap.size + 1 ≠ w.heap.size + 1 + 1 := by omega
  have ne_ra : w.heap.size + 1 ≠ w.heap.size := by omega
  have ne_ar : w.heap.size ≠ w.heap.size + 1 := by omega
  have ne_or : w.heap.size + 1 + 1 ≠ w.heap.size + 1 := by omega
  have xa := RowB.below (((RowB.new w (winA x) 199).alloc _).alloc _) hb1 (by simp <;> omega)
  have xr := RowB.below ((RowB.new (w.alloc _) _ _).alloc _) hb1 (by simp <;> omega)
  have xo := RowB.below (RowB.new ((w.alloc _).alloc _) _ _) hb1 (by simp <;> omega)
  simp only [World.size_alloc] at xr xo
  have XA1 := Lib.hid xa
  have XR1 := Lib.hid xr
  have XO1 := Lib.hid xo
  clear xa xr xo
  have za : w.heap.size < v1.heap.size := XA1.out.lt
  have zr : w.heap.size + 1 < v1.heap.size := XR1.out.lt
  have zo : w.heap.size + 1 + 1 < v1.heap.size := XO1.out.lt
  have HB1 := Lib.hid (show Below w.heap.size w v1 from Below.trans (((((Below.refl w.heap.size w).alloc (Nat.le_refl _) _).alloc (by simp) _).alloc (by simp <;> omega) _)) (hb1.mono (by simp <;> omega)))
  have HO1 := Lib.hid (show Tr.OwnN v1 (w.heap.size + 3) A1 x.tree.length c1 x.tree from Tr.OwnN.more ho1 (by simp <;> omega))
  clear ho1 hb1
  have co2 : v1.cell? ⟨w.heap.size + 1 + 1, 2, none⟩ = some (.slice none 0 0) := XO1.out.cell 2
  have co3 : v1.cell? ⟨w.heap.size + 1 + 1, 3, none⟩ = some (.int .i64 0) := XO1.out.cell 3
  have co4 : v1.cell? ⟨w.heap.size + 1 + 1, 4, none⟩ = some (.bool false) := XO1.out.cell 4
  have fo2 : v1.frozen? ⟨w.heap.size + 1 + 1, 2, none⟩ = false := XO1.out.free 2
  have fo3 : v1.frozen? ⟨w.heap.size + 1 + 1, 3, none⟩ = false := XO1.out.free 3
  have fo4 : v1.frozen? ⟨w.heap.size + 1 + 1, 4, none⟩ = false := XO1.out.free 4
  have ca3 : v1.cell? ⟨w.heap.size, 3, none⟩ = some (.int .i64 x.active) := XA1.out.cell 3
  have ca4 : v1.cell? ⟨w.heap.size, 4, none⟩ = some (.bool x.zoom) := XA1.out.cell 4
  have rz : RowZ v1 (w.heap.size + 1) 5 := RowZ.of XR1.out 5 rfl
  have hput : (((rowOf v1 (w.heap.size + 1 + 1)).setIfInBounds 2 (.slice A1 x.tree.length c1)).setIfInBounds 3 (.int .i64 x.active)).setIfInBounds 4 (.bool x.zoom) = winA ⟨x.id, x.name, A1, c1, x.tree, x.active, x.zoom⟩ := by rw [XO1.out.row]; rfl
  go_wp2_with fail
  refine bodyPost_ret (v := .agg (winA ⟨x.id, x.name, A1, c1, x.tree, x.active, x.zoom⟩)) (res_Win rfl _ _ (w.heap.size + 1) _ rfl (RowB.setRow (((XR1.out.other (by omega)).other (by omega)).other (by omega))) rfl) rfl ⟨_, rfl, ?_, rfl, ?_⟩
  · exact own_moreK (own_setRow (own_setK (own_setK (own_setK HO1.out _ _ _ (by omega)) _ _ _ (by omega)) _ _ _ (by omega)) _ _ (by omega)) (by omega)
  · exact below_setRow (((HB1.out.setCell (by simp <;> omega) _).setCell (by simp <;> omega) _).setCell (by simp <;> omega) _) (by omega) _
set_option maxRecDepth 100000 in
set_option maxHeartbeats 1600000 in
theorem szWin_any (x : WinS) (left : Int) (w : World) (hn : LenW x) (h0 : 0 ≤ left) (h1 : left ≤ 1048576) :
    Calls Try.prog 151 #[.agg (winA x), .int .i64 left] w (Sc.Left left (szW x) w.heap.size w) := by
  have n1 := hn.n
  have n2 := hn.t
  have HZ := Lib.hid (show szW x = x.name.size + x.tree.length from rfl)
  clear hn
  have hb0 := Lib.hid ((Below.refl w.heap.size w).alloc (Nat.le_refl _) (.cells (winA x) 199))
  by_cases ha : left - (x.name.size : Int) < 0
  · go_enter Try.func151, Try.ntmps151
    go_wp2_with fail
    go_ret
    exact ⟨-1, rfl, .inl rfl, hb0.out⟩
  have h2 : 0 ≤ left - (x.name.size : Int) := by omega
  have HS := Lib.hid (fun W => Tr.szNodeS_any x.tA x.tree.length x.tc (left - (x.name.size : Int)) W n2 h2 (by omega))
  by_cases hc : left - (x.name.size : Int) < (x.tree.length : Int)
  · rw [if_pos hc] at HS
    go_enter Try.func151, Try.ntmps151
    go_wp2_with fail
    refine (HS.out _).mono ?_
    rintro e w' ⟨rfl, rfl⟩
    go_wp2_with fail
    go_ret
    exact ⟨-1, rfl, .inl rfl, hb0.out⟩
  · rw [if_neg hc] at HS
    have h3 : 0 ≤ left - (x.name.size : Int) - (x.tree.length : Int) := by omega
    go_enter Try.func151, Try.ntmps151
    go_wp2_with fail
    refine (HS.out _).mono ?_
    rintro e w' ⟨rfl, rfl⟩
    go_wp2_with fail
    go_ret
    exact ⟨_, rfl, .inr ⟨h3, by rw [HZ.out]; omega⟩, hb0.out⟩
set_option maxRecDepth 100000 in
set_option maxHeartbeats 1600000 in
theorem eqWin_yes (x y : WinS) (w : World) (hr : Tr.RdN w w.heap.size x.tA x.tree) (hr' : Tr.RdN w w.heap.size y.tA y.tree) (he : y.data = x.data) (hn : x.tree.length ≤ 1048576) :
    Calls Try.prog 157 #[.agg (winA x), .agg (winA y)] w fun e w' => e = .returned (.bool true) ∧ Below w.heap.size w w' := by
  obtain ⟨i0, i1, tA, tc, i2, i3, i4⟩ := x
  obtain ⟨j0, j1, tB, td, j2, j3, j4⟩ := y
  simp only [WinS.data, WinD.mk.injEq] at he
  obtain ⟨rfl, rfl, rfl, rfl, rfl⟩ := he
  simp only [] at hr hr' hn
  have HR := Lib.hid (fun W (h : Below w.heap.size w W) => (hr.below (Nat.le_refl _) h).more h.size)
  have HR' := Lib.hid (fun W (h : Below w.heap.size w W) => (hr'.below (Nat.le_refl _) h).more h.size)
  have e0 : (j0 != j0) = false := by simp
  have e1 : (!(j1.toList == j1.toList)) = false := by simp
  have e3 : (j3 != j3) = false := by simp
  have e4 : (j4 != j4) = false := by simp
  clear hr hr'
  have l1 : w.heap.size < w.heap.size + 1 := by omega
  have l2 : w.heap.size < w.heap.size + 1 + 1 := by omega
  have l3 : w.heap.size + 1 < w.heap.size + 1 + 1 := by omega
  go_enter Try.func157, Try.ntmps157
  go_wp2_with fail
  refine (Tr.eqNodeS_yes tA tB j2.length tc td j2 _ (HR.out _ ?hb) (HR'.out _ ?hb') rfl (by omega)).mono ?_
  case hb => repeat (first | exact Below.refl _ _ | refine Below.alloc ?_ (by simp <;> omega) _)
  case hb' => repeat (first | exact Below.refl _ _ | refine Below.alloc ?_ (by simp <;> omega) _)
  rintro e v1 ⟨rfl, hb1⟩
  have ne_ab : w.heap.size ≠ w.heap.size + 1 := by omega
  have ne_ba : w.heap.size + 1 ≠ w.heap.size := by omega
  have xa := RowB.below ((RowB.new w (winA ⟨j0, j1, tA, tc, j2, j3, j4⟩) 142).alloc _) hb1 (by simp <;> omega)
  have xb := RowB.below (RowB.new (w.alloc _) (winA ⟨j0, j1, tB, td, j2, j3, j4⟩) _) hb1 (by simp <;> omega)
  simp only [World.size_alloc] at xb
  have XA := Lib.hid xa
  have XB := Lib.hid xb
  clear xa xb
  have za : w.heap.size < v1.heap.size := XA.out.lt
  have zb : w.heap.size + 1 < v1.heap.size := XB.out.lt
  have HB1 := Lib.hid (show Below w.heap.size w v1 from Below.trans (((Below.refl w.heap.size w).alloc (Nat.le_refl _) _).alloc (by simp) _) (hb1.mono (by simp <;> omega)))
  clear hb1
  have ca3 : v1.cell? ⟨w.heap.size, 3, none⟩ = some (.int .i64 j3) := XA.out.cell 3
  have cb3 : v1.cell? ⟨w.heap.size + 1, 3, none⟩ = some (.int .i64 j3) := XB.out.cell 3
  have ca4 : v1.cell? ⟨w.heap.size, 4, none⟩ = some (.bool j4) := XA.out.cell 4
  have cb4 : v1.cell? ⟨w.heap.size + 1, 4, none⟩ = some (.bool j4) := XB.out.cell 4
  go_wp2_with fail
  go_ret
  exact ⟨rfl, HB1.out⟩
set_option maxRecDepth 100000 in
set_option maxHeartbeats 1600000 in
theorem toSess_any (x : SessS) (w : World) (hr : RdI w w.heap.size x.wA x.wins) (hn : x.wins.length ≤ 1048576) :
    Calls Try.prog 155 #[.agg (sessA x)] w fun e w' => ∃ x', e = .returned (.agg (sessA x')) ∧ OwnI w' w.heap.size x'.wA x'.wins.length x'.wc x'.wins ∧ x'.data = x.data ∧ Below w.heap.size w w' := by
  have HR := Lib.hid (fun W (h : Below w.heap.size w W) => (hr.below (Nat.le_refl _) h).more h.size)
  clear hr
  have l1 : w.heap.size < w.heap.size + 1 := by omega
  have l2 : w.heap.size < w.heap.size + 1 + 1 := by omega
  have l3 : w.heap.size + 1 < w.heap.size + 1 + 1 := by omega
  go_enter Try.func155, Try.ntmps155
  go_wp2_with fail
  refine (toIntS_any x.wA x.wins.length x.wc x.wins _ (HR.out _ ?hb) rfl (by omega)).mono ?_
  case hb => repeat (first | exact Below.refl _ _ | refine Below.alloc ?_ (by simp <;> omega) _)
  rintro e v1 ⟨A1, c1, rfl, ho1, hb1⟩
  have ne_ao : w.heap.size ≠ w.heap.size + 1 + 1 := by omega
  have ne_ro : w.heap.size + 1 ≠ w.heap.size + 1 + 1 := by omega
  have ne_ra : w.heap.size + 1 ≠ w.heap.size := by omega
  have ne_ar : w.heap.size ≠ w.heap.size + 1 := by omega
  have ne_or : w.heap.size + 1 + 1 ≠ w.heap.size + 1 := by omega
  have xa := RowB.below (((RowB.new w (sessA x) 201).alloc _).alloc _) hb1 (by simp <;> omega)
  have xr := RowB.below ((RowB.new (w.alloc _) _ _).alloc _) hb1 (by simp <;> omega)
  have xo := RowB.below (RowB.new ((w.alloc _).alloc _) _ _) hb1 (by simp <;> omega)
  simp only [World.size_alloc] at xr xo
  have XA1 := Lib.hid xa
  have XR1 := Lib.hid xr
  have XO1 := Lib.hid xo
  clear xa xr xo
  have za : w.heap.size < v1.heap.size := XA1.out.lt
  have zr : w.heap.size + 1 < v1.heap.size := XR1.out.lt
  have zo : w.heap.size + 1 + 1 < v1.heap.size := XO1.out.lt
  have HB1 := Lib.hid (show Below w.heap.size w v1 from Below.trans (((((Below.refl w.heap.size w).alloc (Nat.le_refl _) _).alloc (by simp) _).alloc (by simp <;> omega) _)) (hb1.mono (by simp <;> omega)))
  have HO1 := Lib.hid (show OwnI v1 (w.heap.size + 3) A1 x.wins.length c1 x.wins from OwnI.more ho1 (by simp <;> omega))
  clear ho1 hb1
  have co1 : v1.cell? ⟨w.heap.size + 1 + 1, 1, none⟩ = some (.slice none 0 0) := XO1.out.cell 1
  have co2 : v1.cell? ⟨w.heap.size + 1 + 1, 2, none⟩ = some (.int .i64 0) := XO1.out.cell 2
  have fo1 : v1.frozen? ⟨w.heap.size + 1 + 1, 1, none⟩ = false := XO1.out.free 1
  have fo2 : v1.frozen? ⟨w.heap.size + 1 + 1, 2, none⟩ = false := XO1.out.free 2
  have ca2 : v1.cell? ⟨w.heap.size, 2, none⟩ = some (.int .i64 x.active) := XA1.out.cell 2
  have rz : RowZ v1 (w.heap.size + 1) 3 := RowZ.of XR1.out 3 rfl
  have hput : ((rowOf v1 (w.heap.size + 1 + 1)).setIfInBounds 1 (.slice A1 x.wins.length c1)).setIfInBounds 2 (.int .i64 x.active) = sessA ⟨x.name, A1, c1, x.wins, x.active⟩ := by rw [XO1.out.row]; rfl
  go_wp2_with fail
  refine bodyPost_ret (v := .agg (sessA ⟨x.name, A1, c1, x.wins, x.active⟩)) (res_Sess rfl _ _ (w.heap.size + 1) _ rfl (RowB.setRow ((XR1.out.other (by omega)).other (by omega))) rfl) rfl ⟨_, rfl, ?_, rfl, ?_⟩
  · exact own_moreK (own_setRow (own_setK (own_setK HO1.out _ _ _ (by omega)) _ _ _ (by omega)) _ _ (by omega)) (by omega)
  · exact below_setRow ((HB1.out.setCell (by simp <;> omega) _).setCell (by simp <;> omega) _) (by omega) _
set_option maxRecDepth 100000 in
set_option maxHeartbeats 1600000 in
theorem szSess_any (x : SessS) (left : Int) (w : World) (hn : LenE x) (h0 : 0 ≤ left) (h1 : left ≤ 1048576) :
    Calls Try.prog 152 #[.agg (sessA x), .int .i64 left] w (Sc.Left left (szE x) w.heap.size w) := by
  have n1 := hn.n
  have n2 := hn.w
  have HZ := Lib.hid (show szE x = x.name.size + x.wins.length from rfl)
  clear hn
  have hb0 := Lib.hid ((Below.refl w.heap.size w).alloc (Nat.le_refl _) (.cells (sessA x) 201))
  by_cases ha : left - (x.name.size : Int) < 0
  · go_enter Try.func152, Try.ntmps152
    go_wp2_with fail
    go_ret
    exact ⟨-1, rfl, .inl rfl, hb0.out⟩
  have h2 : 0 ≤ left - (x.name.size : Int) := by omega
  have HS := Lib.hid (fun W => szIntS_any x.wA x.wins.length x.wc (left - (x.name.size : Int)) W n2 h2 (by omega))
  by_cases hc : left - (x.name.size : Int) < (x.wins.length : Int)
  · rw [if_pos hc] at HS
    go_enter Try.func152, Try.ntmps152
    go_wp2_with fail
    refine (HS.out _).mono ?_
    rintro e w' ⟨rfl, rfl⟩
    go_wp2_with fail
    go_ret
    exact ⟨-1, rfl, .inl rfl, hb0.out⟩
  · rw [if_neg hc] at HS
    have h3 : 0 ≤ left - (x.name.size : Int) - (x.wins.length : Int) := by omega
    go_enter Try.func152, Try.ntmps152
    go_wp2_with fail
    refine (HS.out _).mono ?_
    rintro e w' ⟨rfl, rfl⟩
    go_wp2_with fail
    go_ret
    exact ⟨_, rfl, .inr ⟨h3, by rw [HZ.out]; omega⟩, hb0.out⟩
set_option maxRecDepth 100000 in
set_option maxHeartbeats 1600000 in
theorem eqSess_yes (x y : SessS) (w : World) (hr : RdI w w.heap.size x.wA x.wins) (hr' : RdI w w.heap.size y.wA y.wins) (he : y.data = x.data) (hn : x.wins.length ≤ 1048576) :
    Calls Try.prog 158 #[.agg (sessA x), .agg (sessA y)] w fun e w' => e = .returned (.bool true) ∧ Below w.heap.size w w' := by
  obtain ⟨i0, wA, wc, i1, i2⟩ := x
  obtain ⟨j0, wB, wd, j1, j2⟩ := y
  simp only [SessS.data, SessD.mk.injEq] at he
  obtain ⟨rfl, rfl, rfl⟩ := he
  simp only [] at hr hr' hn
  have HR := Lib.hid (fun W (h : Below w.heap.size w W) => (hr.below (Nat.le_refl _) h).more h.size)
  have HR' := Lib.hid (fun W (h : Below w.heap.size w W) => (hr'.below (Nat.le_refl _) h).more h.size)
  have e0 : (!(j0.toList == j0.toList)) = false := by simp
  have e2 : (j2 != j2) = false := by simp
  clear hr hr'
  have l1 : w.heap.size < w.heap.size + 1 := by omega
  have l2 : w.heap.size < w.heap.size + 1 + 1 := by omega
  have l3 : w.heap.size + 1 < w.heap.size + 1 + 1 := by omega
  go_enter Try.func158, Try.ntmps158
  go_wp2_with fail
  refine (eqIntS_yes wA wB j1.length wc wd j1 _ (HR.out _ ?hb) (HR'.out _ ?hb') rfl (by omega)).mono ?_
  case hb => repeat (first | exact Below.refl _ _ | refine Below.alloc ?_ (by simp <;> omega) _)
  case hb' => repeat (first | exact Below.refl _ _ | refine Below.alloc ?_ (by simp <;> omega) _)
  rintro e v1 ⟨rfl, hb1⟩
  have ne_ab : w.heap.size ≠ w.heap.size + 1 := by omega
  have ne_ba : w.heap.size + 1 ≠ w.heap.size := by omega
  have xa := RowB.below ((RowB.new w (sessA ⟨j0, wA, wc, j1, j2⟩) 146).alloc _) hb1 (by simp <;> omega)
  have xb := RowB.below (RowB.new (w.alloc _) (sessA ⟨j0, wB, wd, j1, j2⟩) _) hb1 (by simp <;> omega)
  simp only [World.size_alloc] at xb
  have XA := Lib.hid xa
  have XB := Lib.hid xb
  clear xa xb
  have za : w.heap.size < v1.heap.size := XA.out.lt
  have zb : w.heap.size + 1 < v1.heap.size := XB.out.lt
  have HB1 := Lib.hid (show Below w.heap.size w v1 from Below.trans (((Below.refl w.heap.size w).alloc (Nat.le_refl _) _).alloc (by simp) _) (hb1.mono (by simp <;> omega)))
  clear hb1
  have ca2 : v1.cell? ⟨w.heap.size, 2, none⟩ = some (.int .i64 j2) := XA.out.cell 2
  have cb2 : v1.cell? ⟨w.heap.size + 1, 2, none⟩ = some (.int .i64 j2) := XB.out.cell 2
  go_wp2_with fail
  go_ret
  exact ⟨rfl, HB1.out⟩
end Go.Proofs.Ytkinkdgnephcbaa.St
