/- Words and lemmas, merged (once: ScEscM, ScEscS) -/
import Derived.Test.YtfdbmhelcmifoaaGreatScCopy
import Derived.Test.YtfdbmhelcmifoaaGreatKiO
import Derived.Test.YtfdbmhelcmifoaaGreatKiD
import Derived.Test.YtfdbmhelcmifoaaGreatGrSlide
import Derived.Test.YtfdbmhelcmifoaaGreatScEscD
import Derived.IntWalk
import Derived.Test.YtfdbmhelcmifoaaGreatKiM
import Derived.Test.YtfdbmhelcmifoaaGreatScGoS
import Derived.Test.YtfdbmhelcmifoaaGreatScUD
import Derived.Test.YtfdbmhelcmifoaaGreatHasI
import Derived.Test.YtfdbmhelcmifoaaGreatAppOne
import Derived.Deep.RegionHeld3
namespace Go.Proofs.YtfdbmhelcmifoaaGreat.Sc
open Go.RowKit Go.Proofs.YtfdbmhelcmifoaaGreat.Bytes Go.Proofs.YtfdbmhelcmifoaaGreat.Rows_ Go.Proofs.YtfdbmhelcmifoaaGreat.RowK Go.Proofs.YtfdbmhelcmifoaaGreat.Gr Go.Proofs.YtfdbmhelcmifoaaGreat.DOk Go.Proofs.YtfdbmhelcmifoaaGreat.Opq Go.Proofs.YtfdbmhelcmifoaaGreat.Attr
set_option linter.unusedVariables false
attribute [local go_sem ↓] Sc.exec_storeS Sc.exec_loadS
attribute [local go_sem] blkOf_ptr isHead_ptr aggN_agg setRow_alloc rowZ_at rowZ_past scrA_size one_scr rowOf_alloc_at rowOf_alloc_past
attribute [local go_sem] sa_w sa_h sa_mw sa_mh sa_M sa_aw sa_ah sa_A sa_onAlt sa_x sa_y sa_wrap sa_fg sa_bg sa_b sa_u sa_t sa_top sa_bot sa_noWrap sa_hide sa_sx sa_sy sa_sfg sa_sbg sa_sb sa_su sa_st sa_tabs sa_lim sa_rows
attribute [local go_sem] scr_at0 scr_at1 scr_at2 scr_at3 scr_at4 scr_at5 scr_at6 scr_at7 scr_at8 scr_at9 scr_at10 scr_at11 scr_at12 scr_at13 scr_at14 scr_at15 scr_at16 scr_at17 scr_at18 scr_at19 scr_at20 scr_at21 scr_at22 scr_at23 scr_at24 scr_at25 scr_at26 scr_at27 scr_at28 scr_at29 scr_at30
def savM (t : ScrS) : ScrS := { t with sx := t.x, sy := t.y, sfg := t.fg, sbg := t.bg, sb := t.b, su := t.u, st := t.t }
def bacM (t : ScrS) : ScrS := { t with x := t.sx, y := t.sy, fg := t.sfg, bg := t.sbg, b := t.sb, u := t.su, t := t.st, wrap := false }
theorem savM_data (t : ScrS) : (savM t).data = saveD t.data := rfl
theorem bacM_data (t : ScrS) : (bacM t).data = backD t.data := rfl
set_option maxRecDepth 100000 in
set_option maxHeartbeats 3200000 in
theorem l10Save_any (s : ScrS) (w : World) : Calls Tryz.prog 59 #[.agg (scrA s)] w fun e w' => e = .returned (.agg (scrA (savM s))) ∧ Below w.heap.size w w' := by
  have H0 := Lib.hid (((Below.refl w.heap.size w).alloc (Nat.le_refl _) (.cells (scrA s) 31)).alloc (by simp) (.cells (scrA zeroS) 31))
  have B0 := Lib.hid (show RowS ((w.alloc (.cells (scrA s) 31)).alloc (.cells (scrA zeroS) 31)) w.heap.size s from (RowS.new w s).alloc _)
  have Z0 := Lib.hid (show RowS ((w.alloc (.cells (scrA s) 31)).alloc (.cells (scrA zeroS) 31)) (w.heap.size + 1) zeroS from by have h := RowS.new (w.alloc (.cells (scrA s) 31)) zeroS; simpa using h)
  have hone0 : One #[.int .i64 0, .int .i64 0, .int .i64 0, .int .i64 0, .slice none 0 0, .int .i64 0, .int .i64 0, .slice none 0 0, .bool false, .int .i64 0, .int .i64 0, .bool false, .int .i64 0, .int .i64 0, .bool false, .bool false, .bool false, .int .i64 0, .int .i64 0, .bool false, .bool false, .int .i64 0, .int .i64 0, .int .i64 0, .int .i64 0, .bool false, .bool false, .bool false, .slice none 0 0, .int .i64 0, .slice none 0 0] := one_scr zeroS
  go_enter Tryz.func59, Tryz.ntmps59
  go_upto_region 1 with fail
  obtain ⟨V, hV⟩ : ∃ V, V = (w.alloc (.cells (scrA s) 31)).alloc (.cells (scrA zeroS) 31) := ⟨_, rfl⟩
  have HV : (w.alloc (.cells (scrA s) 31)).alloc (.cells #[.int .i64 0, .int .i64 0, .int .i64 0, .int .i64 0, .slice none 0 0, .int .i64 0, .int .i64 0, .slice none 0 0, .bool false, .int .i64 0, .int .i64 0, .bool false, .int .i64 0, .int .i64 0, .bool false, .bool false, .bool false, .int .i64 0, .int .i64 0, .bool false, .bool false, .int .i64 0, .int .i64 0, .int .i64 0, .int .i64 0, .bool false, .bool false, .bool false, .slice none 0 0, .int .i64 0, .slice none 0 0] 31) = V := hV.symm
  rw [HV]
  rw [← hV] at H0 B0 Z0
  clear HV hV
  have hf := B0.out.free
  have k9 : V.cell? ⟨w.heap.size, 9, none⟩ = some (.int .i64 s.x) := B0.out.cell 9
  have k10 : V.cell? ⟨w.heap.size, 10, none⟩ = some (.int .i64 s.y) := B0.out.cell 10
  have k12 : V.cell? ⟨w.heap.size, 12, none⟩ = some (.int .i64 s.fg) := B0.out.cell 12
  have k13 : V.cell? ⟨w.heap.size, 13, none⟩ = some (.int .i64 s.bg) := B0.out.cell 13
  have k14 : V.cell? ⟨w.heap.size, 14, none⟩ = some (.bool s.b) := B0.out.cell 14
  have k15 : V.cell? ⟨w.heap.size, 15, none⟩ = some (.bool s.u) := B0.out.cell 15
  have k16 : V.cell? ⟨w.heap.size, 16, none⟩ = some (.bool s.t) := B0.out.cell 16
  have k21 : V.cell? ⟨w.heap.size, 21, none⟩ = some (.int .i64 s.sx) := B0.out.cell 21
  have k22 : V.cell? ⟨w.heap.size, 22, none⟩ = some (.int .i64 s.sy) := B0.out.cell 22
  have k23 : V.cell? ⟨w.heap.size, 23, none⟩ = some (.int .i64 s.sfg) := B0.out.cell 23
  have k24 : V.cell? ⟨w.heap.size, 24, none⟩ = some (.int .i64 s.sbg) := B0.out.cell 24
  have k25 : V.cell? ⟨w.heap.size, 25, none⟩ = some (.bool s.sb) := B0.out.cell 25
  have k26 : V.cell? ⟨w.heap.size, 26, none⟩ = some (.bool s.su) := B0.out.cell 26
  have k27 : V.cell? ⟨w.heap.size, 27, none⟩ = some (.bool s.st) := B0.out.cell 27
  have HR := Lib.hid (show RowS (((((((V.setCell ⟨w.heap.size, 21, none⟩ (.int .i64 s.x)).setCell ⟨w.heap.size, 22, none⟩ (.int .i64 s.y)).setCell ⟨w.heap.size, 23, none⟩ (.int .i64 s.fg)).setCell ⟨w.heap.size, 24, none⟩ (.int .i64 s.bg)).setCell ⟨w.heap.size, 25, none⟩ (.bool s.b)).setCell ⟨w.heap.size, 26, none⟩ (.bool s.u)).setCell ⟨w.heap.size, 27, none⟩ (.bool s.t)) w.heap.size (savM s) from (RowS.s_st (z := s.t) (RowS.s_su (z := s.u) (RowS.s_sb (z := s.b) (RowS.s_sbg (z := s.bg) (RowS.s_sfg (z := s.fg) (RowS.s_sy (z := s.y) (RowS.s_sx (z := s.x) B0.out))))))))
  have HB := Lib.hid (show Below w.heap.size w (((((((V.setCell ⟨w.heap.size, 21, none⟩ (.int .i64 s.x)).setCell ⟨w.heap.size, 22, none⟩ (.int .i64 s.y)).setCell ⟨w.heap.size, 23, none⟩ (.int .i64 s.fg)).setCell ⟨w.heap.size, 24, none⟩ (.int .i64 s.bg)).setCell ⟨w.heap.size, 25, none⟩ (.bool s.b)).setCell ⟨w.heap.size, 26, none⟩ (.bool s.u)).setCell ⟨w.heap.size, 27, none⟩ (.bool s.t)) from (((((((H0.out.setCell (Nat.le_refl _) _).setCell (Nat.le_refl _) _).setCell (Nat.le_refl _) _).setCell (Nat.le_refl _) _).setCell (Nat.le_refl _) _).setCell (Nat.le_refl _) _).setCell (Nat.le_refl _) _))
  have HZ := Lib.hid (show RowS (((((((V.setCell ⟨w.heap.size, 21, none⟩ (.int .i64 s.x)).setCell ⟨w.heap.size, 22, none⟩ (.int .i64 s.y)).setCell ⟨w.heap.size, 23, none⟩ (.int .i64 s.fg)).setCell ⟨w.heap.size, 24, none⟩ (.int .i64 s.bg)).setCell ⟨w.heap.size, 25, none⟩ (.bool s.b)).setCell ⟨w.heap.size, 26, none⟩ (.bool s.u)).setCell ⟨w.heap.size, 27, none⟩ (.bool s.t)) (w.heap.size + 1) zeroS from (RowS.other (RowS.other (RowS.other (RowS.other (RowS.other (RowS.other (RowS.other Z0.out (by omega)) (by omega)) (by omega)) (by omega)) (by omega)) (by omega)) (by omega)))
  go_upto_region 4 with fail
  obtain ⟨V2, hV2⟩ : ∃ V2, V2 = (((((((V.setCell ⟨w.heap.size, 21, none⟩ (.int .i64 s.x)).setCell ⟨w.heap.size, 22, none⟩ (.int .i64 s.y)).setCell ⟨w.heap.size, 23, none⟩ (.int .i64 s.fg)).setCell ⟨w.heap.size, 24, none⟩ (.int .i64 s.bg)).setCell ⟨w.heap.size, 25, none⟩ (.bool s.b)).setCell ⟨w.heap.size, 26, none⟩ (.bool s.u)).setCell ⟨w.heap.size, 27, none⟩ (.bool s.t)) := ⟨_, rfl⟩
  rw [← hV2]
  rw [← hV2] at HR HB HZ
  clear hV2 hf k9 k10 k12 k13 k14 k15 k16 k21 k22 k23 k24 k25 k26 k27 H0 B0 Z0
  have rowS : rowOf V2 w.heap.size = scrA (savM s) := HR.out.of
  have rz : RowZ V2 (w.heap.size + 1) 31 := RowZ.of HZ.out.row 31 rfl
  have l1 : w.heap.size < V2.heap.size := HR.out.lt
  go_wp2_with fail
  refine bodyPost_ret (v := .agg (scrA (savM s))) (res55 Tryz.results59 _ _ (w.heap.size + 1) _ (by simp) (HZ.out.row.setRow) rfl) rfl ⟨rfl, ?_⟩
  exact below_setRow HB.out (by omega) _
set_option maxRecDepth 100000 in
set_option maxHeartbeats 3200000 in
theorem l10Back_any (s : ScrS) (w : World) : Calls Tryz.prog 60 #[.agg (scrA s)] w fun e w' => e = .returned (.agg (scrA (bacM s))) ∧ Below w.heap.size w w' := by
  have H0 := Lib.hid (((Below.refl w.heap.size w).alloc (Nat.le_refl _) (.cells (scrA s) 31)).alloc (by simp) (.cells (scrA zeroS) 31))
  have B0 := Lib.hid (show RowS ((w.alloc (.cells (scrA s) 31)).alloc (.cells (scrA zeroS) 31)) w.heap.size s from (RowS.new w s).alloc _)
  have Z0 := Lib.hid (show RowS ((w.alloc (.cells (scrA s) 31)).alloc (.cells (scrA zeroS) 31)) (w.heap.size + 1) zeroS from by have h := RowS.new (w.alloc (.cells (scrA s) 31)) zeroS; simpa using h)
  have hone0 : One #[.int .i64 0, .int .i64 0, .int .i64 0, .int .i64 0, .slice none 0 0, .int .i64 0, .int .i64 0, .slice none 0 0, .bool false, .int .i64 0, .int .i64 0, .bool false, .int .i64 0, .int .i64 0, .bool false, .bool false, .bool false, .int .i64 0, .int .i64 0, .bool false, .bool false, .int .i64 0, .int .i64 0, .int .i64 0, .int .i64 0, .bool false, .bool false, .bool false, .slice none 0 0, .int .i64 0, .slice none 0 0] := one_scr zeroS
  go_enter Tryz.func60, Tryz.ntmps60
  go_upto_region 1 with fail
  obtain ⟨V, hV⟩ : ∃ V, V = (w.alloc (.cells (scrA s) 31)).alloc (.cells (scrA zeroS) 31) := ⟨_, rfl⟩
  have HV : (w.alloc (.cells (scrA s) 31)).alloc (.cells #[.int .i64 0, .int .i64 0, .int .i64 0, .int .i64 0, .slice none 0 0, .int .i64 0, .int .i64 0, .slice none 0 0, .bool false, .int .i64 0, .int .i64 0, .bool false, .int .i64 0, .int .i64 0, .bool false, .bool false, .bool false, .int .i64 0, .int .i64 0, .bool false, .bool false, .int .i64 0, .int .i64 0, .int .i64 0, .int .i64 0, .bool false, .bool false, .bool false, .slice none 0 0, .int .i64 0, .slice none 0 0] 31) = V := hV.symm
  rw [HV]
  rw [← hV] at H0 B0 Z0
  clear HV hV
  have hf := B0.out.free
  have k9 : V.cell? ⟨w.heap.size, 9, none⟩ = some (.int .i64 s.x) := B0.out.cell 9
  have k10 : V.cell? ⟨w.heap.size, 10, none⟩ = some (.int .i64 s.y) := B0.out.cell 10
  have k11 : V.cell? ⟨w.heap.size, 11, none⟩ = some (.bool s.wrap) := B0.out.cell 11
  have k12 : V.cell? ⟨w.heap.size, 12, none⟩ = some (.int .i64 s.fg) := B0.out.cell 12
  have k13 : V.cell? ⟨w.heap.size, 13, none⟩ = some (.int .i64 s.bg) := B0.out.cell 13
  have k14 : V.cell? ⟨w.heap.size, 14, none⟩ = some (.bool s.b) := B0.out.cell 14
  have k15 : V.cell? ⟨w.heap.size, 15, none⟩ = some (.bool s.u) := B0.out.cell 15
  have k16 : V.cell? ⟨w.heap.size, 16, none⟩ = some (.bool s.t) := B0.out.cell 16
  have k21 : V.cell? ⟨w.heap.size, 21, none⟩ = some (.int .i64 s.sx) := B0.out.cell 21
  have k22 : V.cell? ⟨w.heap.size, 22, none⟩ = some (.int .i64 s.sy) := B0.out.cell 22
  have k23 : V.cell? ⟨w.heap.size, 23, none⟩ = some (.int .i64 s.sfg) := B0.out.cell 23
  have k24 : V.cell? ⟨w.heap.size, 24, none⟩ = some (.int .i64 s.sbg) := B0.out.cell 24
  have k25 : V.cell? ⟨w.heap.size, 25, none⟩ = some (.bool s.sb) := B0.out.cell 25
  have k26 : V.cell? ⟨w.heap.size, 26, none⟩ = some (.bool s.su) := B0.out.cell 26
  have k27 : V.cell? ⟨w.heap.size, 27, none⟩ = some (.bool s.st) := B0.out.cell 27
  have HR := Lib.hid (show RowS ((((((((V.setCell ⟨w.heap.size, 9, none⟩ (.int .i64 s.sx)).setCell ⟨w.heap.size, 10, none⟩ (.int .i64 s.sy)).setCell ⟨w.heap.size, 12, none⟩ (.int .i64 s.sfg)).setCell ⟨w.heap.size, 13, none⟩ (.int .i64 s.sbg)).setCell ⟨w.heap.size, 14, none⟩ (.bool s.sb)).setCell ⟨w.heap.size, 15, none⟩ (.bool s.su)).setCell ⟨w.heap.size, 16, none⟩ (.bool s.st)).setCell ⟨w.heap.size, 11, none⟩ (.bool false)) w.heap.size (bacM s) from (RowS.s_wrap (z := false) (RowS.s_t (z := s.st) (RowS.s_u (z := s.su) (RowS.s_b (z := s.sb) (RowS.s_bg (z := s.sbg) (RowS.s_fg (z := s.sfg) (RowS.s_y (z := s.sy) (RowS.s_x (z := s.sx) B0.out)))))))))
  have HB := Lib.hid (show Below w.heap.size w ((((((((V.setCell ⟨w.heap.size, 9, none⟩ (.int .i64 s.sx)).setCell ⟨w.heap.size, 10, none⟩ (.int .i64 s.sy)).setCell ⟨w.heap.size, 12, none⟩ (.int .i64 s.sfg)).setCell ⟨w.heap.size, 13, none⟩ (.int .i64 s.sbg)).setCell ⟨w.heap.size, 14, none⟩ (.bool s.sb)).setCell ⟨w.heap.size, 15, none⟩ (.bool s.su)).setCell ⟨w.heap.size, 16, none⟩ (.bool s.st)).setCell ⟨w.heap.size, 11, none⟩ (.bool false)) from ((((((((H0.out.setCell (Nat.le_refl _) _).setCell (Nat.le_refl _) _).setCell (Nat.le_refl _) _).setCell (Nat.le_refl _) _).setCell (Nat.le_refl _) _).setCell (Nat.le_refl _) _).setCell (Nat.le_refl _) _).setCell (Nat.le_refl _) _))
  have HZ := Lib.hid (show RowS ((((((((V.setCell ⟨w.heap.size, 9, none⟩ (.int .i64 s.sx)).setCell ⟨w.heap.size, 10, none⟩ (.int .i64 s.sy)).setCell ⟨w.heap.size, 12, none⟩ (.int .i64 s.sfg)).setCell ⟨w.heap.size, 13, none⟩ (.int .i64 s.sbg)).setCell ⟨w.heap.size, 14, none⟩ (.bool s.sb)).setCell ⟨w.heap.size, 15, none⟩ (.bool s.su)).setCell ⟨w.heap.size, 16, none⟩ (.bool s.st)).setCell ⟨w.heap.size, 11, none⟩ (.bool false)) (w.heap.size + 1) zeroS from (RowS.other (RowS.other (RowS.other (RowS.other (RowS.other (RowS.other (RowS.other (RowS.other Z0.out (by omega)) (by omega)) (by omega)) (by omega)) (by omega)) (by omega)) (by omega)) (by omega)))
  go_upto_region 5 with fail
  obtain ⟨V2, hV2⟩ : ∃ V2, V2 = ((((((((V.setCell ⟨w.heap.size, 9, none⟩ (.int .i64 s.sx)).setCell ⟨w.heap.size, 10, none⟩ (.int .i64 s.sy)).setCell ⟨w.heap.size, 12, none⟩ (.int .i64 s.sfg)).setCell ⟨w.heap.size, 13, none⟩ (.int .i64 s.sbg)).setCell ⟨w.heap.size, 14, none⟩ (.bool s.sb)).setCell ⟨w.heap.size, 15, none⟩ (.bool s.su)).setCell ⟨w.heap.size, 16, none⟩ (.bool s.st)).setCell ⟨w.heap.size, 11, none⟩ (.bool false)) := ⟨_, rfl⟩
  rw [← hV2]
  rw [← hV2] at HR HB HZ
  clear hV2 hf k9 k10 k11 k12 k13 k14 k15 k16 k21 k22 k23 k24 k25 k26 k27 H0 B0 Z0
  have rowS : rowOf V2 w.heap.size = scrA (bacM s) := HR.out.of
  have rz : RowZ V2 (w.heap.size + 1) 31 := RowZ.of HZ.out.row 31 rfl
  have l1 : w.heap.size < V2.heap.size := HR.out.lt
  go_wp2_with fail
  refine bodyPost_ret (v := .agg (scrA (bacM s))) (res55 Tryz.results60 _ _ (w.heap.size + 1) _ (by simp) (HZ.out.row.setRow) rfl) rfl ⟨rfl, ?_⟩
  exact below_setRow HB.out (by omega) _
end Go.Proofs.YtfdbmhelcmifoaaGreat.Sc
namespace Go.Proofs.YtfdbmhelcmifoaaGreat.Sc
open Go.RowKit Go.Proofs.YtfdbmhelcmifoaaGreat.Bytes Go.Proofs.YtfdbmhelcmifoaaGreat.Rows_ Go.Proofs.YtfdbmhelcmifoaaGreat.RowK Go.Proofs.YtfdbmhelcmifoaaGreat.Gr Go.Proofs.YtfdbmhelcmifoaaGreat.DOk Go.Proofs.YtfdbmhelcmifoaaGreat.Opq Go.Proofs.YtfdbmhelcmifoaaGreat.Attr
set_option linter.unusedVariables false
attribute [local go_sem ↓] Sc.exec_storeS Sc.exec_loadS
attribute [local go_sem] rowOf_drew blkOf_ptr isHead_ptr aggN_agg setRow_alloc rowZ_at rowZ_past scrA_size one_scr rowOf_alloc_at rowOf_alloc_past
attribute [local go_sem] sa_w sa_h sa_mw sa_mh sa_M sa_aw sa_ah sa_A sa_onAlt sa_x sa_y sa_wrap sa_fg sa_bg sa_b sa_u sa_t sa_top sa_bot sa_noWrap sa_hide sa_sx sa_sy sa_sfg sa_sbg sa_sb sa_su sa_st sa_tabs sa_lim sa_rows
attribute [local go_sem] scr_at0 scr_at1 scr_at2 scr_at3 scr_at4 scr_at5 scr_at6 scr_at7 scr_at8 scr_at9 scr_at10 scr_at11 scr_at12 scr_at13 scr_at14 scr_at15 scr_at16 scr_at17 scr_at18 scr_at19 scr_at20 scr_at21 scr_at22 scr_at23 scr_at24 scr_at25 scr_at26 scr_at27 scr_at28 scr_at29 scr_at30
theorem reset_dataM {s t : ScrS} {W H L : Int} (h : s.data = newD W H L) (hw : t.w = W) (hh : t.h = H) (hl : t.lim = L) : ({ s with bA := t.bA, bk := t.bk, rows := t.rows } : ScrS).data = resetD t.data := by
  have e : resetD t.data = rowsD (newD W H L) t.data.rows := by unfold resetD; rw [show t.data.w = W from hw, show t.data.h = H from hh, show t.data.lim = L from hl]
  rw [e, ← h]; rfl
theorem own_resetM {w y : World} {B : Nat} {s t : ScrS} (ht : OwnS w B t) (hs : OwnS y w.heap.size s) (hb : Below w.heap.size w y) (hB : B ≤ w.heap.size) : OwnS y B { s with bA := t.bA, bk := t.bk, rows := t.rows } := by
  have h := ht.below (Nat.le_refl _) hb
  have hc := h.c.tail.tail
  have hcut := ht.c.tail.tail
  refine ⟨⟨fun r hr => ?_, ?_⟩, hs.t.more hB, h.r⟩
  · rcases List.mem_cons.1 hr with rfl | hr
    · exact hs.m.more hB
    · rcases List.mem_cons.1 hr with rfl | hr
      · exact hs.a.more hB
      · exact hc.1 r hr
  · refine List.pairwise_cons.2 ⟨fun z hz => ?_, List.pairwise_cons.2 ⟨fun z hz => ?_, hc.2⟩⟩
    · rcases List.mem_cons.1 hz with rfl | hz
      · exact (List.pairwise_cons.1 hs.c.2).1 _ (by simp)
      · exact (apart_of (w0 := w) (hcut.1 z hz) hs.m (Nat.le_refl _)).symm
    · exact (apart_of (w0 := w) (hcut.1 z hz) hs.a (Nat.le_refl _)).symm
theorem hasI_contains (zs : List Int) (z : Int) : hasI zs z = zs.contains z := by
  unfold hasI
  rw [Bool.eq_iff_iff, List.any_eq_true, List.contains_iff_mem]
  constructor
  · rintro ⟨x, hx, e⟩
    have : x = z := by simpa using e
    exact this ▸ hx
  · intro h; exact ⟨z, h, by simp⟩
set_option maxRecDepth 100000 in
set_option maxHeartbeats 3200000 in
theorem spec_ScrEsc_any (s : ScrS) (w : World) (b : Nat) (z : Int) (ho : OwnS w b s) (hn : szS s ≤ 1048576) :
    Calls Tryz.prog 13 #[.agg (scrA s), .int .i64 z] w (AnsS (okF (fun d => escD d z) s.data) w) := by
  have H0 := Lib.hid (((Below.refl w.heap.size w).alloc (Nat.le_refl _) (.cells (scrA s) 31)).alloc (by simp) (.cells (scrA zeroS) 31))
  have B0 := Lib.hid (show RowS ((w.alloc (.cells (scrA s) 31)).alloc (.cells (scrA zeroS) 31)) w.heap.size s from (RowS.new w s).alloc _)
  have Z0 := Lib.hid (show RowS ((w.alloc (.cells (scrA s) 31)).alloc (.cells (scrA zeroS) 31)) (w.heap.size + 1) zeroS from by have h := RowS.new (w.alloc (.cells (scrA s) 31)) zeroS; simpa using h)
  have hone0 : One #[.int .i64 0, .int .i64 0, .int .i64 0, .int .i64 0, .slice none 0 0, .int .i64 0, .int .i64 0, .slice none 0 0, .bool false, .int .i64 0, .int .i64 0, .bool false, .int .i64 0, .int .i64 0, .bool false, .bool false, .bool false, .int .i64 0, .int .i64 0, .bool false, .bool false, .int .i64 0, .int .i64 0, .int .i64 0, .int .i64 0, .bool false, .bool false, .bool false, .slice none 0 0, .int .i64 0, .slice none 0 0] := one_scr zeroS
  have HO := Lib.hid (fun W (h : Below w.heap.size w W) => ho.below (Nat.le_refl _) h)
  have HOK := Lib.hid (fun W (h : Below w.heap.size w W) => spec_ScrOk_any s W (ho.below (Nat.le_refl _) h).rd hn)
  have HCP := Lib.hid (fun W (h : Below w.heap.size w W) => l09Copy_own s W b (ho.below (Nat.le_refl _) h) hn)
  clear ho
  have HN := Lib.hid hn
  clear hn
  cases hok : okD s.data
  · have HF := Lib.hid (okF_no (f := (fun d => escD d z)) hok)
    go_enter Tryz.func13, Tryz.ntmps13
    go_wp2_with fail
    refine (HOK.out _ H0.out).mono ?_
    rintro e v1 ⟨rfl, hb1⟩
    rw [hok]
    have Z1 := Lib.hid (Z0.out.below hb1 Z0.out.lt)
    have H1 := Lib.hid (H0.out.trans (hb1.mono (by simp; omega)))
    have rz1 : RowZ v1 (w.heap.size + 1) 31 := RowZ.of Z1.out.row 31 rfl
    clear hb1 B0 Z0 H0 HCP HO HOK HN
    go_wp2_with fail
    refine bodyPost_ret (v := .agg (scrA zeroS)) (res55 Tryz.results13 _ _ (w.heap.size + 1) _ (by simp) (Z1.out.row.setRow) rfl) rfl ⟨zeroS, rfl, ?_, ?_, ?_⟩
    · exact zeroS_own _ _
    · rw [HF.out]; rfl
    · exact below_setRow H1.out (by omega) _
  · have HF := Lib.hid (okF_yes (f := (fun d => escD d z)) hok)
    have HKY := Lib.hid hok
    have HFIT := Lib.hid (ok_fit hok)
    go_enter Tryz.func13, Tryz.ntmps13
    go_wp2_with fail
    refine (HOK.out _ H0.out).mono ?_
    rintro e v1 ⟨rfl, hb1⟩
    rw [hok]
    have B1 := Lib.hid (B0.out.below hb1 B0.out.lt)
    have Z1 := Lib.hid (Z0.out.below hb1 Z0.out.lt)
    have H1 := Lib.hid (H0.out.trans (hb1.mono (by simp; omega)))
    have row1 := B1.out.of
    clear hb1 B0 Z0 H0 HOK hok
    go_wp2_with fail
    refine (HCP.out _ H1.out).mono ?_
    rintro e v2 ⟨t, rfl, ho2, hd2, hb2⟩
    have B2 := Lib.hid (B1.out.below hb2 B1.out.lt)
    have Z2 := Lib.hid (Z1.out.below hb2 Z1.out.lt)
    have zz1 : w.heap.size + 1 < v1.heap.size := Z1.out.lt
    have H2 := Lib.hid (H1.out.trans (hb2.mono H1.out.size))
    have O2 := Lib.hid (ho2.more (base' := w.heap.size + 2) (by omega))
    have D2 := Lib.hid hd2
    have zz2 : w.heap.size + 1 < v2.heap.size := Z2.out.lt
    have zz2' : w.heap.size < v2.heap.size := by omega
    have rz2 : RowZ v2 (w.heap.size + 1) 31 := RowZ.of Z2.out.row 31 rfl
    clear hb2 ho2 hd2 B1 Z1 H1 HCP row1
    obtain ⟨W, H, X, Y, T, Bt, L, fit⟩ := HFIT.out
    have ew : s.w = (W : Int) := fit.w
    have eh : s.h = (H : Int) := fit.h
    have ex : s.x = (X : Int) := fit.x
    have el : s.lim = (L : Int) := fit.lim
    have hw1 := fit.w1; have hw2 := fit.w2; have hx2 := fit.x2; have hh1 := fit.h1; have hh2 := fit.h2; have hl2 := fit.l2
    obtain ⟨n, hl⟩ : ∃ n, n = s.tabs.length := ⟨_, rfl⟩
    have hn1 : n ≤ 121 := by rw [hl]; exact ok_tabs HKY.out
    have HL := Lib.hid hl.symm
    clear fit HFIT
    go_upto_region 4 with fail
    obtain ⟨V, hV⟩ : ∃ V, V = v2.alloc (.cells (scrA t) 31) := ⟨_, rfl⟩
    have BS := Lib.hid (show RowS V w.heap.size s from by rw [hV]; exact B2.out.alloc _)
    have BT := Lib.hid (show RowS V v2.heap.size t from by rw [hV]; exact RowS.new v2 t)
    have ZV := Lib.hid (show RowS V (w.heap.size + 1) zeroS from by rw [hV]; exact Z2.out.alloc _)
    have HV := Lib.hid (show Below w.heap.size w V from by rw [hV]; exact H2.out.alloc H2.out.size _)
    have OV := Lib.hid (show OwnS V (w.heap.size + 2) t from by rw [hV]; exact O2.out.below (Nat.le_refl _) ((Below.refl v2.heap.size v2).alloc (Nat.le_refl _) _))
    have zV : w.heap.size + 1 < V.heap.size := ZV.out.lt
    have zV0 : w.heap.size < V.heap.size := by omega
    have zV2 : v2.heap.size < V.heap.size := BT.out.lt
    rw [← hV]
    clear hV B2 Z2 H2 O2 rz2
    have rowS : rowOf V w.heap.size = scrA s := BS.out.of
    have rowT : rowOf V v2.heap.size = scrA t := BT.out.of
    have rzV : RowZ V (w.heap.size + 1) 31 := RowZ.of ZV.out.row 31 rfl
    have HTR := Lib.hid (fun U (h : Below w.heap.size w U) => show RdI U U.heap.size s.tA s.tabs from (HO.out U h).rd.t)
    have HDN := Lib.hid (fun W (h : Below w.heap.size w W) => spec_ScrDown_any s W b (HO.out W h) HN.out)
    have HUP := Lib.hid (fun W (h : Below w.heap.size w W) => spec_ScrUp_any s W b (HO.out W h) HN.out)
    have EW := Lib.hid ew
    have EH := Lib.hid eh
    have EX := Lib.hid ex
    have EL := Lib.hid el
    clear ew eh ex el hl HO HN
    by_cases h68 : z = 68
    · subst h68
      have HU := Lib.hid (show escD s.data 68 = downD s.data by unfold escD; rw [if_pos rfl])
      go_wp2_with fail
      refine (HDN.out V HV.out).mono ?_
      rintro e v3 ⟨t3, rfl, ho3, hd3, hb3⟩
      have Z3 := Lib.hid (ZV.out.below hb3 ZV.out.lt)
      have H3 := Lib.hid (HV.out.trans (hb3.mono HV.out.size))
      have O3 := Lib.hid (ho3.more (base' := w.heap.size + 2) (by omega))
      have D3 := Lib.hid hd3
      have rz3 : RowZ v3 (w.heap.size + 1) 31 := RowZ.of Z3.out.row 31 rfl
      clear ho3 hd3 hb3 HDN HUP rowS rowT rzV
      go_wp2_with fail
      refine bodyPost_ret (v := .agg (scrA t3)) (res55 Tryz.results13 _ _ (w.heap.size + 1) _ (by simp) (Z3.out.row.setRow) rfl) rfl ⟨t3, rfl, ?_, ?_, ?_⟩
      · exact ((O3.out.row_ _ _ (by omega)).more (by omega))
      · rw [HF.out, D3.out, okF_yes HKY.out, HU.out]
      · exact below_setRow H3.out (by omega) _
    by_cases h77 : z = 77
    · subst h77
      have HU := Lib.hid (show escD s.data 77 = upD s.data by unfold escD; rw [if_neg (by decide), if_pos rfl])
      go_wp2_with fail
      refine (HUP.out V HV.out).mono ?_
      rintro e v3 ⟨t3, rfl, ho3, hd3, hb3⟩
      have Z3 := Lib.hid (ZV.out.below hb3 ZV.out.lt)
      have H3 := Lib.hid (HV.out.trans (hb3.mono HV.out.size))
      have O3 := Lib.hid (ho3.more (base' := w.heap.size + 2) (by omega))
      have D3 := Lib.hid hd3
      have rz3 : RowZ v3 (w.heap.size + 1) 31 := RowZ.of Z3.out.row 31 rfl
      clear ho3 hd3 hb3 HDN HUP rowS rowT rzV
      go_wp2_with fail
      refine bodyPost_ret (v := .agg (scrA t3)) (res55 Tryz.results13 _ _ (w.heap.size + 1) _ (by simp) (Z3.out.row.setRow) rfl) rfl ⟨t3, rfl, ?_, ?_, ?_⟩
      · exact ((O3.out.row_ _ _ (by omega)).more (by omega))
      · rw [HF.out, D3.out, okF_yes HKY.out, HU.out]
      · exact below_setRow H3.out (by omega) _
    by_cases h69 : z = 69
    · subst h69
      have HU := Lib.hid (show escD s.data 69 = x0D (downD s.data) by unfold escD; rw [if_neg (by decide), if_neg (by decide), if_pos rfl])
      go_wp2_with fail
      refine (HDN.out V HV.out).mono ?_
      rintro e v3 ⟨t3, rfl, ho3, hd3, hb3⟩
      have rT3 : RowZ v3 v2.heap.size 31 := RowZ.of (BT.out.below hb3 zV2).row 31 rfl
      have R4 := Lib.hid (show RowS (v3.setRow v2.heap.size (scrA t3)) v2.heap.size t3 from (BT.out.below hb3 zV2).store)
      have Z4 := Lib.hid (show RowS (v3.setRow v2.heap.size (scrA t3)) (w.heap.size + 1) zeroS from (ZV.out.below hb3 zV).row_other (by omega))
      have H4 := Lib.hid (show Below w.heap.size w (v3.setRow v2.heap.size (scrA t3)) from below_setRow (HV.out.trans (hb3.mono HV.out.size)) (by omega) _)
      have O4 := Lib.hid (show OwnS (v3.setRow v2.heap.size (scrA t3)) (w.heap.size + 2) t3 from (ho3.keepRow v2.heap.size (scrA t3) (.inl zV2)).more (by omega))
      have D4 := Lib.hid hd3
      clear hd3 ho3 hb3 HDN HUP rowS rowT rzV
      go_upto_region 11 with fail
      obtain ⟨V4, hV4⟩ : ∃ V4, V4 = v3.setRow v2.heap.size (scrA t3) := ⟨_, rfl⟩
      rw [← hV4] at R4 Z4 H4 O4 ⊢
      clear hV4
      have c9 : V4.cell? ⟨v2.heap.size, 9, none⟩ = some (.int .i64 t3.x) := R4.out.cell 9
      have f9 := R4.out.free 9
      have R5 := Lib.hid (show RowS (V4.setCell ⟨v2.heap.size, 9, none⟩ (.int .i64 0)) v2.heap.size { t3 with x := 0 } from R4.out.s_x)
      have Z5 := Lib.hid (show RowS (V4.setCell ⟨v2.heap.size, 9, none⟩ (.int .i64 0)) (w.heap.size + 1) zeroS from Z4.out.other (by omega))
      have H5 := Lib.hid (show Below w.heap.size w (V4.setCell ⟨v2.heap.size, 9, none⟩ (.int .i64 0)) from H4.out.setCell (by show w.heap.size ≤ v2.heap.size; omega) _)
      have O5 := Lib.hid (show OwnS (V4.setCell ⟨v2.heap.size, 9, none⟩ (.int .i64 0)) (w.heap.size + 2) { t3 with x := 0 } from by
        have h := O4.out.only (S := fun i => i = v2.heap.size) (Only.cell_ V4 v2.heap.size 9 (.int .i64 0) rfl) (fun i hi e => R4.out.apart O4.out (e ▸ hi))
        exact ⟨h.c, h.t, h.r⟩)
      have D5 := Lib.hid (show ({ t3 with x := 0 } : ScrS).data = escD s.data 69 from by rw [HU.out, ← okF_yes (f := downD) HKY.out, ← D4.out]; rfl)
      obtain ⟨t5, ht5⟩ : ∃ t5 : ScrS, t5 = { t3 with x := 0 } := ⟨_, rfl⟩
      rw [← ht5] at R5 O5 D5
      clear ht5
      go_upto_region 28 with fail
      obtain ⟨V5, hV5⟩ : ∃ V5, V5 = V4.setCell ⟨v2.heap.size, 9, none⟩ (.int .i64 0) := ⟨_, rfl⟩
      rw [← hV5] at R5 Z5 H5 O5 ⊢
      clear hV5 c9 f9
      have rowT5 : rowOf V5 v2.heap.size = scrA t5 := R5.out.of
      have rz5 : RowZ V5 (w.heap.size + 1) 31 := RowZ.of Z5.out.row 31 rfl
      have l5 : v2.heap.size < V5.heap.size := R5.out.lt
      go_wp2_with fail
      refine bodyPost_ret (v := .agg (scrA t5)) (res55 Tryz.results13 _ _ (w.heap.size + 1) _ (by simp) (Z5.out.row.setRow) rfl) rfl ⟨t5, rfl, ?_, ?_, ?_⟩
      · exact ((O5.out.row_ _ _ (by omega)).more (by omega))
      · rw [HF.out, D5.out]
      · exact below_setRow H5.out (by omega) _
    by_cases h55 : z = 55
    · subst h55
      have HU := Lib.hid (show escD s.data 55 = saveD s.data by unfold escD; rw [if_neg (by decide), if_neg (by decide), if_neg (by decide), if_pos rfl])
      go_wp2_with fail
      refine (l10Save_any t V).mono ?_
      rintro e v3 ⟨rfl, hb3⟩
      have rT3 : RowZ v3 v2.heap.size 31 := RowZ.of (BT.out.below hb3 zV2).row 31 rfl
      have R5 := Lib.hid (show RowS (v3.setRow v2.heap.size (scrA (savM t))) v2.heap.size (savM t) from (BT.out.below hb3 zV2).store)
      have Z5 := Lib.hid (show RowS (v3.setRow v2.heap.size (scrA (savM t))) (w.heap.size + 1) zeroS from (ZV.out.below hb3 zV).row_other (by omega))
      have H5 := Lib.hid (show Below w.heap.size w (v3.setRow v2.heap.size (scrA (savM t))) from below_setRow (HV.out.trans (hb3.mono HV.out.size)) (by omega) _)
      have O5 := Lib.hid (show OwnS (v3.setRow v2.heap.size (scrA (savM t))) (w.heap.size + 2) (savM t) from by
        have h := (OV.out.below (Nat.le_refl _) hb3)
        have h2 := h.keepRow v2.heap.size (scrA (savM t)) (.inr (RowS.apart (BT.out.below hb3 zV2) h))
        exact ⟨h2.c, h2.t, h2.r⟩)
      have D5 := Lib.hid (show (savM t).data = escD s.data _ from by rw [HU.out, savM_data, D2.out])
      obtain ⟨t5, ht5⟩ : ∃ t5, t5 = savM t := ⟨_, rfl⟩
      rw [← ht5] at R5 Z5 H5 O5 D5 ⊢
      clear ht5 hb3 HDN HUP rowS rowT rzV
      go_upto_region 28 with fail
      obtain ⟨V5, hV5⟩ : ∃ V5, V5 = v3.setRow v2.heap.size (scrA t5) := ⟨_, rfl⟩
      rw [← hV5] at R5 Z5 H5 O5 ⊢
      clear hV5
      have rowT5 : rowOf V5 v2.heap.size = scrA t5 := R5.out.of
      have rz5 : RowZ V5 (w.heap.size + 1) 31 := RowZ.of Z5.out.row 31 rfl
      have l5 : v2.heap.size < V5.heap.size := R5.out.lt
      go_wp2_with fail
      refine bodyPost_ret (v := .agg (scrA t5)) (res55 Tryz.results13 _ _ (w.heap.size + 1) _ (by simp) (Z5.out.row.setRow) rfl) rfl ⟨t5, rfl, ?_, ?_, ?_⟩
      · exact ((O5.out.row_ _ _ (by omega)).more (by omega))
      · rw [HF.out, D5.out]
      · exact below_setRow H5.out (by omega) _
    by_cases h56 : z = 56
    · subst h56
      have HU := Lib.hid (show escD s.data 56 = backD s.data by unfold escD; rw [if_neg (by decide), if_neg (by decide), if_neg (by decide), if_neg (by decide), if_pos rfl])
      go_wp2_with fail
      refine (l10Back_any t V).mono ?_
      rintro e v3 ⟨rfl, hb3⟩
      have rT3 : RowZ v3 v2.heap.size 31 := RowZ.of (BT.out.below hb3 zV2).row 31 rfl
      have R5 := Lib.hid (show RowS (v3.setRow v2.heap.size (scrA (bacM t))) v2.heap.size (bacM t) from (BT.out.below hb3 zV2).store)
      have Z5 := Lib.hid (show RowS (v3.setRow v2.heap.size (scrA (bacM t))) (w.heap.size + 1) zeroS from (ZV.out.below hb3 zV).row_other (by omega))
      have H5 := Lib.hid (show Below w.heap.size w (v3.setRow v2.heap.size (scrA (bacM t))) from below_setRow (HV.out.trans (hb3.mono HV.out.size)) (by omega) _)
      have O5 := Lib.hid (show OwnS (v3.setRow v2.heap.size (scrA (bacM t))) (w.heap.size + 2) (bacM t) from by
        have h := (OV.out.below (Nat.le_refl _) hb3)
        have h2 := h.keepRow v2.heap.size (scrA (bacM t)) (.inr (RowS.apart (BT.out.below hb3 zV2) h))
        exact ⟨h2.c, h2.t, h2.r⟩)
      have D5 := Lib.hid (show (bacM t).data = escD s.data _ from by rw [HU.out, bacM_data, D2.out])
      obtain ⟨t5, ht5⟩ : ∃ t5, t5 = bacM t := ⟨_, rfl⟩
      rw [← ht5] at R5 Z5 H5 O5 D5 ⊢
      clear ht5 hb3 HDN HUP rowS rowT rzV
      go_upto_region 28 with fail
      obtain ⟨V5, hV5⟩ : ∃ V5, V5 = v3.setRow v2.heap.size (scrA t5) := ⟨_, rfl⟩
      rw [← hV5] at R5 Z5 H5 O5 ⊢
      clear hV5
      have rowT5 : rowOf V5 v2.heap.size = scrA t5 := R5.out.of
      have rz5 : RowZ V5 (w.heap.size + 1) 31 := RowZ.of Z5.out.row 31 rfl
      have l5 : v2.heap.size < V5.heap.size := R5.out.lt
      go_wp2_with fail
      refine bodyPost_ret (v := .agg (scrA t5)) (res55 Tryz.results13 _ _ (w.heap.size + 1) _ (by simp) (Z5.out.row.setRow) rfl) rfl ⟨t5, rfl, ?_, ?_, ?_⟩
      · exact ((O5.out.row_ _ _ (by omega)).more (by omega))
      · rw [HF.out, D5.out]
      · exact below_setRow H5.out (by omega) _
    by_cases h72 : z = 72
    · subst h72
      have HTE := Lib.hid (show tabF (X : Int) s.tabs W = tabAdd (X : Int) s.tabs from tabF_eq (by omega) (by omega) (by have h := (okD_iff.1 HKY.out).2.2.2.1; rw [show s.data.w = (W : Int) from EW.out] at h; exact h))
      have HU := Lib.hid (show escD s.data 72 = tabsD s.data (tabAdd (X : Int) s.tabs) by unfold escD; rw [if_neg (by decide), if_neg (by decide), if_neg (by decide), if_neg (by decide), if_neg (by decide), if_pos rfl]; rw [show s.data.x = (X : Int) from EX.out]; rfl)
      obtain ⟨i0, hi, hz0, hz1, hz2⟩ := info_parts intInfo
      go_wp2_with fail
      go_loopw [6, 7] (fun a i wr => ∃ (k m : Nat) (A : Option Addr) (c : Nat), k ≤ W ∧ m ≤ k ∧ i = .int .i64 (k : Int) ∧ a = .slice A m c ∧ OwnI wr V.heap.size A m c (tabF (X : Int) s.tabs k) ∧ Below V.heap.size V wr) (fun _ i _ => W - (intOf i).toNat)
      case atStart => exact ⟨0, 0, _, 0, Nat.zero_le _, Nat.le_refl _, rfl, rfl, own_empty V _ _, (Below.refl V.heap.size V).alloc (Nat.le_refl _) _⟩
      case round =>
        obtain ⟨k, m, A, c, hk, hm, rfl, rfl, hoi, hbr⟩ := hrel
        have HOI := Lib.hid hoi
        have HBR := Lib.hid hbr
        have BSr := Lib.hid (BS.out.below hbr BS.out.lt)
        have HVr := Lib.hid (HV.out.trans (hbr.mono HV.out.size))
        have hzr : V.heap.size ≤ wr.heap.size := hbr.size
        have zr : w.heap.size < wr.heap.size := by omega
        clear hoi hbr rowS rowT rzV
        have k0 : wr.cell? ⟨w.heap.size, 0, none⟩ = some (.int .i64 (W : Int)) := by rw [← EW.out]; exact BSr.out.cell 0
        have k9 : wr.cell? ⟨w.heap.size, 9, none⟩ = some (.int .i64 (X : Int)) := by rw [← EX.out]; exact BSr.out.cell 9
        have k28 : wr.cell? ⟨w.heap.size, 28, none⟩ = some (.slice s.tA n s.tk) := by rw [← HL.out]; exact BSr.out.cell 28
        have HHI := Lib.hid (l02HasInt_any s.tA n s.tk s.tabs (k : Int) wr wr.heap.size (HTR.out wr HVr.out) HL.out (by omega))
        rw [hasI_contains] at HHI
        by_cases hlt : k < W
        · have hlt' : (k : Int) < (W : Int) := by omega
          by_cases hkx : (k : Int) = (X : Int)
          · have HS := Lib.hid (tabF_in (x := (X : Int)) (zs := s.tabs) (k := k) (by rw [decide_eq_true hkx]; rfl))
            have hkb : ((k : Int) == (X : Int)) = true := by simpa using hkx
            clear HHI hkx
            go_wp2_with (at_builtin; refine AppOne.append_one Tryz.underlying28 hi hz0 hz1 hz2 rfl (by decide) rfl _ _ rfl rfl wr.heap.size rfl rfl HOI.out rfl (by omega) (by omega) ?_)
            intro A' c' w' ho' hg' _
            have HO' := Lib.hid (show OwnI w' V.heap.size A' (m + 1) c' (tabF (X : Int) s.tabs (k + 1)) by rw [HS.out]; unfold OwnI; rw [← iv_snoc]; exact ho')
            have HB' := Lib.hid (HBR.out.grown hg' hzr (fun g hg => (HOI.out.blk g hg).1))
            clear ho' hg'
            go_wp2_with fail
            exact ⟨⟨k + 1, m + 1, A', c', by omega, by omega, by go_num, rfl, HO'.out, HB'.out⟩, by simp [intOf]; omega⟩
          · have hkb : ((k : Int) == (X : Int)) = false := by simpa using hkx
            cases hc : s.tabs.contains (k : Int)
            · have HS := Lib.hid (tabF_out (x := (X : Int)) (zs := s.tabs) (k := k) (by rw [decide_eq_false hkx, hc]; rfl))
              rw [hc] at HHI
              clear hc hkx
              go_wp2_with fail
              refine HHI.out.mono ?_
              rintro e v9 ⟨rfl, rfl⟩
              clear HHI
              go_wp2_with fail
              exact ⟨⟨k + 1, m, A, c, by omega, by omega, by go_num, rfl, by rw [HS.out]; exact HOI.out, HBR.out⟩, by simp [intOf]; omega⟩
            · have HS := Lib.hid (tabF_in (x := (X : Int)) (zs := s.tabs) (k := k) (by rw [hc, Bool.or_true]))
              rw [hc] at HHI
              clear hc hkx
              go_wp2_with fail
              refine HHI.out.mono ?_
              rintro e v9 ⟨rfl, rfl⟩
              clear HHI
              go_wp2_with (at_builtin; refine AppOne.append_one Tryz.underlying28 hi hz0 hz1 hz2 rfl (by decide) rfl _ _ rfl rfl wr.heap.size rfl rfl HOI.out rfl (by omega) (by omega) ?_)
              intro A' c' w' ho' hg' _
              have HO' := Lib.hid (show OwnI w' V.heap.size A' (m + 1) c' (tabF (X : Int) s.tabs (k + 1)) by rw [HS.out]; unfold OwnI; rw [← iv_snoc]; exact ho')
              have HB' := Lib.hid (HBR.out.grown hg' hzr (fun g hg => (HOI.out.blk g hg).1))
              clear ho' hg'
              go_wp2_with fail
              exact ⟨⟨k + 1, m + 1, A', c', by omega, by omega, by go_num, rfl, HO'.out, HB'.out⟩, by simp [intOf]; omega⟩
        · obtain rfl : W = k := by omega
          have hlt' : ¬ (W : Int) < (W : Int) := by omega
          clear HHI k9 k28
          rw [HTE.out] at HOI
          have hml : m = (tabAdd (X : Int) s.tabs).length := HOI.out.len.symm
          have RT := Lib.hid (BT.out.below HBR.out zV2)
          have ZT := Lib.hid (ZV.out.below HBR.out zV)
          have OT := Lib.hid (OV.out.below (Nat.le_refl _) HBR.out)
          have c28 : wr.cell? ⟨v2.heap.size, 28, none⟩ = some (.slice t.tA t.tabs.length t.tk) := RT.out.cell 28
          have f28 := RT.out.free 28
          have R5 := Lib.hid (show RowS (wr.setCell ⟨v2.heap.size, 28, none⟩ (.slice A m c)) v2.heap.size { t with tA := A, tk := c, tabs := tabAdd (X : Int) s.tabs } from by rw [hml]; exact RT.out.s_tabs)
          have Z5 := Lib.hid (show RowS (wr.setCell ⟨v2.heap.size, 28, none⟩ (.slice A m c)) (w.heap.size + 1) zeroS from ZT.out.other (by omega))
          have H5 := Lib.hid (show Below w.heap.size w (wr.setCell ⟨v2.heap.size, 28, none⟩ (.slice A m c)) from HVr.out.setCell (by show w.heap.size ≤ v2.heap.size; omega) _)
          have O5 := Lib.hid (show OwnS (wr.setCell ⟨v2.heap.size, 28, none⟩ (.slice A m c)) (w.heap.size + 2) { t with tA := A, tk := c, tabs := tabAdd (X : Int) s.tabs } from by
            have h0 : OwnS wr (w.heap.size + 2) { t with tA := A, tk := c, tabs := tabAdd (X : Int) s.tabs } := ⟨OT.out.c, (by have h := HOI.out.more (base' := w.heap.size + 2) (by omega); rw [hml] at h; exact h), OT.out.r⟩
            exact h0.only (S := fun i => i = v2.heap.size) (Only.cell_ wr v2.heap.size 28 (.slice A m c) rfl) (fun i hi e => RT.out.apart h0 (e ▸ hi)))
          have D5 := Lib.hid (show ({ t with tA := A, tk := c, tabs := tabAdd (X : Int) s.tabs } : ScrS).data = escD s.data 72 from by rw [HU.out, ← D2.out]; rfl)
          obtain ⟨t5, ht5⟩ : ∃ t5 : ScrS, t5 = { t with tA := A, tk := c, tabs := tabAdd (X : Int) s.tabs } := ⟨_, rfl⟩
          rw [← ht5] at R5 O5 D5
          have hRl : v2.heap.size < wr.heap.size := RT.out.lt
          clear ht5 hml HDN HUP
          go_upto_region 28 with fail
          obtain ⟨V5, hV5⟩ : ∃ V5, V5 = wr.setCell ⟨v2.heap.size, 28, none⟩ (.slice A m c) := ⟨_, rfl⟩
          rw [← hV5] at R5 Z5 H5 O5 ⊢
          clear hV5 c28 f28 k0
          have rowT5 : rowOf V5 v2.heap.size = scrA t5 := R5.out.of
          have rz5 : RowZ V5 (w.heap.size + 1) 31 := RowZ.of Z5.out.row 31 rfl
          have l5 : v2.heap.size < V5.heap.size := R5.out.lt
          go_wp2_with fail
          refine bodyPost_ret (v := .agg (scrA t5)) (res55 Tryz.results13 _ _ (w.heap.size + 1) _ (by simp) (Z5.out.row.setRow) rfl) rfl ⟨t5, rfl, ?_, ?_, ?_⟩
          · exact ((O5.out.row_ _ _ (by omega)).more (by omega))
          · rw [HF.out, D5.out]
          · exact below_setRow H5.out (by omega) _
    by_cases h99 : z = 99
    · subst h99
      have HU := Lib.hid (show escD s.data 99 = resetD s.data by unfold escD; rw [if_neg (by decide), if_neg (by decide), if_neg (by decide), if_neg (by decide), if_neg (by decide), if_neg (by decide), if_pos rfl])
      have HNW := Lib.hid (show ∀ U, Calls Tryz.prog 37 #[.int .i64 (W : Int), .int .i64 (H : Int), .int .i64 (L : Int)] U fun e w' => ∃ s, e = .returned (.tuple #[.agg (scrA s), .bool true]) ∧ OwnS w' U.heap.size s ∧ s.data = newD (W : Int) (H : Int) (L : Int) ∧ Below U.heap.size U w' from fun U => by
        have h := spec_ScrNew_any (W : Int) (H : Int) (L : Int) U
        have hnb : newB (W : Int) (H : Int) (L : Int) = true := by have h0 := ok_size0 HKY.out; rw [show s.data.w = (W : Int) from EW.out, show s.data.h = (H : Int) from EH.out, show s.data.lim = (L : Int) from EL.out] at h0; exact h0
        unfold AnsNew at h; rw [hnb] at h; exact h)
      have k0 : V.cell? ⟨w.heap.size, 0, none⟩ = some (.int .i64 (W : Int)) := by rw [← EW.out]; exact BS.out.cell 0
      have k1 : V.cell? ⟨w.heap.size, 1, none⟩ = some (.int .i64 (H : Int)) := by rw [← EH.out]; exact BS.out.cell 1
      have k29 : V.cell? ⟨w.heap.size, 29, none⟩ = some (.int .i64 (L : Int)) := by rw [← EL.out]; exact BS.out.cell 29
      go_wp2_with fail
      refine (HNW.out V).mono ?_
      rintro e v3 ⟨t3, rfl, ho3, hd3, hb3⟩
      clear k0 k1 k29
      have HB3 := Lib.hid hb3
      have HO3 := Lib.hid ho3
      have HD3 := Lib.hid hd3
      clear hb3 ho3 hd3 HDN HUP HNW rowS rowT rzV
      go_upto_region 26 with fail
      obtain ⟨V4, hV4⟩ : ∃ V4, V4 = v3.alloc (.cells (scrA t3) 31) := ⟨_, rfl⟩
      have HA4 := Lib.hid (show Below v3.heap.size v3 V4 from by rw [hV4]; exact (Below.refl _ _).alloc (Nat.le_refl _) _)
      have R4 := Lib.hid (show RowS V4 v3.heap.size t3 from by rw [hV4]; exact RowS.new v3 t3)
      rw [← hV4]
      clear hV4
      have HVV := Lib.hid (show Below V.heap.size V V4 from HB3.out.trans (HA4.out.mono HB3.out.size))
      have T4 := Lib.hid (BT.out.below HVV.out zV2)
      have Z4 := Lib.hid (ZV.out.below HVV.out zV)
      have O4 := Lib.hid (OV.out.below (Nat.le_refl _) HVV.out)
      have H4 := Lib.hid (HV.out.trans (HVV.out.mono HV.out.size))
      have N4 := Lib.hid (HO3.out.below (Nat.le_refl _) HA4.out)
      have hv3 : V.heap.size ≤ v3.heap.size := HB3.out.size
      have t30 : V4.cell? ⟨v2.heap.size, 30, none⟩ = some (.slice t.bA t.rows.length t.bk) := T4.out.cell 30
      have r30 : V4.cell? ⟨v3.heap.size, 30, none⟩ = some (.slice t3.bA t3.rows.length t3.bk) := R4.out.cell 30
      have rf := R4.out.free
      have R5 := Lib.hid (show RowS (V4.setCell ⟨v3.heap.size, 30, none⟩ (.slice t.bA t.rows.length t.bk)) v3.heap.size { t3 with bA := t.bA, bk := t.bk, rows := t.rows } from R4.out.s_rows)
      have Z5 := Lib.hid (show RowS (V4.setCell ⟨v3.heap.size, 30, none⟩ (.slice t.bA t.rows.length t.bk)) (w.heap.size + 1) zeroS from Z4.out.other (by omega))
      have H5 := Lib.hid (show Below w.heap.size w (V4.setCell ⟨v3.heap.size, 30, none⟩ (.slice t.bA t.rows.length t.bk)) from H4.out.setCell (by show w.heap.size ≤ v3.heap.size; omega) _)
      have O5 := Lib.hid (show OwnS (V4.setCell ⟨v3.heap.size, 30, none⟩ (.slice t.bA t.rows.length t.bk)) (w.heap.size + 2) { t3 with bA := t.bA, bk := t.bk, rows := t.rows } from by
        have h0 := own_resetM OV.out N4.out HVV.out (by omega)
        exact h0.only (S := fun i => i = v3.heap.size) (Only.cell_ V4 v3.heap.size 30 _ rfl) (fun i hi e => R4.out.apart h0 (e ▸ hi)))
      have D5 := Lib.hid (show ({ t3 with bA := t.bA, bk := t.bk, rows := t.rows } : ScrS).data = escD s.data 99 from by rw [HU.out, ← D2.out]; exact reset_dataM HD3.out (show t.data.w = _ by rw [D2.out]; exact EW.out) (show t.data.h = _ by rw [D2.out]; exact EH.out) (show t.data.lim = _ by rw [D2.out]; exact EL.out))
      obtain ⟨t5, ht5⟩ : ∃ t5 : ScrS, t5 = { t3 with bA := t.bA, bk := t.bk, rows := t.rows } := ⟨_, rfl⟩
      rw [← ht5] at R5 O5 D5
      clear ht5
      go_upto_region 27 with fail
      obtain ⟨V5, hV5⟩ : ∃ V5, V5 = V4.setCell ⟨v3.heap.size, 30, none⟩ (.slice t.bA t.rows.length t.bk) := ⟨_, rfl⟩
      rw [← hV5] at R5 Z5 H5 O5 ⊢
      clear hV5 t30 r30 rf
      have rowT5 : rowOf V5 v3.heap.size = scrA t5 := R5.out.of
      have rz5 : RowZ V5 (w.heap.size + 1) 31 := RowZ.of Z5.out.row 31 rfl
      have l5 : v3.heap.size < V5.heap.size := R5.out.lt
      go_wp2_with fail
      refine bodyPost_ret (v := .agg (scrA t5)) (res55 Tryz.results13 _ _ (w.heap.size + 1) _ (by simp) (Z5.out.row.setRow) rfl) rfl ⟨t5, rfl, ?_, ?_, ?_⟩
      · exact ((O5.out.row_ _ _ (by omega)).more (by omega))
      · rw [HF.out, D5.out]
      · exact below_setRow H5.out (by omega) _
    have HU := Lib.hid (show escD s.data z = s.data by unfold escD; rw [if_neg h68, if_neg h77, if_neg h69, if_neg h55, if_neg h56, if_neg h72, if_neg h99])
    clear HDN HUP
    go_wp2_with fail
    refine bodyPost_ret (v := .agg (scrA t)) (res55 Tryz.results13 _ _ (w.heap.size + 1) _ (by simp) (ZV.out.row.setRow) rfl) rfl ⟨t, rfl, ?_, ?_, ?_⟩
    · exact ((OV.out.row_ _ _ (by omega)).more (by omega))
    · rw [HF.out, D2.out, HU.out]
    · exact below_setRow HV.out (by omega) _
end Go.Proofs.YtfdbmhelcmifoaaGreat.Sc
