/- Words and lemmas, merged (once: ScEscM, ScEscS) -/
import Derived.Test.YtgnpgkkjcloghaaGreatKiM
set_option maxRecDepth 100000
set_option maxHeartbeats 3200000
set_option linter.unusedVariables false
namespace Go.Proofs.YtgnpgkkjcloghaaGreat.Sc
open Lib
open Go.RowKit Bytes Rows_ RowK Gr DOk Opq Attr
attribute [local go_sem ↓] Sc.exec_storeS Sc.exec_loadS
attribute [local go_sem] blkOf_ptr isHead_ptr aggN_agg setRow_alloc rowZ_at rowZ_past scrA_size one_scr rowOf_alloc_at rowOf_alloc_past
attribute [local go_sem] sa_w sa_h sa_mw sa_mh sa_M sa_aw sa_ah sa_A sa_onAlt sa_x sa_y sa_wrap sa_fg sa_bg sa_b sa_u sa_t sa_top sa_bot sa_noWrap sa_hide sa_sx sa_sy sa_sfg sa_sbg sa_sb sa_su sa_st sa_tabs sa_lim sa_rows
attribute [local go_sem] scr_at0 scr_at1 scr_at2 scr_at3 scr_at4 scr_at5 scr_at6 scr_at7 scr_at8 scr_at9 scr_at10 scr_at11 scr_at12 scr_at13 scr_at14 scr_at15 scr_at16 scr_at17 scr_at18 scr_at19 scr_at20 scr_at21 scr_at22 scr_at23 scr_at24 scr_at25 scr_at26 scr_at27 scr_at28 scr_at29 scr_at30
def savM (t : ScrS) : ScrS := { t with sx := t.x, sy := t.y, sfg := t.fg, sbg := t.bg, sb := t.b, su := t.u, st := t.t }
def bacM (t : ScrS) : ScrS := { t with x := t.sx, y := t.sy, fg := t.sfg, bg := t.sbg, b := t.sb, u := t.su, t := t.st, wrap := false }
theorem bacM_data (t : ScrS) : (bacM t).data = backD t.data := rfl
theorem l10Save_any (s : ScrS) (w : World) : Calls Tryz.prog 53 #[.agg (scrA s)] w fun e w' => e = .returned (.agg (scrA (savM s))) ∧ Below w.heap.size w w' := by
  have H0 := hid (((Below.refl w.heap.size w).alloc (Nat.le_refl _) (.cells (scrA s) 38)).alloc (by simp) (.cells (scrA zeroS) 38))
  have B0 := hid (show RowS ((w.alloc (.cells (scrA s) 38)).alloc (.cells (scrA zeroS) 38)) w.heap.size s from (RowS.new w s).alloc _)
  have Z0 := hid (show RowS ((w.alloc (.cells (scrA s) 38)).alloc (.cells (scrA zeroS) 38)) (w.heap.size + 1) zeroS from by have h := RowS.new (w.alloc (.cells (scrA s) 38)) zeroS; simpa using h)
  have hone0 : One #[.int .i64 0, .int .i64 0, .int .i64 0, .int .i64 0, .slice none 0 0, .int .i64 0, .int .i64 0, .slice none 0 0, .bool false, .int .i64 0, .int .i64 0, .bool false, .int .i64 0, .int .i64 0, .bool false, .bool false, .bool false, .int .i64 0, .int .i64 0, .bool false, .bool false, .int .i64 0, .int .i64 0, .int .i64 0, .int .i64 0, .bool false, .bool false, .bool false, .slice none 0 0, .int .i64 0, .slice none 0 0] := one_scr zeroS
  go_enter Tryz.func53, Tryz.ntmps53
  go_upto_region 1 with fail
  obtain ⟨V, hV⟩ : ∃ V, V = (w.alloc (.cells (scrA s) 38)).alloc (.cells (scrA zeroS) 38) := ⟨_, rfl⟩
  have HV : (w.alloc (.cells (scrA s) 38)).alloc (.cells #[.int .i64 0, .int .i64 0, .int .i64 0, .int .i64 0, .slice none 0 0, .int .i64 0, .int .i64 0, .slice none 0 0, .bool false, .int .i64 0, .int .i64 0, .bool false, .int .i64 0, .int .i64 0, .bool false, .bool false, .bool false, .int .i64 0, .int .i64 0, .bool false, .bool false, .int .i64 0, .int .i64 0, .int .i64 0, .int .i64 0, .bool false, .bool false, .bool false, .slice none 0 0, .int .i64 0, .slice none 0 0] 38) = V := hV.symm
  rw [HV]
  rw [← hV] at H0 B0 Z0
  clear HV hV
  have hf := B0.out.free
  have k9 : V.cell? ⟨w.heap.size, 9, none⟩ = some (.int .i64 s.x) := B0.out.cell 9
  have k10 : V.cell? ⟨w.heap.size, 10, none⟩ = some (.int .i64 s.y) := B0.out.cell 10
  have k12 : V.cell? ⟨w.heap.size, 12, none⟩ = some (.int .i64 s.fg) := B0.out.cell 12
  have k13 : V.cell? ⟨w.heap.size, 13, none⟩ = some (.int .i64 s.bg) := B0.out.cell 13
  have k14 : V.cell? ⟨w.heap.size, 14, none⟩ = some (.bool s.b) := B0.out.cell 14
  have k15 : V.cell? ⟨w.heap.size, 15, none⟩ = some (.bool s.u) := B0.out.cell 15
  have k16 : V.cell? ⟨w.heap.size, 16, none⟩ = some (.bool s.t) := B0.out.cell 16
  have k21 : V.cell? ⟨w.heap.size, 21, none⟩ = some (.int .i64 s.sx) := B0.out.cell 21
  have k22 : V.cell? ⟨w.heap.size, 22, none⟩ = some (.int .i64 s.sy) := B0.out.cell 22
  have k23 : V.cell? ⟨w.heap.size, 23, none⟩ = some (.int .i64 s.sfg) := B0.out.cell 23
  have k24 : V.cell? ⟨w.heap.size, 24, none⟩ = some (.int .i64 s.sbg) := B0.out.cell 24
  have k25 : V.cell? ⟨w.heap.size, 25, none⟩ = some (.bool s.sb) := B0.out.cell 25
  have k26 : V.cell? ⟨w.heap.size, 26, none⟩ = some (.bool s.su) := B0.out.cell 26
  have k27 : V.cell? ⟨w.heap.size, 27, none⟩ = some (.bool s.st) := B0.out.cell 27
  have HR := hid (show RowS (((((((V.setCell ⟨w.heap.size, 21, none⟩ (.int .i64 s.x)).setCell ⟨w.heap.size, 22, none⟩ (.int .i64 s.y)).setCell ⟨w.heap.size, 23, none⟩ (.int .i64 s.fg)).setCell ⟨w.heap.size, 24, none⟩ (.int .i64 s.bg)).setCell ⟨w.heap.size, 25, none⟩ (.bool s.b)).setCell ⟨w.heap.size, 26, none⟩ (.bool s.u)).setCell ⟨w.heap.size, 27, none⟩ (.bool s.t)) w.heap.size (savM s) from (RowS.s_st (z := s.t) (RowS.s_su (z := s.u) (RowS.s_sb (z := s.b) (RowS.s_sbg (z := s.bg) (RowS.s_sfg (z := s.fg) (RowS.s_sy (z := s.y) (RowS.s_sx (z := s.x) B0.out))))))))
  have HB := hid (show Below w.heap.size w (((((((V.setCell ⟨w.heap.size, 21, none⟩ (.int .i64 s.x)).setCell ⟨w.heap.size, 22, none⟩ (.int .i64 s.y)).setCell ⟨w.heap.size, 23, none⟩ (.int .i64 s.fg)).setCell ⟨w.heap.size, 24, none⟩ (.int .i64 s.bg)).setCell ⟨w.heap.size, 25, none⟩ (.bool s.b)).setCell ⟨w.heap.size, 26, none⟩ (.bool s.u)).setCell ⟨w.heap.size, 27, none⟩ (.bool s.t)) from (((((((H0.out.setCell (Nat.le_refl _) _).setCell (Nat.le_refl _) _).setCell (Nat.le_refl _) _).setCell (Nat.le_refl _) _).setCell (Nat.le_refl _) _).setCell (Nat.le_refl _) _).setCell (Nat.le_refl _) _))
  have HZ := hid (show RowS (((((((V.setCell ⟨w.heap.size, 21, none⟩ (.int .i64 s.x)).setCell ⟨w.heap.size, 22, none⟩ (.int .i64 s.y)).setCell ⟨w.heap.size, 23, none⟩ (.int .i64 s.fg)).setCell ⟨w.heap.size, 24, none⟩ (.int .i64 s.bg)).setCell ⟨w.heap.size, 25, none⟩ (.bool s.b)).setCell ⟨w.heap.size, 26, none⟩ (.bool s.u)).setCell ⟨w.heap.size, 27, none⟩ (.bool s.t)) (w.heap.size + 1) zeroS from (RowS.other (RowS.other (RowS.other (RowS.other (RowS.other (RowS.other (RowS.other Z0.out (by omega)) (by omega)) (by omega)) (by omega)) (by omega)) (by omega)) (by omega)))
  go_upto_region 4 with fail
  obtain ⟨V2, hV2⟩ : ∃ V2, V2 = (((((((V.setCell ⟨w.heap.size, 21, none⟩ (.int .i64 s.x)).setCell ⟨w.heap.size, 22, none⟩ (.int .i64 s.y)).setCell ⟨w.heap.size, 23, none⟩ (.int .i64 s.fg)).setCell ⟨w.heap.size, 24, none⟩ (.int .i64 s.bg)).setCell ⟨w.heap.size, 25, none⟩ (.bool s.b)).setCell ⟨w.heap.size, 26, none⟩ (.bool s.u)).setCell ⟨w.heap.size, 27, none⟩ (.bool s.t)) := ⟨_, rfl⟩
  rw [← hV2]
  rw [← hV2] at HR HB HZ
  clear hV2 hf k9 k10 k12 k13 k14 k15 k16 k21 k22 k23 k24 k25 k26 k27 H0 B0 Z0
  have rowS : rowOf V2 w.heap.size = scrA (savM s) := HR.out.of
  have rz : RowZ V2 (w.heap.size + 1) 31 := RowZ.of HZ.out.row 31 rfl
  have l1 : w.heap.size < V2.heap.size := HR.out.lt
  go_wp2_with fail
  refine bodyPost_ret (v := .agg (scrA (savM s))) (res55 Tryz.results53 _ _ (w.heap.size + 1) _ (by simp) (HZ.out.row.setRow) rfl) rfl ⟨rfl, ?_⟩
  exact below_setRow HB.out (by omega) _
theorem l10Back_any (s : ScrS) (w : World) : Calls Tryz.prog 55 #[.agg (scrA s)] w fun e w' => e = .returned (.agg (scrA (bacM s))) ∧ Below w.heap.size w w' := by
  have H0 := hid (((Below.refl w.heap.size w).alloc (Nat.le_refl _) (.cells (scrA s) 38)).alloc (by simp) (.cells (scrA zeroS) 38))
  have B0 := hid (show RowS ((w.alloc (.cells (scrA s) 38)).alloc (.cells (scrA zeroS) 38)) w.heap.size s from (RowS.new w s).alloc _)
  have Z0 := hid (show RowS ((w.alloc (.cells (scrA s) 38)).alloc (.cells (scrA zeroS) 38)) (w.heap.size + 1) zeroS from by have h := RowS.new (w.alloc (.cells (scrA s) 38)) zeroS; simpa using h)
  have hone0 : One #[.int .i64 0, .int .i64 0, .int .i64 0, .int .i64 0, .slice none 0 0, .int .i64 0, .int .i64 0, .slice none 0 0, .bool false, .int .i64 0, .int .i64 0, .bool false, .int .i64 0, .int .i64 0, .bool false, .bool false, .bool false, .int .i64 0, .int .i64 0, .bool false, .bool false, .int .i64 0, .int .i64 0, .int .i64 0, .int .i64 0, .bool false, .bool false, .bool false, .slice none 0 0, .int .i64 0, .slice none 0 0] := one_scr zeroS
  go_enter Tryz.func55, Tryz.ntmps55
  go_upto_region 1 with fail
  obtain ⟨V, hV⟩ : ∃ V, V = (w.alloc (.cells (scrA s) 38)).alloc (.cells (scrA zeroS) 38) := ⟨_, rfl⟩
  have HV : (w.alloc (.cells (scrA s) 38)).alloc (.cells #[.int .i64 0, .int .i64 0, .int .i64 0, .int .i64 0, .slice none 0 0, .int .i64 0, .int .i64 0, .slice none 0 0, .bool false, .int .i64 0, .int .i64 0, .bool false, .int .i64 0, .int .i64 0, .bool false, .bool false, .bool false, .int .i64 0, .int .i64 0, .bool false, .bool false, .int .i64 0, .int .i64 0, .int .i64 0, .int .i64 0, .bool false, .bool false, .bool false, .slice none 0 0, .int .i64 0, .slice none 0 0] 38) = V := hV.symm
  rw [HV]
  rw [← hV] at H0 B0 Z0
  clear HV hV
  have hf := B0.out.free
  have k9 : V.cell? ⟨w.heap.size, 9, none⟩ = some (.int .i64 s.x) := B0.out.cell 9
  have k10 : V.cell? ⟨w.heap.size, 10, none⟩ = some (.int .i64 s.y) := B0.out.cell 10
  have k11 : V.cell? ⟨w.heap.size, 11, none⟩ = some (.bool s.wrap) := B0.out.cell 11
  have k12 : V.cell? ⟨w.heap.size, 12, none⟩ = some (.int .i64 s.fg) := B0.out.cell 12
  have k13 : V.cell? ⟨w.heap.size, 13, none⟩ = some (.int .i64 s.bg) := B0.out.cell 13
  have k14 : V.cell? ⟨w.heap.size, 14, none⟩ = some (.bool s.b) := B0.out.cell 14
  have k15 : V.cell? ⟨w.heap.size, 15, none⟩ = some (.bool s.u) := B0.out.cell 15
  have k16 : V.cell? ⟨w.heap.size, 16, none⟩ = some (.bool s.t) := B0.out.cell 16
  have k21 : V.cell? ⟨w.heap.size, 21, none⟩ = some (.int .i64 s.sx) := B0.out.cell 21
  have k22 : V.cell? ⟨w.heap.size, 22, none⟩ = some (.int .i64 s.sy) := B0.out.cell 22
  have k23 : V.cell? ⟨w.heap.size, 23, none⟩ = some (.int .i64 s.sfg) := B0.out.cell 23
  have k24 : V.cell? ⟨w.heap.size, 24, none⟩ = some (.int .i64 s.sbg) := B0.out.cell 24
  have k25 : V.cell? ⟨w.heap.size, 25, none⟩ = some (.bool s.sb) := B0.out.cell 25
  have k26 : V.cell? ⟨w.heap.size, 26, none⟩ = some (.bool s.su) := B0.out.cell 26
  have k27 : V.cell? ⟨w.heap.size, 27, none⟩ = some (.bool s.st) := B0.out.cell 27
  have HR := hid (show RowS ((((((((V.setCell ⟨w.heap.size, 9, none⟩ (.int .i64 s.sx)).setCell ⟨w.heap.size, 10, none⟩ (.int .i64 s.sy)).setCell ⟨w.heap.size, 12, none⟩ (.int .i64 s.sfg)).setCell ⟨w.heap.size, 13, none⟩ (.int .i64 s.sbg)).setCell ⟨w.heap.size, 14, none⟩ (.bool s.sb)).setCell ⟨w.heap.size, 15, none⟩ (.bool s.su)).setCell ⟨w.heap.size, 16, none⟩ (.bool s.st)).setCell ⟨w.heap.size, 11, none⟩ (.bool false)) w.heap.size (bacM s) from (RowS.s_wrap (z := false) (RowS.s_t (z := s.st) (RowS.s_u (z := s.su) (RowS.s_b (z := s.sb) (RowS.s_bg (z := s.sbg) (RowS.s_fg (z := s.sfg) (RowS.s_y (z := s.sy) (RowS.s_x (z := s.sx) B0.out)))))))))
  have HB := hid (show Below w.heap.size w ((((((((V.setCell ⟨w.heap.size, 9, none⟩ (.int .i64 s.sx)).setCell ⟨w.heap.size, 10, none⟩ (.int .i64 s.sy)).setCell ⟨w.heap.size, 12, none⟩ (.int .i64 s.sfg)).setCell ⟨w.heap.size, 13, none⟩ (.int .i64 s.sbg)).setCell ⟨w.heap.size, 14, none⟩ (.bool s.sb)).setCell ⟨w.heap.size, 15, none⟩ (.bool s.su)).setCell ⟨w.heap.size, 16, none⟩ (.bool s.st)).setCell ⟨w.heap.size, 11, none⟩ (.bool false)) from ((((((((H0.out.setCell (Nat.le_refl _) _).setCell (Nat.le_refl _) _).setCell (Nat.le_refl _) _).setCell (Nat.le_refl _) _).setCell (Nat.le_refl _) _).setCell (Nat.le_refl _) _).setCell (Nat.le_refl _) _).setCell (Nat.le_refl _) _))
  have HZ := hid (show RowS ((((((((V.setCell ⟨w.heap.size, 9, none⟩ (.int .i64 s.sx)).setCell ⟨w.heap.size, 10, none⟩ (.int .i64 s.sy)).setCell ⟨w.heap.size, 12, none⟩ (.int .i64 s.sfg)).setCell ⟨w.heap.size, 13, none⟩ (.int .i64 s.sbg)).setCell ⟨w.heap.size, 14, none⟩ (.bool s.sb)).setCell ⟨w.heap.size, 15, none⟩ (.bool s.su)).setCell ⟨w.heap.size, 16, none⟩ (.bool s.st)).setCell ⟨w.heap.size, 11, none⟩ (.bool false)) (w.heap.size + 1) zeroS from (RowS.other (RowS.other (RowS.other (RowS.other (RowS.other (RowS.other (RowS.other (RowS.other Z0.out (by omega)) (by omega)) (by omega)) (by omega)) (by omega)) (by omega)) (by omega)) (by omega)))
  go_upto_region 5 with fail
  obtain ⟨V2, hV2⟩ : ∃ V2, V2 = ((((((((V.setCell ⟨w.heap.size, 9, none⟩ (.int .i64 s.sx)).setCell ⟨w.heap.size, 10, none⟩ (.int .i64 s.sy)).setCell ⟨w.heap.size, 12, none⟩ (.int .i64 s.sfg)).setCell ⟨w.heap.size, 13, none⟩ (.int .i64 s.sbg)).setCell ⟨w.heap.size, 14, none⟩ (.bool s.sb)).setCell ⟨w.heap.size, 15, none⟩ (.bool s.su)).setCell ⟨w.heap.size, 16, none⟩ (.bool s.st)).setCell ⟨w.heap.size, 11, none⟩ (.bool false)) := ⟨_, rfl⟩
  rw [← hV2]
  rw [← hV2] at HR HB HZ
  clear hV2 hf k9 k10 k11 k12 k13 k14 k15 k16 k21 k22 k23 k24 k25 k26 k27 H0 B0 Z0
  have rowS : rowOf V2 w.heap.size = scrA (bacM s) := HR.out.of
  have rz : RowZ V2 (w.heap.size + 1) 31 := RowZ.of HZ.out.row 31 rfl
  have l1 : w.heap.size < V2.heap.size := HR.out.lt
  go_wp2_with fail
  refine bodyPost_ret (v := .agg (scrA (bacM s))) (res55 Tryz.results55 _ _ (w.heap.size + 1) _ (by simp) (HZ.out.row.setRow) rfl) rfl ⟨rfl, ?_⟩
  exact below_setRow HB.out (by omega) _
end Go.Proofs.YtgnpgkkjcloghaaGreat.Sc
namespace Go.Proofs.YtgnpgkkjcloghaaGreat.Sc
open Lib
open Go.RowKit Bytes Rows_ RowK Gr DOk Opq Attr
attribute [local go_sem ↓] Sc.exec_storeS Sc.exec_loadS
attribute [local go_sem] rowOf_drew blkOf_ptr isHead_ptr aggN_agg setRow_alloc rowZ_at rowZ_past scrA_size one_scr rowOf_alloc_at rowOf_alloc_past
attribute [local go_sem] sa_w sa_h sa_mw sa_mh sa_M sa_aw sa_ah sa_A sa_onAlt sa_x sa_y sa_wrap sa_fg sa_bg sa_b sa_u sa_t sa_top sa_bot sa_noWrap sa_hide sa_sx sa_sy sa_sfg sa_sbg sa_sb sa_su sa_st sa_tabs sa_lim sa_rows
attribute [local go_sem] scr_at0 scr_at1 scr_at2 scr_at3 scr_at4 scr_at5 scr_at6 scr_at7 scr_at8 scr_at9 scr_at10 scr_at11 scr_at12 scr_at13 scr_at14 scr_at15 scr_at16 scr_at17 scr_at18 scr_at19 scr_at20 scr_at21 scr_at22 scr_at23 scr_at24 scr_at25 scr_at26 scr_at27 scr_at28 scr_at29 scr_at30
end Go.Proofs.YtgnpgkkjcloghaaGreat.Sc
