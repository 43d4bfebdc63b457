/- Words and lemmas, merged (once: ScClosed, ScMove) -/
import Derived.Test.YthlpchojlddnbaaKiN
import Derived.Test.YthlpchojlddnbaaScNewB
import Derived.Deep.RegionHeld3
import Derived.Deep.Cut
import Derived.Deep.CutRange
import Derived.Deep.DeepCutAuto
import Derived.Test.YthlpchojlddnbaaKiD
import Derived.Test.YthlpchojlddnbaaGrSlide
namespace Go.Proofs.Ythlpchojlddnbaa.Sc
open Go.RowKit Go.Proofs.Ythlpchojlddnbaa.Bytes Go.Proofs.Ythlpchojlddnbaa.Rows_ Go.Proofs.Ythlpchojlddnbaa.RowK Go.Proofs.Ythlpchojlddnbaa.Gr Go.Proofs.Ythlpchojlddnbaa.DOk Go.Proofs.Ythlpchojlddnbaa.Opq Go.Proofs.Ythlpchojlddnbaa.Attr
set_option linter.unusedVariables false
attribute [local go_sem ↓] Sc.exec_storeS Sc.exec_loadS
attribute [local go_sem] blkOf_ptr isHead_ptr aggN_agg setRow_alloc rowZ_at rowZ_past scrA_size nsA_size one_scr rowOf_alloc_at rowOf_alloc_past rowOf_drew ns_pre
attribute [local go_sem] sa_w sa_h sa_mw sa_mh sa_M sa_aw sa_ah sa_A sa_onAlt sa_x sa_y sa_wrap sa_fg sa_bg sa_b sa_u sa_t sa_top sa_bot sa_noWrap sa_hide sa_sx sa_sy sa_sfg sa_sbg sa_sb sa_su sa_st sa_tabs sa_lim sa_rows
attribute [local go_sem] ns_w ns_h ns_mw ns_mh ns_M ns_aw ns_ah ns_A ns_onAlt ns_x ns_y ns_wrap ns_fg ns_bg ns_b ns_u ns_t ns_top ns_bot ns_noWrap ns_hide ns_sx ns_sy ns_sfg ns_sbg ns_sb ns_su ns_st ns_tabs ns_lim ns_rows
attribute [local go_sem] ns_at0 ns_at1 ns_at2 ns_at3 ns_at4 ns_at5 ns_at6 ns_at7 ns_at8 ns_at9 ns_at10 ns_at11 ns_at12 ns_at13 ns_at14 ns_at15 ns_at16 ns_at17 ns_at18 ns_at19 ns_at20 ns_at21 ns_at22 ns_at23 ns_at24 ns_at25 ns_at26 ns_at27 ns_at28 ns_at29 ns_at30 ns_at31 ns_at32 ns_at33 ns_at34 ns_at35 ns_at36 ns_at37
attribute [local go_sem] scr_at0 scr_at1 scr_at2 scr_at3 scr_at4 scr_at5 scr_at6 scr_at7 scr_at8 scr_at9 scr_at10 scr_at11 scr_at12 scr_at13 scr_at14 scr_at15 scr_at16 scr_at17 scr_at18 scr_at19 scr_at20 scr_at21 scr_at22 scr_at23 scr_at24 scr_at25 scr_at26 scr_at27 scr_at28 scr_at29 scr_at30
attribute [local go_sem ↓] Sc.exec_loadSP
set_option maxRecDepth 100000 in
set_option maxHeartbeats 3200000 in
theorem closed_any (t : ScrS) (g : Nat) (w : World) (hg : RowN w g t) : Calls Try.prog 88 #[.pointer (some ⟨g, 0, none⟩)] w fun e w' => e = .returned (.agg (scrA t)) ∧ Below w.heap.size w w' := by
  have hgl : g < w.heap.size := hg.lt
  have row0 := hg.of
  have HG := Lib.hid hg
  have hone0 := one_scr zeroS
  have H1 := Lib.hid (((Below.refl w.heap.size w).alloc (Nat.le_refl _) (.cells (scrA zeroS) 53)).alloc (by simp) (.cells (scrA (zS t)) 53))
  have HN1 := Lib.hid ((HG.out.alloc (.cells (scrA zeroS) 53)).alloc (.cells (scrA (zS t)) 53))
  have HR1 := Lib.hid (show RowS ((w.alloc (.cells (scrA zeroS) 53)).alloc (.cells (scrA (zS t)) 53)) w.heap.size zeroS from (RowS.new w zeroS).alloc _)
  have HR2 := Lib.hid (show RowS ((w.alloc (.cells (scrA zeroS) 53)).alloc (.cells (scrA (zS t)) 53)) (w.heap.size + 1) (zS t) from by have h := RowS.new (w.alloc (.cells (scrA zeroS) 53)) (zS t); simpa using h)
  clear hg
  go_enter Try.func88, Try.ntmps88
  go_upto_region 2 with fail
  obtain ⟨w1, hw1⟩ : ∃ v, v = (w.alloc (.cells (scrA zeroS) 53)).alloc (.cells (scrA (zS t)) 53) := ⟨_, rfl⟩
  have HV : (w.alloc (.cells #[.int .i64 0, .int .i64 0, .int .i64 0, .int .i64 0, .slice none 0 0, .int .i64 0, .int .i64 0, .slice none 0 0, .bool false, .int .i64 0, .int .i64 0, .bool false, .int .i64 0, .int .i64 0, .bool false, .bool false, .bool false, .int .i64 0, .int .i64 0, .bool false, .bool false, .int .i64 0, .int .i64 0, .int .i64 0, .int .i64 0, .bool false, .bool false, .bool false, .slice none 0 0, .int .i64 0, .slice none 0 0] 53)).alloc (.cells (scrA (zS t)) 53) = w1 := hw1.symm
  rw [HV]
  rw [← hw1] at H1 HN1 HR1 HR2
  clear HV hw1
  have hne : g ≠ w.heap.size + 1 := by omega
  have hne' : w.heap.size + 1 ≠ g := by omega
  have z1 : w.heap.size + 1 < w1.heap.size := HR2.out.lt
  have g31 : w1.cell? ⟨g, 31, none⟩ = some (.int .i64 t.mw) := HN1.out.cell 31
  have g32 : w1.cell? ⟨g, 32, none⟩ = some (.int .i64 t.mh) := HN1.out.cell 32
  have g33 : w1.cell? ⟨g, 33, none⟩ = some (.slice t.M.A t.M.cs.length t.M.c) := HN1.out.cell 33
  have g34 : w1.cell? ⟨g, 34, none⟩ = some (.slice t.bA t.rows.length t.bk) := HN1.out.cell 34
  have g35 : w1.cell? ⟨g, 35, none⟩ = some (.int .i64 t.aw) := HN1.out.cell 35
  have g36 : w1.cell? ⟨g, 36, none⟩ = some (.int .i64 t.ah) := HN1.out.cell 36
  have g37 : w1.cell? ⟨g, 37, none⟩ = some (.slice t.A.A t.A.cs.length t.A.c) := HN1.out.cell 37
  have c2 : w1.cell? ⟨w.heap.size + 1, 2, none⟩ = some (.int .i64 0) := HR2.out.cell 2
  have c3 : w1.cell? ⟨w.heap.size + 1, 3, none⟩ = some (.int .i64 0) := HR2.out.cell 3
  have c4 : w1.cell? ⟨w.heap.size + 1, 4, none⟩ = some (.slice none 0 0) := HR2.out.cell 4
  have c5 : w1.cell? ⟨w.heap.size + 1, 5, none⟩ = some (.int .i64 0) := HR2.out.cell 5
  have c6 : w1.cell? ⟨w.heap.size + 1, 6, none⟩ = some (.int .i64 0) := HR2.out.cell 6
  have c7 : w1.cell? ⟨w.heap.size + 1, 7, none⟩ = some (.slice none 0 0) := HR2.out.cell 7
  have c30 : w1.cell? ⟨w.heap.size + 1, 30, none⟩ = some (.slice none 0 0) := HR2.out.cell 30
  have hf := HR2.out.free
  clear row0
  go_region_held3 (fun w' => w'.cell? ⟨g, 31, none⟩ = some (.int .i64 t.mw) ∧ w'.cell? ⟨g, 32, none⟩ = some (.int .i64 t.mh) ∧ w'.cell? ⟨g, 33, none⟩ = some (.slice t.M.A t.M.cs.length t.M.c) ∧ w'.cell? ⟨g, 34, none⟩ = some (.slice t.bA t.rows.length t.bk) ∧ w'.cell? ⟨g, 35, none⟩ = some (.int .i64 t.aw) ∧ w'.cell? ⟨g, 36, none⟩ = some (.int .i64 t.ah) ∧ w'.cell? ⟨g, 37, none⟩ = some (.slice t.A.A t.A.cs.length t.A.c)) (go_keep) (fail)
  have h1 := HR2.out.s_mw (z := t.mw)
  have h2 := h1.s_mh (z := t.mh)
  have h3 := h2.s_M (z := t.M)
  have h4 := h3.s_aw (z := t.aw)
  have h5 := h4.s_ah (z := t.ah)
  have h6 := h5.s_A (z := t.A)
  have h7 := h6.s_rows (A := t.bA) (c := t.bk) (rs := t.rows)
  have HR3 := Lib.hid (RowS.drew (show RowS (((((((w1.setCell ⟨w.heap.size + 1, 2, none⟩ (.int .i64 t.mw)).setCell ⟨w.heap.size + 1, 3, none⟩ (.int .i64 t.mh)).setCell ⟨w.heap.size + 1, 4, none⟩ (.slice t.M.A t.M.cs.length t.M.c)).setCell ⟨w.heap.size + 1, 5, none⟩ (.int .i64 t.aw)).setCell ⟨w.heap.size + 1, 6, none⟩ (.int .i64 t.ah)).setCell ⟨w.heap.size + 1, 7, none⟩ (.slice t.A.A t.A.cs.length t.A.c)).setCell ⟨w.heap.size + 1, 30, none⟩ (.slice t.bA t.rows.length t.bk)) (w.heap.size + 1) t from h7))
  clear h1 h2 h3 h4 h5 h6 h7
  have HB3 := Lib.hid (Below.drew (show Below w.heap.size w (((((((w1.setCell ⟨w.heap.size + 1, 2, none⟩ (.int .i64 t.mw)).setCell ⟨w.heap.size + 1, 3, none⟩ (.int .i64 t.mh)).setCell ⟨w.heap.size + 1, 4, none⟩ (.slice t.M.A t.M.cs.length t.M.c)).setCell ⟨w.heap.size + 1, 5, none⟩ (.int .i64 t.aw)).setCell ⟨w.heap.size + 1, 6, none⟩ (.int .i64 t.ah)).setCell ⟨w.heap.size + 1, 7, none⟩ (.slice t.A.A t.A.cs.length t.A.c)).setCell ⟨w.heap.size + 1, 30, none⟩ (.slice t.bA t.rows.length t.bk)) from (((((((H1.out.setCell (by simp) _).setCell (by simp) _).setCell (by simp) _).setCell (by simp) _).setCell (by simp) _).setCell (by simp) _).setCell (by simp) _)))
  have HZ3 := Lib.hid (RowS.drew (show RowS (((((((w1.setCell ⟨w.heap.size + 1, 2, none⟩ (.int .i64 t.mw)).setCell ⟨w.heap.size + 1, 3, none⟩ (.int .i64 t.mh)).setCell ⟨w.heap.size + 1, 4, none⟩ (.slice t.M.A t.M.cs.length t.M.c)).setCell ⟨w.heap.size + 1, 5, none⟩ (.int .i64 t.aw)).setCell ⟨w.heap.size + 1, 6, none⟩ (.int .i64 t.ah)).setCell ⟨w.heap.size + 1, 7, none⟩ (.slice t.A.A t.A.cs.length t.A.c)).setCell ⟨w.heap.size + 1, 30, none⟩ (.slice t.bA t.rows.length t.bk)) w.heap.size zeroS from (((((((HR1.out.other (by simp)).other (by simp)).other (by simp)).other (by simp)).other (by simp)).other (by simp)).other (by simp))))
  obtain ⟨w5, hw5⟩ : ∃ v, v = (((((((w1.setCell ⟨w.heap.size + 1, 2, none⟩ (.int .i64 t.mw)).setCell ⟨w.heap.size + 1, 3, none⟩ (.int .i64 t.mh)).setCell ⟨w.heap.size + 1, 4, none⟩ (.slice t.M.A t.M.cs.length t.M.c)).setCell ⟨w.heap.size + 1, 5, none⟩ (.int .i64 t.aw)).setCell ⟨w.heap.size + 1, 6, none⟩ (.int .i64 t.ah)).setCell ⟨w.heap.size + 1, 7, none⟩ (.slice t.A.A t.A.cs.length t.A.c)).setCell ⟨w.heap.size + 1, 30, none⟩ (.slice t.bA t.rows.length t.bk)).drew := ⟨_, rfl⟩
  have HV5 : (((((((w1.setCell ⟨w.heap.size + 1, 2, none⟩ (.int .i64 t.mw)).setCell ⟨w.heap.size + 1, 3, none⟩ (.int .i64 t.mh)).setCell ⟨w.heap.size + 1, 4, none⟩ (.slice t.M.A t.M.cs.length t.M.c)).setCell ⟨w.heap.size + 1, 5, none⟩ (.int .i64 t.aw)).setCell ⟨w.heap.size + 1, 6, none⟩ (.int .i64 t.ah)).setCell ⟨w.heap.size + 1, 7, none⟩ (.slice t.A.A t.A.cs.length t.A.c)).setCell ⟨w.heap.size + 1, 30, none⟩ (.slice t.bA t.rows.length t.bk)).drew = w5 := hw5.symm
  rw [HV5]
  rw [← hw5] at HR3 HB3 HZ3
  clear HV5 hw5
  have row3 := HR3.out.of
  have rz3 : RowZ w5 w.heap.size 31 := RowZ.of HZ3.out.row 31 rfl
  clear c2 c3 c4 c5 c6 c7 c30 hf g31 g32 g33 g34 g35 g36 g37 hne hne'
  go_wp2_with fail
  refine bodyPost_ret (v := .agg (scrA t)) (res55 Try.results88 _ _ w.heap.size _ (by simp) (HZ3.out.row.setRow) rfl) rfl ⟨rfl, ?_⟩
  exact below_setRow HB3.out (Nat.le_refl _) _
end Go.Proofs.Ythlpchojlddnbaa.Sc
namespace Go.Proofs.Ythlpchojlddnbaa.Sc
open Go.RowKit Go.Proofs.Ythlpchojlddnbaa.Bytes Go.Proofs.Ythlpchojlddnbaa.Rows_ Go.Proofs.Ythlpchojlddnbaa.RowK Go.Proofs.Ythlpchojlddnbaa.Gr Go.Proofs.Ythlpchojlddnbaa.DOk Go.Proofs.Ythlpchojlddnbaa.Opq Go.Proofs.Ythlpchojlddnbaa.Attr
set_option linter.unusedVariables false
attribute [local go_sem ↓] Sc.exec_storeS Sc.exec_loadS
attribute [local go_sem] blkOf_ptr isHead_ptr aggN_agg setRow_alloc rowZ_at rowZ_past scrA_size nsA_size one_scr rowOf_alloc_at rowOf_alloc_past rowOf_drew ns_pre
attribute [local go_sem] sa_w sa_h sa_mw sa_mh sa_M sa_aw sa_ah sa_A sa_onAlt sa_x sa_y sa_wrap sa_fg sa_bg sa_b sa_u sa_t sa_top sa_bot sa_noWrap sa_hide sa_sx sa_sy sa_sfg sa_sbg sa_sb sa_su sa_st sa_tabs sa_lim sa_rows
attribute [local go_sem] ns_w ns_h ns_mw ns_mh ns_M ns_aw ns_ah ns_A ns_onAlt ns_x ns_y ns_wrap ns_fg ns_bg ns_b ns_u ns_t ns_top ns_bot ns_noWrap ns_hide ns_sx ns_sy ns_sfg ns_sbg ns_sb ns_su ns_st ns_tabs ns_lim ns_rows
attribute [local go_sem] ns_at0 ns_at1 ns_at2 ns_at3 ns_at4 ns_at5 ns_at6 ns_at7 ns_at8 ns_at9 ns_at10 ns_at11 ns_at12 ns_at13 ns_at14 ns_at15 ns_at16 ns_at17 ns_at18 ns_at19 ns_at20 ns_at21 ns_at22 ns_at23 ns_at24 ns_at25 ns_at26 ns_at27 ns_at28 ns_at29 ns_at30 ns_at31 ns_at32 ns_at33 ns_at34 ns_at35 ns_at36 ns_at37
attribute [local go_sem] scr_at0 scr_at1 scr_at2 scr_at3 scr_at4 scr_at5 scr_at6 scr_at7 scr_at8 scr_at9 scr_at10 scr_at11 scr_at12 scr_at13 scr_at14 scr_at15 scr_at16 scr_at17 scr_at18 scr_at19 scr_at20 scr_at21 scr_at22 scr_at23 scr_at24 scr_at25 scr_at26 scr_at27 scr_at28 scr_at29 scr_at30
set_option maxRecDepth 100000 in
set_option maxHeartbeats 3200000 in
theorem moveTo_any (t : ScrS) (g : Nat) (x y : Int) (w : World) (hg : RowN w g t) (w1 : 1 ≤ t.w) (w2 : t.w ≤ 120) (h1 : 1 ≤ t.h) (h2 : t.h ≤ 120) :
    Calls Try.prog 106 #[.pointer (some ⟨g, 0, none⟩), .int .i64 x, .int .i64 y] w fun e w' => e = .returned (.tuple #[]) ∧ RowN w' g { t with x := clampD x (t.w - 1), y := clampD y (t.h - 1), wrap := false } ∧ Only (fun i => i = g) w w' := by
  have HG := Lib.hid hg
  have k0 : w.cell? ⟨g, 0, none⟩ = some (.int .i64 t.w) := hg.cell 0
  have k1 : w.cell? ⟨g, 1, none⟩ = some (.int .i64 t.h) := hg.cell 1
  have k9 : w.cell? ⟨g, 9, none⟩ = some (.int .i64 t.x) := hg.cell 9
  have k10 : w.cell? ⟨g, 10, none⟩ = some (.int .i64 t.y) := hg.cell 10
  have k11 : w.cell? ⟨g, 11, none⟩ = some (.bool t.wrap) := hg.cell 11
  have hf := hg.free
  clear hg
  go_enter Try.func106, Try.ntmps106
  go_wp2_with fail
  refine (clamp_anyG x 0 (t.w - 1) (by omega) _).mono ?_
  rintro e v ⟨rfl, rfl⟩
  go_wp2_with fail
  refine (clamp_anyG y 0 (t.h - 1) (by omega) _).mono ?_
  rintro e v ⟨rfl, rfl⟩
  go_wp2_with fail
  go_end0
  exact ⟨rfl, ((HG.out.s_x (z := clampD x (t.w - 1))).s_y (z := clampD y (t.h - 1))).s_wrap (z := false), ((Only.cell_ (S := fun i => i = g) _ g 9 _ rfl).trans (Only.cell_ (S := fun i => i = g) _ g 10 _ rfl)).trans (Only.cell_ (S := fun i => i = g) _ g 11 _ rfl)⟩
/-- what a method leaves of an open screen -/
def Mth (B g : Nat) (d : ScrD) (w : World) (e : Ending) (w' : World) : Prop := e = .returned (.tuple #[]) ∧ ∃ t, RowN w' g t ∧ OwnS w' B t ∧ t.data = d ∧ Below B w w'
end Go.Proofs.Ythlpchojlddnbaa.Sc

