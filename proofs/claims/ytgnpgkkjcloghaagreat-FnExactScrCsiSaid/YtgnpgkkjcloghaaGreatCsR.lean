/- What the model makes of a mode and of tab stops taken away. -/
import Derived.Test.YtgnpgkkjcloghaaGreatCsQ
set_option maxRecDepth 100000
set_option maxHeartbeats 3200000
set_option linter.unusedVariables false
namespace Go.Proofs.YtgnpgkkjcloghaaGreat.Sc
open Lib
open Go.RowKit Bytes Rows_ RowK Gr DOk Opq Attr
attribute [local go_sem ↓] Sc.exec_storeS Sc.exec_loadS
attribute [local go_sem] rowOf_drew blkOf_ptr isHead_ptr aggN_agg setRow_alloc rowZ_at rowZ_past scrA_size one_scr rowOf_alloc_at rowOf_alloc_past
attribute [local go_sem] sa_w sa_h sa_mw sa_mh sa_M sa_aw sa_ah sa_A sa_onAlt sa_x sa_y sa_wrap sa_fg sa_bg sa_b sa_u sa_t sa_top sa_bot sa_noWrap sa_hide sa_sx sa_sy sa_sfg sa_sbg sa_sb sa_su sa_st sa_tabs sa_lim sa_rows
attribute [local go_sem] scr_at0 scr_at1 scr_at2 scr_at3 scr_at4 scr_at5 scr_at6 scr_at7 scr_at8 scr_at9 scr_at10 scr_at11 scr_at12 scr_at13 scr_at14 scr_at15 scr_at16 scr_at17 scr_at18 scr_at19 scr_at20 scr_at21 scr_at22 scr_at23 scr_at24 scr_at25 scr_at26 scr_at27 scr_at28 scr_at29 scr_at30
theorem l10Mode_any (s : ScrS) (B : Nat) (m : Int) (on : Bool) (w : World) (hB : B ≤ w.heap.size) (ho : OwnS w B s) (hok : okD s.data = true) :
    Calls Tryz.prog 20 #[.agg (scrA s), .int .i64 m, .bool on] w (AnsP B (modeD s.data m on) w) := by
  have hone0 : One #[.int .i64 0, .int .i64 0, .int .i64 0, .int .i64 0, .slice none 0 0, .int .i64 0, .int .i64 0, .slice none 0 0, .bool false, .int .i64 0, .int .i64 0, .bool false, .int .i64 0, .int .i64 0, .bool false, .bool false, .bool false, .int .i64 0, .int .i64 0, .bool false, .bool false, .int .i64 0, .int .i64 0, .int .i64 0, .int .i64 0, .bool false, .bool false, .bool false, .slice none 0 0, .int .i64 0, .slice none 0 0] := one_scr zeroS
  obtain ⟨W1, hW⟩ : ∃ W, W = (w.alloc (.cells (scrA s) 38)).alloc (.cells #[.int .i64 0, .int .i64 0, .int .i64 0, .int .i64 0, .slice none 0 0, .int .i64 0, .int .i64 0, .slice none 0 0, .bool false, .int .i64 0, .int .i64 0, .bool false, .int .i64 0, .int .i64 0, .bool false, .bool false, .bool false, .int .i64 0, .int .i64 0, .bool false, .bool false, .int .i64 0, .int .i64 0, .int .i64 0, .int .i64 0, .bool false, .bool false, .bool false, .slice none 0 0, .int .i64 0, .slice none 0 0] 38) := ⟨_, rfl⟩
  have RB1 := hid (show RowS W1 w.heap.size s from by rw [hW]; exact (RowS.new w s).alloc _)
  have RZ1 := hid (show RowS W1 (w.heap.size + 1) zeroS from by
    rw [hW]
    have h := RowS.new (w.alloc (.cells (scrA s) 38)) zeroS
    rw [World.size_alloc] at h; exact h)
  have hal0 : Below w.heap.size w W1 := by rw [hW]; exact ((Below.refl w.heap.size w).alloc (Nat.le_refl _) _).alloc (by simp) _
  have H1 := hid hal0
  have O1 := hid (ho.below (Nat.le_refl _) hal0)
  have hs1 : w.heap.size + 1 < W1.heap.size := RZ1.out.lt
  have row1 : rowOf W1 w.heap.size = scrA s := RB1.out.of
  have rz1 : RowZ W1 (w.heap.size + 1) 31 := RowZ.of RZ1.out.row 31 rfl
  clear hal0
  have k11 : W1.cell? ⟨w.heap.size, 11, none⟩ = some (.bool s.wrap) := RB1.out.cell 11
  have k19 : W1.cell? ⟨w.heap.size, 19, none⟩ = some (.bool s.noWrap) := RB1.out.cell 19
  have k20 : W1.cell? ⟨w.heap.size, 20, none⟩ = some (.bool s.hide) := RB1.out.cell 20
  have k8 : W1.cell? ⟨w.heap.size, 8, none⟩ = some (.bool s.onAlt) := RB1.out.cell 8
  have hf := RB1.out.free
  by_cases h7 : m = 7
  · subst h7
    cases hw : s.wrap <;> cases on
    · obtain ⟨W2, hW2⟩ : ∃ W2, W2 = ((W1.setCell ⟨w.heap.size, 19, none⟩ (.bool true)).setCell ⟨w.heap.size, 11, none⟩ (.bool false)) := ⟨_, rfl⟩
      have RB2 := hid (show RowS W2 w.heap.size { s with noWrap := true, wrap := false } from by rw [hW2]; exact RowS.s_wrap (z := false) (RowS.s_noWrap (z := true) (RB1.out)))
      have RZ2 := hid (show RowS W2 (w.heap.size + 1) zeroS from by rw [hW2]; exact ((RZ1.out).other (by simp)).other (by simp))
      have H2 := hid (show Below w.heap.size w W2 from by rw [hW2]; exact ((H1.out).setCell (Nat.le_refl _) _).setCell (Nat.le_refl _) _)
      have O2 := hid (show OwnS W2 B { s with noWrap := true, wrap := false } from by
        have h := O1.out.only (S := fun i => i = w.heap.size) (w' := W2) (by rw [hW2]; exact (Only.cell_ (S := fun i => i = w.heap.size) W1 w.heap.size 19 (.bool true) rfl).trans (Only.cell_ _ w.heap.size 11 (.bool false) rfl)) (fun i hi e => by subst e; exact RB1.out.apart O1.out hi)
        exact ⟨h.c, h.t, h.r⟩)
      have row2 : rowOf W2 w.heap.size = scrA { s with noWrap := true, wrap := false } := RB2.out.of
      have rz2 : RowZ W2 (w.heap.size + 1) 31 := RowZ.of RZ2.out.row 31 rfl
      have lt2 : w.heap.size < W2.heap.size := RB2.out.lt
      have HD := hid (show ({ s with noWrap := true, wrap := false } : ScrS).data = modeD s.data 7 false from by unfold modeD noWrapD; rw [if_pos rfl, show s.data.wrap = false from hw]; rfl)
      rw [hw] at k11
      rw [hW2] at row2 rz2 lt2
      clear row1 rz1 hok ho
      go_enter Tryz.func20, Tryz.ntmps20
      go_upto_region 1 with fail
      rw [← hW]
      clear hW
      go_wp2_with fail
      rw [← hW2]
      refine bodyPost_ret (v := .agg (scrA { s with noWrap := true, wrap := false })) (res55 Tryz.results20 _ _ (w.heap.size + 1) _ (by simp) ((RZ2.out).row.setRow) rfl) rfl ⟨{ s with noWrap := true, wrap := false }, rfl, ?_, ?_, ?_⟩
      · exact OwnS.keepRow (O2.out) (w.heap.size + 1) _ (.inr (RowS.apart (RZ2.out) (O2.out)))
      · exact HD.out
      · exact below_setRow (H2.out) (by omega) _
    · obtain ⟨W2, hW2⟩ : ∃ W2, W2 = ((W1.setCell ⟨w.heap.size, 19, none⟩ (.bool false)).setCell ⟨w.heap.size, 11, none⟩ (.bool false)) := ⟨_, rfl⟩
      have RB2 := hid (show RowS W2 w.heap.size { s with noWrap := false, wrap := false } from by rw [hW2]; exact RowS.s_wrap (z := false) (RowS.s_noWrap (z := false) (RB1.out)))
      have RZ2 := hid (show RowS W2 (w.heap.size + 1) zeroS from by rw [hW2]; exact ((RZ1.out).other (by simp)).other (by simp))
      have H2 := hid (show Below w.heap.size w W2 from by rw [hW2]; exact ((H1.out).setCell (Nat.le_refl _) _).setCell (Nat.le_refl _) _)
      have O2 := hid (show OwnS W2 B { s with noWrap := false, wrap := false } from by
        have h := O1.out.only (S := fun i => i = w.heap.size) (w' := W2) (by rw [hW2]; exact (Only.cell_ (S := fun i => i = w.heap.size) W1 w.heap.size 19 (.bool false) rfl).trans (Only.cell_ _ w.heap.size 11 (.bool false) rfl)) (fun i hi e => by subst e; exact RB1.out.apart O1.out hi)
        exact ⟨h.c, h.t, h.r⟩)
      have row2 : rowOf W2 w.heap.size = scrA { s with noWrap := false, wrap := false } := RB2.out.of
      have rz2 : RowZ W2 (w.heap.size + 1) 31 := RowZ.of RZ2.out.row 31 rfl
      have lt2 : w.heap.size < W2.heap.size := RB2.out.lt
      have HD := hid (show ({ s with noWrap := false, wrap := false } : ScrS).data = modeD s.data 7 true from by unfold modeD noWrapD; rw [if_pos rfl, show s.data.wrap = false from hw]; rfl)
      rw [hw] at k11
      rw [hW2] at row2 rz2 lt2
      clear row1 rz1 hok ho
      go_enter Tryz.func20, Tryz.ntmps20
      go_upto_region 1 with fail
      rw [← hW]
      clear hW
      go_wp2_with fail
      rw [← hW2]
      refine bodyPost_ret (v := .agg (scrA { s with noWrap := false, wrap := false })) (res55 Tryz.results20 _ _ (w.heap.size + 1) _ (by simp) ((RZ2.out).row.setRow) rfl) rfl ⟨{ s with noWrap := false, wrap := false }, rfl, ?_, ?_, ?_⟩
      · exact OwnS.keepRow (O2.out) (w.heap.size + 1) _ (.inr (RowS.apart (RZ2.out) (O2.out)))
      · exact HD.out
      · exact below_setRow (H2.out) (by omega) _
    · obtain ⟨W2, hW2⟩ : ∃ W2, W2 = ((W1.setCell ⟨w.heap.size, 19, none⟩ (.bool true)).setCell ⟨w.heap.size, 11, none⟩ (.bool false)) := ⟨_, rfl⟩
      have RB2 := hid (show RowS W2 w.heap.size { s with noWrap := true, wrap := false } from by rw [hW2]; exact RowS.s_wrap (z := false) (RowS.s_noWrap (z := true) (RB1.out)))
      have RZ2 := hid (show RowS W2 (w.heap.size + 1) zeroS from by rw [hW2]; exact ((RZ1.out).other (by simp)).other (by simp))
      have H2 := hid (show Below w.heap.size w W2 from by rw [hW2]; exact ((H1.out).setCell (Nat.le_refl _) _).setCell (Nat.le_refl _) _)
      have O2 := hid (show OwnS W2 B { s with noWrap := true, wrap := false } from by
        have h := O1.out.only (S := fun i => i = w.heap.size) (w' := W2) (by rw [hW2]; exact (Only.cell_ (S := fun i => i = w.heap.size) W1 w.heap.size 19 (.bool true) rfl).trans (Only.cell_ _ w.heap.size 11 (.bool false) rfl)) (fun i hi e => by subst e; exact RB1.out.apart O1.out hi)
        exact ⟨h.c, h.t, h.r⟩)
      have row2 : rowOf W2 w.heap.size = scrA { s with noWrap := true, wrap := false } := RB2.out.of
      have rz2 : RowZ W2 (w.heap.size + 1) 31 := RowZ.of RZ2.out.row 31 rfl
      have lt2 : w.heap.size < W2.heap.size := RB2.out.lt
      have HD := hid (show ({ s with noWrap := true, wrap := false } : ScrS).data = modeD s.data 7 false from by unfold modeD noWrapD; rw [if_pos rfl, show s.data.wrap = true from hw]; rfl)
      rw [hw] at k11
      rw [hW2] at row2 rz2 lt2
      clear row1 rz1 hok ho
      go_enter Tryz.func20, Tryz.ntmps20
      go_upto_region 1 with fail
      rw [← hW]
      clear hW
      go_wp2_with fail
      rw [← hW2]
      refine bodyPost_ret (v := .agg (scrA { s with noWrap := true, wrap := false })) (res55 Tryz.results20 _ _ (w.heap.size + 1) _ (by simp) ((RZ2.out).row.setRow) rfl) rfl ⟨{ s with noWrap := true, wrap := false }, rfl, ?_, ?_, ?_⟩
      · exact OwnS.keepRow (O2.out) (w.heap.size + 1) _ (.inr (RowS.apart (RZ2.out) (O2.out)))
      · exact HD.out
      · exact below_setRow (H2.out) (by omega) _
    · obtain ⟨W2, hW2⟩ : ∃ W2, W2 = ((W1.setCell ⟨w.heap.size, 19, none⟩ (.bool false)).setCell ⟨w.heap.size, 11, none⟩ (.bool true)) := ⟨_, rfl⟩
      have RB2 := hid (show RowS W2 w.heap.size { s with noWrap := false, wrap := true } from by rw [hW2]; exact RowS.s_wrap (z := true) (RowS.s_noWrap (z := false) (RB1.out)))
      have RZ2 := hid (show RowS W2 (w.heap.size + 1) zeroS from by rw [hW2]; exact ((RZ1.out).other (by simp)).other (by simp))
      have H2 := hid (show Below w.heap.size w W2 from by rw [hW2]; exact ((H1.out).setCell (Nat.le_refl _) _).setCell (Nat.le_refl _) _)
      have O2 := hid (show OwnS W2 B { s with noWrap := false, wrap := true } from by
        have h := O1.out.only (S := fun i => i = w.heap.size) (w' := W2) (by rw [hW2]; exact (Only.cell_ (S := fun i => i = w.heap.size) W1 w.heap.size 19 (.bool false) rfl).trans (Only.cell_ _ w.heap.size 11 (.bool true) rfl)) (fun i hi e => by subst e; exact RB1.out.apart O1.out hi)
        exact ⟨h.c, h.t, h.r⟩)
      have row2 : rowOf W2 w.heap.size = scrA { s with noWrap := false, wrap := true } := RB2.out.of
      have rz2 : RowZ W2 (w.heap.size + 1) 31 := RowZ.of RZ2.out.row 31 rfl
      have lt2 : w.heap.size < W2.heap.size := RB2.out.lt
      have HD := hid (show ({ s with noWrap := false, wrap := true } : ScrS).data = modeD s.data 7 true from by unfold modeD noWrapD; rw [if_pos rfl, show s.data.wrap = true from hw]; rfl)
      rw [hw] at k11
      rw [hW2] at row2 rz2 lt2
      clear row1 rz1 hok ho
      go_enter Tryz.func20, Tryz.ntmps20
      go_upto_region 1 with fail
      rw [← hW]
      clear hW
      go_wp2_with fail
      rw [← hW2]
      refine bodyPost_ret (v := .agg (scrA { s with noWrap := false, wrap := true })) (res55 Tryz.results20 _ _ (w.heap.size + 1) _ (by simp) ((RZ2.out).row.setRow) rfl) rfl ⟨{ s with noWrap := false, wrap := true }, rfl, ?_, ?_, ?_⟩
      · exact OwnS.keepRow (O2.out) (w.heap.size + 1) _ (.inr (RowS.apart (RZ2.out) (O2.out)))
      · exact HD.out
      · exact below_setRow (H2.out) (by omega) _
  by_cases h25 : m = 25
  · subst h25
    cases on
    · obtain ⟨W2, hW2⟩ : ∃ W2, W2 = (W1.setCell ⟨w.heap.size, 20, none⟩ (.bool true)) := ⟨_, rfl⟩
      have RB2 := hid (show RowS W2 w.heap.size { s with hide := true } from by rw [hW2]; exact RowS.s_hide (z := true) (RB1.out))
      have RZ2 := hid (show RowS W2 (w.heap.size + 1) zeroS from by rw [hW2]; exact (RZ1.out).other (by simp))
      have H2 := hid (show Below w.heap.size w W2 from by rw [hW2]; exact (H1.out).setCell (Nat.le_refl _) _)
      have O2 := hid (show OwnS W2 B { s with hide := true } from by
        have h := O1.out.only (S := fun i => i = w.heap.size) (w' := W2) (by rw [hW2]; exact Only.cell_ (S := fun i => i = w.heap.size) W1 w.heap.size 20 (.bool true) rfl) (fun i hi e => by subst e; exact RB1.out.apart O1.out hi)
        exact ⟨h.c, h.t, h.r⟩)
      have row2 : rowOf W2 w.heap.size = scrA { s with hide := true } := RB2.out.of
      have rz2 : RowZ W2 (w.heap.size + 1) 31 := RowZ.of RZ2.out.row 31 rfl
      have lt2 : w.heap.size < W2.heap.size := RB2.out.lt
      have HD := hid (show ({ s with hide := true } : ScrS).data = modeD s.data 25 false from by unfold modeD hideD; rw [if_neg (by decide), if_pos rfl]; rfl)
      rw [hW2] at row2 rz2 lt2
      clear row1 rz1 hok ho
      go_enter Tryz.func20, Tryz.ntmps20
      go_upto_region 1 with fail
      rw [← hW]
      clear hW
      go_wp2_with fail
      rw [← hW2]
      refine bodyPost_ret (v := .agg (scrA { s with hide := true })) (res55 Tryz.results20 _ _ (w.heap.size + 1) _ (by simp) ((RZ2.out).row.setRow) rfl) rfl ⟨{ s with hide := true }, rfl, ?_, ?_, ?_⟩
      · exact OwnS.keepRow (O2.out) (w.heap.size + 1) _ (.inr (RowS.apart (RZ2.out) (O2.out)))
      · exact HD.out
      · exact below_setRow (H2.out) (by omega) _
    · obtain ⟨W2, hW2⟩ : ∃ W2, W2 = (W1.setCell ⟨w.heap.size, 20, none⟩ (.bool false)) := ⟨_, rfl⟩
      have RB2 := hid (show RowS W2 w.heap.size { s with hide := false } from by rw [hW2]; exact RowS.s_hide (z := false) (RB1.out))
      have RZ2 := hid (show RowS W2 (w.heap.size + 1) zeroS from by rw [hW2]; exact (RZ1.out).other (by simp))
      have H2 := hid (show Below w.heap.size w W2 from by rw [hW2]; exact (H1.out).setCell (Nat.le_refl _) _)
      have O2 := hid (show OwnS W2 B { s with hide := false } from by
        have h := O1.out.only (S := fun i => i = w.heap.size) (w' := W2) (by rw [hW2]; exact Only.cell_ (S := fun i => i = w.heap.size) W1 w.heap.size 20 (.bool false) rfl) (fun i hi e => by subst e; exact RB1.out.apart O1.out hi)
        exact ⟨h.c, h.t, h.r⟩)
      have row2 : rowOf W2 w.heap.size = scrA { s with hide := false } := RB2.out.of
      have rz2 : RowZ W2 (w.heap.size + 1) 31 := RowZ.of RZ2.out.row 31 rfl
      have lt2 : w.heap.size < W2.heap.size := RB2.out.lt
      have HD := hid (show ({ s with hide := false } : ScrS).data = modeD s.data 25 true from by unfold modeD hideD; rw [if_neg (by decide), if_pos rfl]; rfl)
      rw [hW2] at row2 rz2 lt2
      clear row1 rz1 hok ho
      go_enter Tryz.func20, Tryz.ntmps20
      go_upto_region 1 with fail
      rw [← hW]
      clear hW
      go_wp2_with fail
      rw [← hW2]
      refine bodyPost_ret (v := .agg (scrA { s with hide := false })) (res55 Tryz.results20 _ _ (w.heap.size + 1) _ (by simp) ((RZ2.out).row.setRow) rfl) rfl ⟨{ s with hide := false }, rfl, ?_, ?_, ?_⟩
      · exact OwnS.keepRow (O2.out) (w.heap.size + 1) _ (.inr (RowS.apart (RZ2.out) (O2.out)))
      · exact HD.out
      · exact below_setRow (H2.out) (by omega) _
  by_cases h49 : m = 1049
  · subst h49
    have HMA := hid (show modeD s.data 1049 on = altD s.data on from by unfold modeD; rw [if_neg (by decide), if_neg (by decide), if_pos rfl])
    by_cases he : s.onAlt = on
    · have HD := hid (show s.data = modeD s.data 1049 on from by rw [HMA.out]; unfold altD; rw [if_pos (show s.data.onAlt = on from he)])
      rw [he] at k8
      clear hok ho he
      cases on
      · go_enter Tryz.func20, Tryz.ntmps20
        go_upto_region 1 with fail
        rw [← hW]
        clear hW
        go_wp2_with fail
        refine bodyPost_ret (v := .agg (scrA s)) (res55 Tryz.results20 _ _ (w.heap.size + 1) _ (by simp) ((RZ1.out).row.setRow) rfl) rfl ⟨s, rfl, ?_, ?_, ?_⟩
        · exact OwnS.keepRow (O1.out) (w.heap.size + 1) _ (.inr (RowS.apart (RZ1.out) (O1.out)))
        · exact HD.out
        · exact below_setRow (H1.out) (by omega) _
      · go_enter Tryz.func20, Tryz.ntmps20
        go_upto_region 1 with fail
        rw [← hW]
        clear hW
        go_wp2_with fail
        refine bodyPost_ret (v := .agg (scrA s)) (res55 Tryz.results20 _ _ (w.heap.size + 1) _ (by simp) ((RZ1.out).row.setRow) rfl) rfl ⟨s, rfl, ?_, ?_, ?_⟩
        · exact OwnS.keepRow (O1.out) (w.heap.size + 1) _ (.inr (RowS.apart (RZ1.out) (O1.out)))
        · exact HD.out
        · exact below_setRow (H1.out) (by omega) _
    cases on
    · have he' : s.onAlt = true := by cases h : s.onAlt; exact absurd h he; rfl
      have HD := hid (show (bacM { s with onAlt := false }).data = modeD s.data 1049 false from by
        rw [HMA.out]; unfold altD
        rw [if_neg (by rw [show s.data.onAlt = true from he']; decide), if_neg (by decide), bacM_data]; rfl)
      rw [he'] at k8
      obtain ⟨W2, hW2⟩ : ∃ W2, W2 = (W1.setCell ⟨w.heap.size, 8, none⟩ (.bool false)) := ⟨_, rfl⟩
      have RB2 := hid (show RowS W2 w.heap.size { s with onAlt := false } from by rw [hW2]; exact RowS.s_onAlt (z := false) (RB1.out))
      have RZ2 := hid (show RowS W2 (w.heap.size + 1) zeroS from by rw [hW2]; exact (RZ1.out).other (by simp))
      have H2 := hid (show Below w.heap.size w W2 from by rw [hW2]; exact (H1.out).setCell (Nat.le_refl _) _)
      have O2 := hid (show OwnS W2 B { s with onAlt := false } from by
        have h := O1.out.only (S := fun i => i = w.heap.size) (w' := W2) (by rw [hW2]; exact Only.cell_ (S := fun i => i = w.heap.size) W1 w.heap.size 8 (.bool false) rfl) (fun i hi e => by subst e; exact RB1.out.apart O1.out hi)
        exact ⟨h.c, h.t, h.r⟩)
      have row2 : rowOf W2 w.heap.size = scrA { s with onAlt := false } := RB2.out.of
      have rz2 : RowZ W2 (w.heap.size + 1) 31 := RowZ.of RZ2.out.row 31 rfl
      have lt2 : w.heap.size < W2.heap.size := RB2.out.lt
      skip
      have HBK := hid (l10Back_any { s with onAlt := false } W2)
      rw [hW2] at row2
      clear row1 rz1 hok ho rz2 he he'
      go_enter Tryz.func20, Tryz.ntmps20
      go_upto_region 1 with fail
      rw [← hW]
      clear hW
      go_wp2_with fail
      rw [← hW2]
      refine HBK.out.mono ?_
      rintro e v ⟨rfl, hb⟩
      have RB3 := hid (RB2.out.below hb RB2.out.lt)
      have rzb : RowZ v w.heap.size 31 := RowZ.of RB3.out.row 31 rfl
      have hvs : W2.heap.size ≤ v.heap.size := hb.size
      obtain ⟨W4, hW4⟩ : ∃ W4, W4 = v.setRow w.heap.size (scrA (bacM { s with onAlt := false })) := ⟨_, rfl⟩
      have RB4 := hid (show RowS W4 w.heap.size (bacM { s with onAlt := false }) from by rw [hW4]; exact RB3.out.store)
      have RZ4 := hid (show RowS W4 (w.heap.size + 1) zeroS from by rw [hW4]; exact (RZ2.out.below hb RZ2.out.lt).row_other (by omega))
      have H4 := hid (show Below w.heap.size w W4 from by rw [hW4]; exact below_setRow (H2.out.trans (hb.mono H2.out.size)) (Nat.le_refl _) _)
      have O4 := hid (show OwnS W4 B (bacM { s with onAlt := false }) from by
        rw [hW4]
        have h := O2.out.below (Nat.le_refl _) hb
        have h2 := h.keepRow w.heap.size (scrA (bacM { s with onAlt := false })) (.inr (RB3.out.apart h))
        exact ⟨h2.c, h2.t, h2.r⟩)
      have row4 : rowOf W4 w.heap.size = scrA (bacM { s with onAlt := false }) := RB4.out.of
      have rz4 : RowZ W4 (w.heap.size + 1) 31 := RowZ.of RZ4.out.row 31 rfl
      have lt4 : w.heap.size < W4.heap.size := RB4.out.lt
      rw [hW4] at row4 rz4 lt4
      clear hb HBK row2 k8 k11 k19 k20 hf
      go_wp2_with fail
      rw [← hW4]
      refine bodyPost_ret (v := .agg (scrA (bacM { s with onAlt := false }))) (res55 Tryz.results20 _ _ (w.heap.size + 1) _ (by simp) ((RZ4.out).row.setRow) rfl) rfl ⟨bacM { s with onAlt := false }, rfl, ?_, ?_, ?_⟩
      · exact OwnS.keepRow (O4.out) (w.heap.size + 1) _ (.inr (RowS.apart (RZ4.out) (O4.out)))
      · exact HD.out
      · exact below_setRow (H4.out) (by omega) _
    · have he' : s.onAlt = false := by cases h : s.onAlt; rfl; exact absurd h he
      obtain ⟨W, H, X, Y, T, Bt, L, fit⟩ := ok_fit hok
      have ew : s.w = (W : Int) := fit.w
      have eh : s.h = (H : Int) := fit.h
      have q1 := fit.w1; have q2 := fit.w2; have q3 := fit.h1; have q4 := fit.h2; have q7 := fit.wh
      have hsz : sizeB (W : Int) (H : Int) = true := by
        have h := ok_size0 hok
        unfold newB at h
        rw [Bool.and_eq_true] at h
        rw [← fit.w, ← fit.h]; exact h.1
      obtain ⟨N, hN⟩ : ∃ N, N = ((W : Int) * (H : Int)).toNat := ⟨_, rfl⟩
      have hNA : N = s.data.A.length := by rw [hN, fit.al, ← Int.natCast_mul, Int.toNat_natCast]
      have HD := hid (fun (A : Option Addr) (c : Nat) => show ({ savM s with aw := (W : Int), ah := (H : Int), A := ⟨A, c, List.replicate N blankC⟩, onAlt := true } : ScrS).data = modeD s.data 1049 true from by
        rw [HMA.out]; unfold altD
        rw [if_neg (by rw [show s.data.onAlt = false from he']; decide), if_pos rfl]
        unfold onAltD
        rw [← hNA, show saveD s.data = (savM s).data from rfl]
        show _ = { (savM s).data with onAlt := true, A := List.replicate N blankC }
        have e1 : s.aw = (W : Int) := fit.aw
        have e2 : s.ah = (H : Int) := fit.ah
        unfold savM ScrS.data
        simp only [e1, e2])
      rw [he'] at k8
      have HSV := hid (l10Save_any s W1)
      have HGN := hid (fun V => show Calls Tryz.prog 54 #[.int .i64 (W : Int), .int .i64 (H : Int)] V (fun e w' => ∃ A c, e = .returned (.tuple #[.agg #[.int .i64 (W : Int), .int .i64 (H : Int), .slice A N c], .bool true]) ∧ OwnC w' V.heap.size A N c (List.replicate N blankC) ∧ Below V.heap.size V w') from by
        have h := spec_GridNew_any (W : Int) (H : Int) V
        unfold AnsN at h
        rw [hsz] at h
        rw [hN]
        refine h.mono ?_
        intro e w' h2
        rw [if_pos rfl] at h2
        exact h2)
      have HEW := hid ew
      have HEH := hid eh
      clear hok ho fit ew eh he he' hsz hN hNA
      go_enter Tryz.func20, Tryz.ntmps20
      go_upto_region 1 with fail
      rw [← hW]
      clear hW
      go_wp2_with fail
      refine HSV.out.mono ?_
      rintro e v ⟨rfl, hb⟩
      have RB3 := hid (RB1.out.below hb RB1.out.lt)
      have rzb : RowZ v w.heap.size 31 := RowZ.of RB3.out.row 31 rfl
      have hvs : W1.heap.size ≤ v.heap.size := hb.size
      obtain ⟨W4, hW4⟩ : ∃ W4, W4 = v.setRow w.heap.size (scrA (savM s)) := ⟨_, rfl⟩
      have RB4 := hid (show RowS W4 w.heap.size (savM s) from by rw [hW4]; exact RB3.out.store)
      have RZ4 := hid (show RowS W4 (w.heap.size + 1) zeroS from by rw [hW4]; exact (RZ1.out.below hb RZ1.out.lt).row_other (by omega))
      have H4 := hid (show Below w.heap.size w W4 from by rw [hW4]; exact below_setRow (H1.out.trans (hb.mono H1.out.size)) (Nat.le_refl _) _)
      have O4 := hid (show OwnS W4 B { savM s with onAlt := true } from by
        rw [hW4]
        have h := O1.out.below (Nat.le_refl _) hb
        have h2 := h.keepRow w.heap.size (scrA (savM s)) (.inr (RB3.out.apart h))
        exact ⟨h2.c, h2.t, h2.r⟩)
      have j0 : W4.cell? ⟨w.heap.size, 0, none⟩ = some (.int .i64 (W : Int)) := by rw [← HEW.out]; exact RB4.out.cell 0
      have j1 : W4.cell? ⟨w.heap.size, 1, none⟩ = some (.int .i64 (H : Int)) := by rw [← HEH.out]; exact RB4.out.cell 1
      have l4 : w.heap.size + 1 < W4.heap.size := RZ4.out.lt
      have hB4 : B ≤ W4.heap.size := by omega
      rw [hW4] at j0 j1
      clear hb HSV row1 rz1 k8 k11 k19 k20 hf
      go_wp2_with fail
      rw [← hW4]
      refine (HGN.out W4).mono ?_
      rintro e y ⟨A9, c9, rfl, ho9, hb9⟩
      have RB5 := hid (RB4.out.below hb9 RB4.out.lt)
      have RZ5 := hid (RZ4.out.below hb9 RZ4.out.lt)
      have H5 := hid (H4.out.trans (hb9.mono H4.out.size))
      have hN9 : (List.replicate N blankC).length = N := List.length_replicate
      have O5 := hid (show OwnS y B { savM s with aw := (W : Int), ah := (H : Int), A := ⟨A9, c9, List.replicate N blankC⟩, onAlt := true } from by
        have h := own_put (t := { savM s with onAlt := true }) (gw := (W : Int)) (gh := (H : Int)) (A := A9) (c := c9) (cs := List.replicate N blankC) O4.out hb9 (by rw [hN9]; exact ho9) hB4
        rw [putS_t rfl] at h
        exact h)
      obtain ⟨t, ht⟩ : ∃ t : ScrS, t = { savM s with aw := (W : Int), ah := (H : Int), A := ⟨A9, c9, List.replicate N blankC⟩, onAlt := true } := ⟨_, rfl⟩
      obtain ⟨W6, hW6⟩ : ∃ W6, W6 = (((y.setCell ⟨w.heap.size, 5, none⟩ (.int .i64 (W : Int))).setCell ⟨w.heap.size, 6, none⟩ (.int .i64 (H : Int))).setCell ⟨w.heap.size, 7, none⟩ (.slice A9 N c9)).setCell ⟨w.heap.size, 8, none⟩ (.bool true) := ⟨_, rfl⟩
      have RB6 := hid (show RowS W6 w.heap.size t from by
        rw [hW6, ht]
        have h := RowS.s_onAlt (z := true) (RowS.s_A (z := ⟨A9, c9, List.replicate N blankC⟩) (RowS.s_ah (z := (H : Int)) (RowS.s_aw (z := (W : Int)) RB5.out)))
        rw [hN9] at h; exact h)
      have RZ6 := hid (show RowS W6 (w.heap.size + 1) zeroS from by rw [hW6]; exact (((RZ5.out.other (by simp)).other (by simp)).other (by simp)).other (by simp))
      have H6 := hid (show Below w.heap.size w W6 from by rw [hW6]; exact (((H5.out.setCell (Nat.le_refl _) _).setCell (Nat.le_refl _) _).setCell (Nat.le_refl _) _).setCell (Nat.le_refl _) _)
      have O6 := hid (show OwnS W6 B t from by
        rw [ht]
        exact O5.out.only (S := fun i => i = w.heap.size) (w' := W6) (by rw [hW6]; exact (((Only.cell_ (S := fun i => i = w.heap.size) y w.heap.size 5 (.int .i64 (W : Int)) rfl).trans (Only.cell_ _ w.heap.size 6 (.int .i64 (H : Int)) rfl)).trans (Only.cell_ _ w.heap.size 7 (.slice A9 N c9) rfl)).trans (Only.cell_ _ w.heap.size 8 (.bool true) rfl)) (fun i hi e => by subst e; exact RB5.out.apart O5.out hi))
      have DT := hid (show t.data = modeD s.data 1049 true from by rw [ht]; exact HD.out A9 c9)
      have j5 : y.cell? ⟨w.heap.size, 5, none⟩ = some (.int .i64 s.aw) := RB5.out.cell 5
      have j6 : y.cell? ⟨w.heap.size, 6, none⟩ = some (.int .i64 s.ah) := RB5.out.cell 6
      have j7 : y.cell? ⟨w.heap.size, 7, none⟩ = some (.slice s.A.A s.A.cs.length s.A.c) := RB5.out.cell 7
      have j8 : y.cell? ⟨w.heap.size, 8, none⟩ = some (.bool s.onAlt) := RB5.out.cell 8
      have hf := RB5.out.free
      have row6 : rowOf W6 w.heap.size = scrA t := RB6.out.of
      have rz6 : RowZ W6 (w.heap.size + 1) 31 := RowZ.of RZ6.out.row 31 rfl
      have lt6 : w.heap.size < W6.heap.size := RB6.out.lt
      rw [hW6] at row6 rz6 lt6
      clear ho9 hb9 HGN HD hN9 ht j0 j1 hW4
      go_wp2_with fail
      rw [← hW6]
      refine bodyPost_ret (v := .agg (scrA t)) (res55 Tryz.results20 _ _ (w.heap.size + 1) _ (by simp) ((RZ6.out).row.setRow) rfl) rfl ⟨t, rfl, ?_, ?_, ?_⟩
      · exact OwnS.keepRow (O6.out) (w.heap.size + 1) _ (.inr (RowS.apart (RZ6.out) (O6.out)))
      · exact DT.out
      · exact below_setRow (H6.out) (by omega) _
  have HD := hid (show s.data = modeD s.data m on from by unfold modeD; rw [if_neg h7, if_neg h25, if_neg h49])
  clear hok ho
  go_enter Tryz.func20, Tryz.ntmps20
  go_upto_region 1 with fail
  rw [← hW]
  clear hW
  go_wp2_with fail
  refine bodyPost_ret (v := .agg (scrA s)) (res55 Tryz.results20 _ _ (w.heap.size + 1) _ (by simp) ((RZ1.out).row.setRow) rfl) rfl ⟨s, rfl, ?_, ?_, ?_⟩
  · exact OwnS.keepRow (O1.out) (w.heap.size + 1) _ (.inr (RowS.apart (RZ1.out) (O1.out)))
  · exact HD.out
  · exact below_setRow (H1.out) (by omega) _
end Go.Proofs.YtgnpgkkjcloghaaGreat.Sc
