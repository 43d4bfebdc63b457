/- The grid that a screen shows, in the program. -/
import Derived.Test.YtmccggjogoaakaaKiVW
import Derived.Test.YtmccggjogoaakaaKiRO
import Derived.Test.YtmccggjogoaakaaKiK
import Derived.Deep.RegionHeld3
import Derived.Deep.Cut
import Derived.Deep.CutRange
import Derived.Deep.DeepCutAuto
namespace Go.Proofs.Ytmccggjogoaakaa.Sc
open Go.RowKit Go.Proofs.Ytmccggjogoaakaa.Bytes Go.Proofs.Ytmccggjogoaakaa.Rows_ Go.Proofs.Ytmccggjogoaakaa.RowK Go.Proofs.Ytmccggjogoaakaa.Gr Go.Proofs.Ytmccggjogoaakaa.DOk Go.Proofs.Ytmccggjogoaakaa.Opq Go.Proofs.Ytmccggjogoaakaa.Attr
set_option linter.unusedVariables false
attribute [local go_sem ↓] Sc.exec_storeS Sc.exec_loadS
attribute [local go_sem] blkOf_ptr isHead_ptr aggN_agg setRow_alloc rowZ_at rowZ_past scrA_size nsA_size one_scr rowOf_alloc_at rowOf_alloc_past rowOf_drew ns_pre
attribute [local go_sem] sa_w sa_h sa_mw sa_mh sa_M sa_aw sa_ah sa_A sa_onAlt sa_x sa_y sa_wrap sa_fg sa_bg sa_b sa_u sa_t sa_top sa_bot sa_noWrap sa_hide sa_sx sa_sy sa_sfg sa_sbg sa_sb sa_su sa_st sa_tabs sa_lim sa_rows
attribute [local go_sem] ns_w ns_h ns_mw ns_mh ns_M ns_aw ns_ah ns_A ns_onAlt ns_x ns_y ns_wrap ns_fg ns_bg ns_b ns_u ns_t ns_top ns_bot ns_noWrap ns_hide ns_sx ns_sy ns_sfg ns_sbg ns_sb ns_su ns_st ns_tabs ns_lim ns_rows
attribute [local go_sem] ns_at0 ns_at1 ns_at2 ns_at3 ns_at4 ns_at5 ns_at6 ns_at7 ns_at8 ns_at9 ns_at10 ns_at11 ns_at12 ns_at13 ns_at14 ns_at15 ns_at16 ns_at17 ns_at18 ns_at19 ns_at20 ns_at21 ns_at22 ns_at23 ns_at24 ns_at25 ns_at26 ns_at27 ns_at28 ns_at29 ns_at30 ns_at31 ns_at32 ns_at33 ns_at34 ns_at35 ns_at36 ns_at37
attribute [local go_sem] scr_at0 scr_at1 scr_at2 scr_at3 scr_at4 scr_at5 scr_at6 scr_at7 scr_at8 scr_at9 scr_at10 scr_at11 scr_at12 scr_at13 scr_at14 scr_at15 scr_at16 scr_at17 scr_at18 scr_at19 scr_at20 scr_at21 scr_at22 scr_at23 scr_at24 scr_at25 scr_at26 scr_at27 scr_at28 scr_at29 scr_at30
set_option maxRecDepth 100000 in
set_option maxHeartbeats 3200000 in
theorem impl_Shown_any (s : ScrS) (w : World) (b : Nat) (ho : OwnS w b s) (hn : szS s ≤ 1048576) : Calls Try.prog 26 #[.agg (scrA s)] w (AnsSh s.data w) := by
  have H0 := Lib.hid ((Below.refl w.heap.size w).alloc (Nat.le_refl _) (.cells (scrA s) 45))
  have B0 := Lib.hid (RowS.new w s)
  have HOK := Lib.hid (fun W (h : Below w.heap.size w W) => impl_ScrOk_any s W (ho.below (Nat.le_refl _) h).rd hn)
  have HNW := Lib.hid (fun W (h : Below w.heap.size w W) => newScreen_any s W b (ho.below (Nat.le_refl _) h) hn)
  clear ho hn
  have X1 := Lib.hid (BoxG.new (w.alloc (.cells (scrA s) 45)) #[.int .i64 0, .int .i64 0, .slice none 0 0])
  have H1 := Lib.hid (H0.out.alloc (by simp) (.cells #[.int .i64 0, .int .i64 0, .slice none 0 0] 28))
  have B1 := Lib.hid (B0.out.alloc (.cells #[.int .i64 0, .int .i64 0, .slice none 0 0] 28))
  go_enter Try.func26, Try.ntmps26
  go_wp2_with fail
  refine (HOK.out _ H1.out).mono ?_
  rintro e v1 ⟨rfl, hb1⟩
  have X2 := Lib.hid (X1.out.below hb1 (by simp))
  have B2 := Lib.hid (B1.out.below hb1 (by simp; omega))
  have H2 := Lib.hid (H1.out.trans (hb1.mono (by simp; omega)))
  have z1 : w.heap.size + 1 < v1.heap.size := by have := hb1.size; simp at this; omega
  clear hb1 X1 B1 H1 B0 H0
  have row1 := B2.out.of
  cases hok : okD s.data
  · have HN := Lib.hid (shG_no hok)
    have x1 := X2.out
    have p0 : v1.cell? ⟨w.heap.size + 1, 0, none⟩ = some (.int .i64 0) := by have := x1.cell 0; simpa using this
    have p1 : v1.cell? ⟨w.heap.size + 1, 1, none⟩ = some (.int .i64 0) := by have := x1.cell 1; simpa using this
    have p2 : v1.cell? ⟨w.heap.size + 1, 2, none⟩ = some (.slice none 0 0) := by have := x1.cell 2; simpa using this
    have g0 : v1.frozen? ⟨w.heap.size + 1, 0, none⟩ = false := by have := x1.free 0; simpa using this
    have g1 : v1.frozen? ⟨w.heap.size + 1, 1, none⟩ = false := by have := x1.free 1; simpa using this
    have g2 : v1.frozen? ⟨w.heap.size + 1, 2, none⟩ = false := by have := x1.free 2; simpa using this
    clear x1
    go_wp2_with fail
    refine bodyPost_ret (v := .agg #[.int .i64 0, .int .i64 0, .slice none 0 0]) (by simp [results, Try.results26, go_sem, p0, p1, p2]) rfl ?_
    unfold AnsSh
    rw [HN.out]
    refine ⟨none, 0, rfl, World.ownsRow_nil _ _ _ _, ?_⟩
    exact ((H2.out.setCell (by simp) _).setCell (by simp) _).setCell (by simp) _
  · have HN := Lib.hid (shG_yes hok)
    clear hok
    go_wp2_with fail
    refine (HNW.out _ H2.out).mono ?_
    rintro e v2 ⟨g, t, rfl, hN2, hO2, hD2, hg2, hb2⟩
    have X3 := Lib.hid (X2.out.below hb2 (by simp; omega))
    have H3 := Lib.hid (H2.out.trans (hb2.mono H2.out.size))
    have HN2 := Lib.hid hN2
    have HO2 := Lib.hid hO2
    have z2 : w.heap.size + 1 < v2.heap.size := by have := hb2.size; omega
    have ew := shW_of hD2
    have eh := shH_of hD2
    have ec : (shC t).cs = (shC s).cs := by rw [sh_data, hD2, ← sh_data]
    have EE := Lib.hid (And.intro ew (And.intro eh ec))
    clear hb2 row1 X2 B2 hD2 hO2 HNW HOK ew eh ec
    have c0 : v2.cell? ⟨g, offS t, none⟩ = some (.int .i64 (shW t)) := by
      unfold shW offS; cases t.onAlt
      · exact hN2.cell 31
      · exact hN2.cell 35
    have c1 : v2.cell? ⟨g, offS t + 1, none⟩ = some (.int .i64 (shH t)) := by
      unfold shH offS; cases t.onAlt
      · exact hN2.cell 32
      · exact hN2.cell 36
    have c2 : v2.cell? ⟨g, offS t + 2, none⟩ = some (.slice (shC t).A (shC t).cs.length (shC t).c) := by
      unfold shC offS; cases t.onAlt
      · exact hN2.cell 33
      · exact hN2.cell 37
    clear hN2
    go_wp2_with fail
    refine (shown_any t g _ HN2.out).mono ?_
    rintro e v ⟨rfl, rfl⟩
    have x1 := X3.out
    have p0 : v2.cell? ⟨w.heap.size + 1, 0, none⟩ = some (.int .i64 0) := by have := x1.cell 0; simpa using this
    have p1 : v2.cell? ⟨w.heap.size + 1, 1, none⟩ = some (.int .i64 0) := by have := x1.cell 1; simpa using this
    have p2 : v2.cell? ⟨w.heap.size + 1, 2, none⟩ = some (.slice none 0 0) := by have := x1.cell 2; simpa using this
    have g0 : v2.frozen? ⟨w.heap.size + 1, 0, none⟩ = false := by have := x1.free 0; simpa using this
    have g1 : v2.frozen? ⟨w.heap.size + 1, 1, none⟩ = false := by have := x1.free 1; simpa using this
    have g2 : v2.frozen? ⟨w.heap.size + 1, 2, none⟩ = false := by have := x1.free 2; simpa using this
    clear x1
    obtain ⟨k, hk⟩ : ∃ k, k = offS t := ⟨_, rfl⟩
    rw [← hk] at c0 c1 c2 ⊢
    clear hk
    go_wp2_with fail
    refine bodyPost_ret (v := .agg #[.int .i64 (shW t), .int .i64 (shH t), .slice (shC t).A (shC t).cs.length (shC t).c]) (by simp [results, Try.results26, go_sem, p0, p1, p2]) rfl ?_
    unfold AnsSh
    rw [HN.out]
    obtain ⟨ew, eh, ec⟩ := EE.out
    refine ⟨(shC t).A, (shC t).c, by rw [ew, eh, ec], ?_, ?_⟩
    · have h := sh_addr HO2.out
      show OwnC _ _ (shC t).A (shC s).cs.length (shC t).c (shC s).cs
      rw [← ec]
      exact ((h.setBox (w.heap.size + 1) 0 _ (by omega)).setBox (w.heap.size + 1) 1 _ (by omega)).setBox (w.heap.size + 1) 2 _ (by omega) |>.more (by omega)
    · exact ((H3.out.setCell (by simp) _).setCell (by simp) _).setCell (by simp) _
end Go.Proofs.Ytmccggjogoaakaa.Sc

