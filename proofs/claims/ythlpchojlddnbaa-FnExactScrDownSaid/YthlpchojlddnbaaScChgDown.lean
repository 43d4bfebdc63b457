/- impl.changed with Down. -/
import Derived.Test.YthlpchojlddnbaaScCopy
import Derived.Test.YthlpchojlddnbaaKiRO
import Derived.Test.YthlpchojlddnbaaKiC
import Derived.Test.YthlpchojlddnbaaKiK
import Derived.Laws.EntriesVeiled
import Derived.Deep.RegionHeld3
import Derived.Deep.Cut
import Derived.Deep.CutRange
import Derived.Deep.DeepCutAuto
namespace Go.Proofs.Ythlpchojlddnbaa.Sc
open Go.RowKit Go.Proofs.Ythlpchojlddnbaa.Bytes Go.Proofs.Ythlpchojlddnbaa.Rows_ Go.Proofs.Ythlpchojlddnbaa.RowK Go.Proofs.Ythlpchojlddnbaa.Gr Go.Proofs.Ythlpchojlddnbaa.DOk Go.Proofs.Ythlpchojlddnbaa.Opq Go.Proofs.Ythlpchojlddnbaa.Attr
set_option linter.unusedVariables false
attribute [local go_sem ↓] Sc.exec_storeS Sc.exec_loadS
attribute [local go_sem] blkOf_ptr isHead_ptr aggN_agg setRow_alloc rowZ_at rowZ_past scrA_size nsA_size one_scr rowOf_alloc_at rowOf_alloc_past rowOf_drew ns_pre
attribute [local go_sem] sa_w sa_h sa_mw sa_mh sa_M sa_aw sa_ah sa_A sa_onAlt sa_x sa_y sa_wrap sa_fg sa_bg sa_b sa_u sa_t sa_top sa_bot sa_noWrap sa_hide sa_sx sa_sy sa_sfg sa_sbg sa_sb sa_su sa_st sa_tabs sa_lim sa_rows
attribute [local go_sem] ns_w ns_h ns_mw ns_mh ns_M ns_aw ns_ah ns_A ns_onAlt ns_x ns_y ns_wrap ns_fg ns_bg ns_b ns_u ns_t ns_top ns_bot ns_noWrap ns_hide ns_sx ns_sy ns_sfg ns_sbg ns_sb ns_su ns_st ns_tabs ns_lim ns_rows
attribute [local go_sem] ns_at0 ns_at1 ns_at2 ns_at3 ns_at4 ns_at5 ns_at6 ns_at7 ns_at8 ns_at9 ns_at10 ns_at11 ns_at12 ns_at13 ns_at14 ns_at15 ns_at16 ns_at17 ns_at18 ns_at19 ns_at20 ns_at21 ns_at22 ns_at23 ns_at24 ns_at25 ns_at26 ns_at27 ns_at28 ns_at29 ns_at30 ns_at31 ns_at32 ns_at33 ns_at34 ns_at35 ns_at36 ns_at37
attribute [local go_sem] scr_at0 scr_at1 scr_at2 scr_at3 scr_at4 scr_at5 scr_at6 scr_at7 scr_at8 scr_at9 scr_at10 scr_at11 scr_at12 scr_at13 scr_at14 scr_at15 scr_at16 scr_at17 scr_at18 scr_at19 scr_at20 scr_at21 scr_at22 scr_at23 scr_at24 scr_at25 scr_at26 scr_at27 scr_at28 scr_at29 scr_at30
set_option maxRecDepth 100000 in
set_option maxHeartbeats 3200000 in
theorem changed_Down (s : ScrS) (w : World) (b : Nat) (F : ScrD → ScrD) (ho : OwnS w b s) (hn : szS s ≤ 1048576)
    (HM : okD s.data = true → ∀ W B g t, Below w.heap.size w W → w.heap.size + 2 ≤ B → RowN W g t → OwnS W B t → B ≤ g → t.data = s.data → Calls Try.prog 64 #[.pointer (some ⟨g, 0, none⟩)] W (Mth B g (F s.data) W)) :
    Calls Try.prog 63 #[.agg (scrA s), .func (.func 64) #[] #[]] w (AnsS (okF F s.data) w) := by
  have H0 := Lib.hid (((Below.refl w.heap.size w).alloc (Nat.le_refl _) (.cells (scrA s) 53)).alloc (by simp) (.cells (scrA zeroS) 53))
  have B0 := Lib.hid (show RowS ((w.alloc (.cells (scrA s) 53)).alloc (.cells (scrA zeroS) 53)) w.heap.size s from (RowS.new w s).alloc _)
  have Z0 := Lib.hid (show RowS ((w.alloc (.cells (scrA s) 53)).alloc (.cells (scrA zeroS) 53)) (w.heap.size + 1) zeroS from by have h := RowS.new (w.alloc (.cells (scrA s) 53)) zeroS; simpa using h)
  have hone0 : One #[.int .i64 0, .int .i64 0, .int .i64 0, .int .i64 0, .slice none 0 0, .int .i64 0, .int .i64 0, .slice none 0 0, .bool false, .int .i64 0, .int .i64 0, .bool false, .int .i64 0, .int .i64 0, .bool false, .bool false, .bool false, .int .i64 0, .int .i64 0, .bool false, .bool false, .int .i64 0, .int .i64 0, .int .i64 0, .int .i64 0, .bool false, .bool false, .bool false, .slice none 0 0, .int .i64 0, .slice none 0 0] := one_scr zeroS
  have HOK := Lib.hid (fun W (h : Below w.heap.size w W) => impl_ScrOk_any s W (ho.below (Nat.le_refl _) h).rd hn)
  have HNW := Lib.hid (fun W (h : Below w.heap.size w W) => newScreen_any s W b (ho.below (Nat.le_refl _) h) hn)
  have HMM := Lib.hid HM
  clear ho HM hn
  have hmf : ∀ (fn : Fn) (first cap : Array Value) (w : World), (Instr.makeFunc fn first cap).run Try.prog w = .ok (.func fn first cap) w := fun _ _ _ _ => rfl
  cases hok : okD s.data
  · have HF := Lib.hid (okF_no (f := F) hok)
    go_enter Try.func63, Try.ntmps63
    go_wp2_with fail
    refine (HOK.out _ H0.out).mono ?_
    rintro e v1 ⟨rfl, hb1⟩
    rw [hok]
    have Z1 := Lib.hid (Z0.out.below hb1 Z0.out.lt)
    have H1 := Lib.hid (H0.out.trans (hb1.mono (by simp; omega)))
    have rz1 : RowZ v1 (w.heap.size + 1) 31 := RowZ.of Z1.out.row 31 rfl
    clear hb1 B0 Z0 H0 HOK HNW HMM
    go_wp2_with fail
    refine bodyPost_ret (v := .agg (scrA zeroS)) (res55 Try.results63 _ _ (w.heap.size + 1) _ (by simp) (Z1.out.row.setRow) rfl) rfl ⟨zeroS, rfl, ?_, ?_, ?_⟩
    · exact zeroS_own _ _
    · rw [HF.out]; rfl
    · exact below_setRow H1.out (by omega) _
  · have HF := Lib.hid (okF_yes (f := F) hok)
    have HM2 := Lib.hid (HMM.out hok)
    clear HMM
    go_enter Try.func63, Try.ntmps63
    go_wp2_with fail
    refine (HOK.out _ H0.out).mono ?_
    rintro e v1 ⟨rfl, hb1⟩
    rw [hok]
    have B1 := Lib.hid (B0.out.below hb1 B0.out.lt)
    have Z1 := Lib.hid (Z0.out.below hb1 Z0.out.lt)
    have H1 := Lib.hid (H0.out.trans (hb1.mono (by simp; omega)))
    have row1 := B1.out.of
    clear hb1 B0 Z0 H0 HOK hok
    go_wp2_with fail
    refine (HNW.out _ H1.out).mono ?_
    rintro e v2 ⟨g, t, rfl, hN2, hO2, hD2, hg2, hb2⟩
    have zz1 : w.heap.size + 1 < v1.heap.size := Z1.out.lt
    have Z2 := Lib.hid (Z1.out.below hb2 zz1)
    have H2 := Lib.hid (H1.out.trans (hb2.mono H1.out.size))
    have HMC := Lib.hid (HM2.out v2 v1.heap.size g t H2.out (by omega) hN2 hO2 hg2 hD2)
    clear hb2 B1 Z1 H1 HNW row1 HM2 hO2 hN2 hD2
    go_wp2_with fail
    refine HMC.out.mono ?_
    rintro e v3 ⟨rfl, t3, hN3, hO3, hD3, hb3⟩
    have HN3 := Lib.hid hN3
    have HO3 := Lib.hid hO3
    have HD3 := Lib.hid hD3
    have Z3 := Lib.hid (Z2.out.below hb3 zz1)
    have H3 := Lib.hid (H2.out.trans (hb3.mono (by omega)))
    clear hb3 hN3 hO3 hD3 HMC Z2 H2
    go_wp2_with fail
    refine (closed_any t3 g _ HN3.out).mono ?_
    rintro e v4 ⟨rfl, hb4⟩
    have zz3 : w.heap.size + 1 < v3.heap.size := Z3.out.lt
    have Z4 := Lib.hid (Z3.out.below hb4 zz3)
    have HO4 := Lib.hid (HO3.out.below (Nat.le_refl _) hb4)
    have H4 := Lib.hid (H3.out.trans (hb4.mono (by omega)))
    have rz4 : RowZ v4 (w.heap.size + 1) 31 := RowZ.of Z4.out.row 31 rfl
    clear hb4 HN3 HO3 Z3 H3
    go_wp2_with fail
    refine bodyPost_ret (v := .agg (scrA t3)) (res55 Try.results63 _ _ (w.heap.size + 1) _ (by simp) (Z4.out.row.setRow) rfl) rfl ⟨t3, rfl, ?_, ?_, ?_⟩
    · exact ((HO4.out.row_ _ _ (by omega)).more (by omega))
    · rw [HF.out]; exact HD3.out
    · exact below_setRow H4.out (by omega) _
end Go.Proofs.Ythlpchojlddnbaa.Sc

