/- Texts that lay in modules of their own: ScChgCtl, ScCtlI, ScImCtl. -/
import Derived.Test.YthlpchojlddnbaaScCopy
import Derived.Test.YthlpchojlddnbaaKiRO
import Derived.Test.YthlpchojlddnbaaKiC
import Derived.Test.YthlpchojlddnbaaKiK
import Derived.Laws.EntriesVeiled
import Derived.Deep.RegionHeld3
import Derived.Deep.Cut
import Derived.Deep.CutRange
import Derived.Deep.DeepCutAuto
import Derived.Test.YthlpchojlddnbaaKiS
import Derived.Test.YthlpchojlddnbaaKiT
import Derived.IntWalk
import Derived.Test.YthlpchojlddnbaaScGoS
namespace Go.Proofs.Ythlpchojlddnbaa.Sc
open Go.RowKit Go.Proofs.Ythlpchojlddnbaa.Bytes Go.Proofs.Ythlpchojlddnbaa.Rows_ Go.Proofs.Ythlpchojlddnbaa.RowK Go.Proofs.Ythlpchojlddnbaa.Gr Go.Proofs.Ythlpchojlddnbaa.DOk Go.Proofs.Ythlpchojlddnbaa.Opq Go.Proofs.Ythlpchojlddnbaa.Attr
set_option linter.unusedVariables false
attribute [local go_sem ↓] Sc.exec_storeS Sc.exec_loadS
attribute [local go_sem] blkOf_ptr isHead_ptr aggN_agg setRow_alloc rowZ_at rowZ_past scrA_size nsA_size one_scr rowOf_alloc_at rowOf_alloc_past rowOf_drew ns_pre
attribute [local go_sem] sa_w sa_h sa_mw sa_mh sa_M sa_aw sa_ah sa_A sa_onAlt sa_x sa_y sa_wrap sa_fg sa_bg sa_b sa_u sa_t sa_top sa_bot sa_noWrap sa_hide sa_sx sa_sy sa_sfg sa_sbg sa_sb sa_su sa_st sa_tabs sa_lim sa_rows
attribute [local go_sem] ns_w ns_h ns_mw ns_mh ns_M ns_aw ns_ah ns_A ns_onAlt ns_x ns_y ns_wrap ns_fg ns_bg ns_b ns_u ns_t ns_top ns_bot ns_noWrap ns_hide ns_sx ns_sy ns_sfg ns_sbg ns_sb ns_su ns_st ns_tabs ns_lim ns_rows
attribute [local go_sem] ns_at0 ns_at1 ns_at2 ns_at3 ns_at4 ns_at5 ns_at6 ns_at7 ns_at8 ns_at9 ns_at10 ns_at11 ns_at12 ns_at13 ns_at14 ns_at15 ns_at16 ns_at17 ns_at18 ns_at19 ns_at20 ns_at21 ns_at22 ns_at23 ns_at24 ns_at25 ns_at26 ns_at27 ns_at28 ns_at29 ns_at30 ns_at31 ns_at32 ns_at33 ns_at34 ns_at35 ns_at36 ns_at37
attribute [local go_sem] scr_at0 scr_at1 scr_at2 scr_at3 scr_at4 scr_at5 scr_at6 scr_at7 scr_at8 scr_at9 scr_at10 scr_at11 scr_at12 scr_at13 scr_at14 scr_at15 scr_at16 scr_at17 scr_at18 scr_at19 scr_at20 scr_at21 scr_at22 scr_at23 scr_at24 scr_at25 scr_at26 scr_at27 scr_at28 scr_at29 scr_at30
set_option maxRecDepth 100000 in
set_option maxHeartbeats 3200000 in
theorem changed_Ctl (s : ScrS) (w : World) (b : Nat) (F : ScrD → ScrD) (c1 : Value) (ho : OwnS w b s) (hn : szS s ≤ 1048576)
    (HM : okD s.data = true → ∀ W B g t, Below w.heap.size w W → w.heap.size + 2 ≤ B → RowN W g t → OwnS W B t → B ≤ g → t.data = s.data → Calls Try.prog 78 #[.pointer (some ⟨g, 0, none⟩), c1] W (Mth B g (F s.data) W)) :
    Calls Try.prog 63 #[.agg (scrA s), .func (.func 78) #[] #[c1]] w (AnsS (okF F s.data) w) := by
  have H0 := Lib.hid (((Below.refl w.heap.size w).alloc (Nat.le_refl _) (.cells (scrA s) 53)).alloc (by simp) (.cells (scrA zeroS) 53))
  have B0 := Lib.hid (show RowS ((w.alloc (.cells (scrA s) 53)).alloc (.cells (scrA zeroS) 53)) w.heap.size s from (RowS.new w s).alloc _)
  have Z0 := Lib.hid (show RowS ((w.alloc (.cells (scrA s) 53)).alloc (.cells (scrA zeroS) 53)) (w.heap.size + 1) zeroS from by have h := RowS.new (w.alloc (.cells (scrA s) 53)) zeroS; simpa using h)
  have hone0 : One #[.int .i64 0, .int .i64 0, .int .i64 0, .int .i64 0, .slice none 0 0, .int .i64 0, .int .i64 0, .slice none 0 0, .bool false, .int .i64 0, .int .i64 0, .bool false, .int .i64 0, .int .i64 0, .bool false, .bool false, .bool false, .int .i64 0, .int .i64 0, .bool false, .bool false, .int .i64 0, .int .i64 0, .int .i64 0, .int .i64 0, .bool false, .bool false, .bool false, .slice none 0 0, .int .i64 0, .slice none 0 0] := one_scr zeroS
  have HOK := Lib.hid (fun W (h : Below w.heap.size w W) => impl_ScrOk_any s W (ho.below (Nat.le_refl _) h).rd hn)
  have HNW := Lib.hid (fun W (h : Below w.heap.size w W) => newScreen_any s W b (ho.below (Nat.le_refl _) h) hn)
  have HMM := Lib.hid HM
  clear ho HM hn
  have hmf : ∀ (fn : Fn) (first cap : Array Value) (w : World), (Instr.makeFunc fn first cap).run Try.prog w = .ok (.func fn first cap) w := fun _ _ _ _ => rfl
  cases hok : okD s.data
  · have HF := Lib.hid (okF_no (f := F) hok)
    go_enter Try.func63, Try.ntmps63
    go_wp2_with fail
    refine (HOK.out _ H0.out).mono ?_
    rintro e v1 ⟨rfl, hb1⟩
    rw [hok]
    have Z1 := Lib.hid (Z0.out.below hb1 Z0.out.lt)
    have H1 := Lib.hid (H0.out.trans (hb1.mono (by simp; omega)))
    have rz1 : RowZ v1 (w.heap.size + 1) 31 := RowZ.of Z1.out.row 31 rfl
    clear hb1 B0 Z0 H0 HOK HNW HMM
    go_wp2_with fail
    refine bodyPost_ret (v := .agg (scrA zeroS)) (res55 Try.results63 _ _ (w.heap.size + 1) _ (by simp) (Z1.out.row.setRow) rfl) rfl ⟨zeroS, rfl, ?_, ?_, ?_⟩
    · exact zeroS_own _ _
    · rw [HF.out]; rfl
    · exact below_setRow H1.out (by omega) _
  · have HF := Lib.hid (okF_yes (f := F) hok)
    have HM2 := Lib.hid (HMM.out hok)
    clear HMM
    go_enter Try.func63, Try.ntmps63
    go_wp2_with fail
    refine (HOK.out _ H0.out).mono ?_
    rintro e v1 ⟨rfl, hb1⟩
    rw [hok]
    have B1 := Lib.hid (B0.out.below hb1 B0.out.lt)
    have Z1 := Lib.hid (Z0.out.below hb1 Z0.out.lt)
    have H1 := Lib.hid (H0.out.trans (hb1.mono (by simp; omega)))
    have row1 := B1.out.of
    clear hb1 B0 Z0 H0 HOK hok
    go_wp2_with fail
    refine (HNW.out _ H1.out).mono ?_
    rintro e v2 ⟨g, t, rfl, hN2, hO2, hD2, hg2, hb2⟩
    have zz1 : w.heap.size + 1 < v1.heap.size := Z1.out.lt
    have Z2 := Lib.hid (Z1.out.below hb2 zz1)
    have H2 := Lib.hid (H1.out.trans (hb2.mono H1.out.size))
    have HMC := Lib.hid (HM2.out v2 v1.heap.size g t H2.out (by omega) hN2 hO2 hg2 hD2)
    clear hb2 B1 Z1 H1 HNW row1 HM2 hO2 hN2 hD2
    go_wp2_with fail
    refine HMC.out.mono ?_
    rintro e v3 ⟨rfl, t3, hN3, hO3, hD3, hb3⟩
    have HN3 := Lib.hid hN3
    have HO3 := Lib.hid hO3
    have HD3 := Lib.hid hD3
    have Z3 := Lib.hid (Z2.out.below hb3 zz1)
    have H3 := Lib.hid (H2.out.trans (hb3.mono (by omega)))
    clear hb3 hN3 hO3 hD3 HMC Z2 H2
    go_wp2_with fail
    refine (closed_any t3 g _ HN3.out).mono ?_
    rintro e v4 ⟨rfl, hb4⟩
    have zz3 : w.heap.size + 1 < v3.heap.size := Z3.out.lt
    have Z4 := Lib.hid (Z3.out.below hb4 zz3)
    have HO4 := Lib.hid (HO3.out.below (Nat.le_refl _) hb4)
    have H4 := Lib.hid (H3.out.trans (hb4.mono (by omega)))
    have rz4 : RowZ v4 (w.heap.size + 1) 31 := RowZ.of Z4.out.row 31 rfl
    clear hb4 HN3 HO3 Z3 H3
    go_wp2_with fail
    refine bodyPost_ret (v := .agg (scrA t3)) (res55 Try.results63 _ _ (w.heap.size + 1) _ (by simp) (Z4.out.row.setRow) rfl) rfl ⟨t3, rfl, ?_, ?_, ?_⟩
    · exact ((HO4.out.row_ _ _ (by omega)).more (by omega))
    · rw [HF.out]; exact HD3.out
    · exact below_setRow H4.out (by omega) _
end Go.Proofs.Ythlpchojlddnbaa.Sc
namespace Go.Proofs.Ythlpchojlddnbaa.Sc
open Go.RowKit Go.Proofs.Ythlpchojlddnbaa.Bytes Go.Proofs.Ythlpchojlddnbaa.Rows_ Go.Proofs.Ythlpchojlddnbaa.RowK Go.Proofs.Ythlpchojlddnbaa.Gr Go.Proofs.Ythlpchojlddnbaa.DOk Go.Proofs.Ythlpchojlddnbaa.Opq Go.Proofs.Ythlpchojlddnbaa.Attr
set_option linter.unusedVariables false
attribute [local go_sem ↓] Sc.exec_storeS Sc.exec_loadS
attribute [local go_sem] blkOf_ptr isHead_ptr aggN_agg setRow_alloc rowZ_at rowZ_past scrA_size nsA_size one_scr rowOf_alloc_at rowOf_alloc_past rowOf_drew ns_pre
attribute [local go_sem] sa_w sa_h sa_mw sa_mh sa_M sa_aw sa_ah sa_A sa_onAlt sa_x sa_y sa_wrap sa_fg sa_bg sa_b sa_u sa_t sa_top sa_bot sa_noWrap sa_hide sa_sx sa_sy sa_sfg sa_sbg sa_sb sa_su sa_st sa_tabs sa_lim sa_rows
attribute [local go_sem] ns_w ns_h ns_mw ns_mh ns_M ns_aw ns_ah ns_A ns_onAlt ns_x ns_y ns_wrap ns_fg ns_bg ns_b ns_u ns_t ns_top ns_bot ns_noWrap ns_hide ns_sx ns_sy ns_sfg ns_sbg ns_sb ns_su ns_st ns_tabs ns_lim ns_rows
attribute [local go_sem] ns_at0 ns_at1 ns_at2 ns_at3 ns_at4 ns_at5 ns_at6 ns_at7 ns_at8 ns_at9 ns_at10 ns_at11 ns_at12 ns_at13 ns_at14 ns_at15 ns_at16 ns_at17 ns_at18 ns_at19 ns_at20 ns_at21 ns_at22 ns_at23 ns_at24 ns_at25 ns_at26 ns_at27 ns_at28 ns_at29 ns_at30 ns_at31 ns_at32 ns_at33 ns_at34 ns_at35 ns_at36 ns_at37
attribute [local go_sem] scr_at0 scr_at1 scr_at2 scr_at3 scr_at4 scr_at5 scr_at6 scr_at7 scr_at8 scr_at9 scr_at10 scr_at11 scr_at12 scr_at13 scr_at14 scr_at15 scr_at16 scr_at17 scr_at18 scr_at19 scr_at20 scr_at21 scr_at22 scr_at23 scr_at24 scr_at25 scr_at26 scr_at27 scr_at28 scr_at29 scr_at30
set_option maxRecDepth 100000 in
set_option maxHeartbeats 3200000 in
theorem nextTab_any (t : ScrS) (g W X : Nat) (w : World) (hg : RowN w g t) (hr : RdI w w.heap.size t.tA t.tabs) (hn : t.tabs.length ≤ 1048576) (hw : t.w = (W : Int)) (hx : t.x = (X : Int)) (h1 : 1 ≤ W) (h2 : W ≤ 120) :
    Calls Try.prog 107 #[.pointer (some ⟨g, 0, none⟩)] w fun e w' => e = .returned (.int .i64 (tabN (X : Int) ((W : Int) - 1) t.tabs)) ∧ w = w' := by
  have HR := Lib.hid hr
  obtain ⟨n, hl⟩ : ∃ n, n = t.tabs.length := ⟨_, rfl⟩
  have HL := Lib.hid hl.symm
  have k0 : w.cell? ⟨g, 0, none⟩ = some (.int .i64 (W : Int)) := by rw [← hw]; exact hg.cell 0
  have k9 : w.cell? ⟨g, 9, none⟩ = some (.int .i64 (X : Int)) := by rw [← hx]; exact hg.cell 9
  have k28 : w.cell? ⟨g, 28, none⟩ = some (.slice t.tA n t.tk) := by rw [hl]; exact hg.cell 28
  generalize t.tabs = zs at *
  generalize t.tA = A at *
  generalize t.tk = c at *
  rw [← hl] at hn
  clear hr hg hw hx hl
  go_enter Try.func107, Try.ntmps107
  go_wp2_with fail
  go_loopw [11] (fun i wr => ∃ k : Nat, k ≤ n ∧ i = .int .i64 k ∧ tabN (X : Int) ((W : Int) - 1) zs = tabN (X : Int) ((W : Int) - 1) (zs.drop k) ∧ w = wr) (fun i _ => n - (intOf i).toNat)
  case atStart => exact ⟨0, Nat.zero_le _, rfl, rfl, rfl⟩
  case round =>
    obtain ⟨k, hk, rfl, ha, rfl⟩ := hrel
    have HA := Lib.hid ha
    clear ha
    by_cases hlt : k < n
    · have hlf : k < zs.length := by rw [HL.out]; exact hlt
      obtain ⟨b, o, rfl, hB, hc⟩ := HR.out.at_ hlf
      have HST := Lib.hid (tabN_drop (x := (X : Int)) (d := (W : Int) - 1) hlf)
      generalize zs[k] = z at *
      by_cases h1 : (X : Int) < z
      · have N := Lib.hid (show tabN (X : Int) ((W : Int) - 1) zs = z by rw [HA.out, HST.out, if_pos h1])
        clear HST HA
        go_wp2_with fail
        go_ret
        exact ⟨ret_int N.out.symm, rfl⟩
      · have N := Lib.hid (show tabN (X : Int) ((W : Int) - 1) zs = tabN (X : Int) ((W : Int) - 1) (zs.drop (k + 1)) by rw [HA.out, HST.out, if_neg h1])
        clear HST HA
        go_wp2_with fail
        exact ⟨⟨k + 1, by omega, by go_num, N.out, trivial⟩, by simp [intOf]; omega⟩
    · obtain rfl : n = k := by omega
      have HF := Lib.hid (show tabN (X : Int) ((W : Int) - 1) zs = (W : Int) - 1 by rw [HA.out, ← HL.out, List.drop_length]; rfl)
      go_wp2_with fail
      go_ret
      exact ⟨ret_int HF.out.symm, rfl⟩
set_option maxRecDepth 100000 in
set_option maxHeartbeats 3200000 in
theorem control_any (t : ScrS) (g B : Nat) (w : World) (z : Int) (hg : RowN w g t) (ho : OwnS w B t) (hok : okD t.data = true) (hB : B ≤ g) :
    Calls Try.prog 79 #[.pointer (some ⟨g, 0, none⟩), .int .i64 z] w (Mth B g (ctlD t.data z) w) := by
  have HDN := Lib.hid (down_any t g B w hg ho hok hB)
  obtain ⟨W, H, X, Y, T, Bt, L, fit⟩ := ok_fit hok
  have ew : t.w = (W : Int) := fit.w
  have eh : t.h = (H : Int) := fit.h
  have ex : t.x = (X : Int) := fit.x
  have ey : t.y = (Y : Int) := fit.y
  have q1 := fit.w1; have q2 := fit.w2; have q3 := fit.h1; have q4 := fit.h2; have q5 := fit.x2; have q6 := fit.y2
  have ht : t.tabs.length ≤ 1048576 := Nat.le_trans (ok_tabs hok) (by decide)
  have HN := Lib.hid hg
  have HO := Lib.hid ho
  have k9 : w.cell? ⟨g, 9, none⟩ = some (.int .i64 (X : Int)) := by rw [← ex]; exact hg.cell 9
  have k10 : w.cell? ⟨g, 10, none⟩ = some (.int .i64 (Y : Int)) := by rw [← ey]; exact hg.cell 10
  have hgl : g < w.heap.size := hg.lt
  have hbl : B ≤ w.heap.size := by omega
  have HNT := Lib.hid (nextTab_any t g W X w.drew hg.drew ho.rd.t ht ew ex q1 q2)
  have HX := Lib.hid (show t.data.x = (X : Int) from ex)
  have HY := Lib.hid (show t.data.y = (Y : Int) from ey)
  have HW := Lib.hid (show t.data.w = (W : Int) from ew)
  clear fit hok ht
  by_cases h8 : z = 8
  · subst h8
    have HU := Lib.hid (show ctlD t.data 8 = goD t.data ((X : Int) - 1) (Y : Int) by unfold ctlD; rw [if_pos rfl, HX.out, HY.out])
    have e1 : IntKind.i64.wrap ((X : Int) - 1) = (X : Int) - 1 := IntWalk.i64_in _ (by omega)
    clear HNT HDN
    have HM := Lib.hid (fun V (h : RowN V g t) => moveTo_any t g ((X : Int) - 1) (Y : Int) V h (by omega) (by omega) (by omega) (by omega))
    clear hg ho ew eh ex ey
    go_enter Try.func79, Try.ntmps79
    go_upto_region 2 with fail
    go_region_law (first
      | (go_simp; go_at_call 106; (with_reducible refine (HM.out _ HN.out.drew).mono ?_); rintro e v ⟨rfl, hR, hon⟩; have HR := Lib.hid hR; have HON := Lib.hid (only_undrew hon); clear hR hon))
    all_goals
      go_wp2_with fail
      go_end0
      have h := HO.out.only HON.out (fun i hi e => HN.out.apart HO.out (e ▸ hi))
      exact ⟨rfl, _, HR.out, ⟨h.c, h.t, h.r⟩, by rw [HU.out]; rfl, Only.below_ HON.out (Below.refl B _) (by have := HN.out.lt; omega) (fun i hi => by subst hi; exact hB)⟩
  by_cases h9 : z = 9
  · subst h9
    obtain ⟨nx, hnx⟩ : ∃ m, m = tabN (X : Int) ((W : Int) - 1) t.tabs := ⟨_, rfl⟩
    have HU := Lib.hid (show ctlD t.data 9 = goD t.data nx (Y : Int) by
      unfold ctlD; rw [if_neg (by decide), if_pos rfl, HX.out, HY.out, HW.out, hnx]; rfl)
    rw [← hnx] at HNT
    clear hnx HDN
    have HM := Lib.hid (fun V (h : RowN V g t) => moveTo_any t g (nx) (Y : Int) V h (by omega) (by omega) (by omega) (by omega))
    clear hg ho ew eh ex ey
    go_enter Try.func79, Try.ntmps79
    go_upto_region 4 with fail
    go_region_law (first
      | (go_simp; go_at_call 107; (with_reducible refine HNT.out.mono ?_); rintro e v0 ⟨rfl, rfl⟩)
      | (go_simp; go_at_call 106; (with_reducible refine (HM.out _ HN.out.drew).mono ?_); rintro e v ⟨rfl, hR, hon⟩; have HR := Lib.hid hR; have HON := Lib.hid (only_undrew hon); clear hR hon))
    all_goals
      go_wp2_with fail
      go_end0
      have h := HO.out.only HON.out (fun i hi e => HN.out.apart HO.out (e ▸ hi))
      exact ⟨rfl, _, HR.out, ⟨h.c, h.t, h.r⟩, by rw [HU.out]; rfl, Only.below_ HON.out (Below.refl B _) (by have := HN.out.lt; omega) (fun i hi => by subst hi; exact hB)⟩
  have HNT := trivial
  by_cases hd : z = 10 ∨ z = 11 ∨ z = 12
  · have HU := Lib.hid (show ctlD t.data z = downD t.data by unfold ctlD; rw [if_neg h8, if_neg h9, if_pos hd])
    clear hg ho ew eh ex ey k9 k10
    rcases hd with rfl | rfl | rfl
    all_goals
      go_enter Try.func79, Try.ntmps79
      go_wp2_with fail
      refine HDN.out.mono ?_
      rintro e v ⟨rfl, t2, hR, hO, hdd, hb⟩
      have K := Lib.hid (show ∃ t', RowN v g t' ∧ OwnS v B t' ∧ t'.data = ctlD t.data _ ∧ Below B w v from ⟨t2, hR, hO, hdd.trans HU.out.symm, hb⟩)
      clear hR hO hdd hb HDN
      go_wp2_with fail
      go_end0
      exact ⟨rfl, K.out⟩
  have n10 : ¬ z = 10 := fun h => hd (.inl h)
  have n11 : ¬ z = 11 := fun h => hd (.inr (.inl h))
  have n12 : ¬ z = 12 := fun h => hd (.inr (.inr h))
  by_cases h13 : z = 13
  · subst h13
    have HU := Lib.hid (show ctlD t.data 13 = goD t.data 0 (Y : Int) by unfold ctlD; rw [if_neg h8, if_neg h9, if_neg hd, if_pos rfl, HY.out])
    clear HDN hd n10 n11 n12 h8 h9
    have HM := Lib.hid (fun V (h : RowN V g t) => moveTo_any t g (0) (Y : Int) V h (by omega) (by omega) (by omega) (by omega))
    clear hg ho ew eh ex ey
    go_enter Try.func79, Try.ntmps79
    go_wp2_with fail
    refine (HM.out _ HN.out).mono ?_
    rintro e v ⟨rfl, hR, hon⟩
    have HR := Lib.hid hR
    have HON := Lib.hid hon
    clear hR hon HM
    all_goals
      go_wp2_with fail
      go_end0
      have h := HO.out.only HON.out (fun i hi e => HN.out.apart HO.out (e ▸ hi))
      exact ⟨rfl, _, HR.out, ⟨h.c, h.t, h.r⟩, by rw [HU.out]; rfl, Only.below_ HON.out (Below.refl B _) (by have := HN.out.lt; omega) (fun i hi => by subst hi; exact hB)⟩
  have HU := Lib.hid (show ctlD t.data z = t.data by unfold ctlD; rw [if_neg h8, if_neg h9, if_neg hd, if_neg h13])
  clear hg ho ew eh ex ey k9 k10 HDN hd
  go_enter Try.func79, Try.ntmps79
  go_wp2_with fail
  go_end0
  exact ⟨rfl, t, HN.out, HO.out, HU.out.symm, Below.refl _ _⟩
end Go.Proofs.Ythlpchojlddnbaa.Sc
namespace Go.Proofs.Ythlpchojlddnbaa.Sc
open Go.RowKit Go.Proofs.Ythlpchojlddnbaa.Bytes Go.Proofs.Ythlpchojlddnbaa.Rows_ Go.Proofs.Ythlpchojlddnbaa.RowK Go.Proofs.Ythlpchojlddnbaa.Gr Go.Proofs.Ythlpchojlddnbaa.DOk Go.Proofs.Ythlpchojlddnbaa.Opq Go.Proofs.Ythlpchojlddnbaa.Attr
set_option linter.unusedVariables false
attribute [local go_sem ↓] Sc.exec_storeS Sc.exec_loadS
attribute [local go_sem] blkOf_ptr isHead_ptr aggN_agg setRow_alloc rowZ_at rowZ_past scrA_size nsA_size one_scr rowOf_alloc_at rowOf_alloc_past rowOf_drew ns_pre
attribute [local go_sem] sa_w sa_h sa_mw sa_mh sa_M sa_aw sa_ah sa_A sa_onAlt sa_x sa_y sa_wrap sa_fg sa_bg sa_b sa_u sa_t sa_top sa_bot sa_noWrap sa_hide sa_sx sa_sy sa_sfg sa_sbg sa_sb sa_su sa_st sa_tabs sa_lim sa_rows
attribute [local go_sem] ns_w ns_h ns_mw ns_mh ns_M ns_aw ns_ah ns_A ns_onAlt ns_x ns_y ns_wrap ns_fg ns_bg ns_b ns_u ns_t ns_top ns_bot ns_noWrap ns_hide ns_sx ns_sy ns_sfg ns_sbg ns_sb ns_su ns_st ns_tabs ns_lim ns_rows
attribute [local go_sem] ns_at0 ns_at1 ns_at2 ns_at3 ns_at4 ns_at5 ns_at6 ns_at7 ns_at8 ns_at9 ns_at10 ns_at11 ns_at12 ns_at13 ns_at14 ns_at15 ns_at16 ns_at17 ns_at18 ns_at19 ns_at20 ns_at21 ns_at22 ns_at23 ns_at24 ns_at25 ns_at26 ns_at27 ns_at28 ns_at29 ns_at30 ns_at31 ns_at32 ns_at33 ns_at34 ns_at35 ns_at36 ns_at37
attribute [local go_sem] scr_at0 scr_at1 scr_at2 scr_at3 scr_at4 scr_at5 scr_at6 scr_at7 scr_at8 scr_at9 scr_at10 scr_at11 scr_at12 scr_at13 scr_at14 scr_at15 scr_at16 scr_at17 scr_at18 scr_at19 scr_at20 scr_at21 scr_at22 scr_at23 scr_at24 scr_at25 scr_at26 scr_at27 scr_at28 scr_at29 scr_at30
theorem cell_alloc_newZ (w : World) (v : Value) (T : TypeId) (n : Nat) (h : n = w.heap.size) : (w.alloc (.cells #[v] T)).cell? ⟨n, 0, none⟩ = some v := by subst h; exact (RowB.new w #[v] T).cell 0
set_option maxRecDepth 100000 in
set_option maxHeartbeats 3200000 in
theorem impl_ScrCtl_any (s : ScrS) (w : World) (b : Nat) (z : Int) (ho : OwnS w b s) (hn : szS s ≤ 1048576) :
    Calls Try.prog 32 #[.agg (scrA s), .int .i64 z] w (AnsS (okF (fun d => ctlD d z) s.data) w) := by
  obtain ⟨W, hW⟩ : ∃ W, W = ((w.alloc (.cells (scrA s) 53)).alloc (.cells #[.int .i64 z] 3)).alloc (.cells #[.int .i64 0, .int .i64 0, .int .i64 0, .int .i64 0, .slice none 0 0, .int .i64 0, .int .i64 0, .slice none 0 0, .bool false, .int .i64 0, .int .i64 0, .bool false, .int .i64 0, .int .i64 0, .bool false, .bool false, .bool false, .int .i64 0, .int .i64 0, .bool false, .bool false, .int .i64 0, .int .i64 0, .int .i64 0, .int .i64 0, .bool false, .bool false, .bool false, .slice none 0 0, .int .i64 0, .slice none 0 0] 53) := ⟨_, rfl⟩
  have H0 : Below w.heap.size w W := by rw [hW]; exact ((((Below.refl w.heap.size w).alloc (Nat.le_refl _) (.cells (scrA s) 53)).alloc (by simp <;> omega) (.cells #[.int .i64 z] 3)).alloc (by simp <;> omega) (.cells #[.int .i64 0, .int .i64 0, .int .i64 0, .int .i64 0, .slice none 0 0, .int .i64 0, .int .i64 0, .slice none 0 0, .bool false, .int .i64 0, .int .i64 0, .bool false, .int .i64 0, .int .i64 0, .bool false, .bool false, .bool false, .int .i64 0, .int .i64 0, .bool false, .bool false, .int .i64 0, .int .i64 0, .int .i64 0, .int .i64 0, .bool false, .bool false, .bool false, .slice none 0 0, .int .i64 0, .slice none 0 0] 53))
  have B0 : RowS W w.heap.size s := by
    rw [hW]; exact (RowS.below (RowS.new w s) (B := w.heap.size + 1) (by
      refine (((Below.refl (w.heap.size + 1) (w.alloc (.cells (scrA s) 53))).alloc (by simp <;> omega) (.cells #[.int .i64 z] 3)).alloc (by simp <;> omega) (.cells #[.int .i64 0, .int .i64 0, .int .i64 0, .int .i64 0, .slice none 0 0, .int .i64 0, .int .i64 0, .slice none 0 0, .bool false, .int .i64 0, .int .i64 0, .bool false, .int .i64 0, .int .i64 0, .bool false, .bool false, .bool false, .int .i64 0, .int .i64 0, .bool false, .bool false, .int .i64 0, .int .i64 0, .int .i64 0, .int .i64 0, .bool false, .bool false, .bool false, .slice none 0 0, .int .i64 0, .slice none 0 0] 53))) (by omega))
  have hsz : W.heap.size = w.heap.size + 1 + 1 + 1 := by rw [hW]; simp
  have C0 : W.cell? ⟨w.heap.size + 1, 0, none⟩ = some (.int .i64 z) := by rw [hW]; exact (World.cell?_alloc_lt _ _ _ (by simp <;> omega)).trans (cell_alloc_newZ (w.alloc (.cells (scrA s) 53)) (.int .i64 z) 3 (w.heap.size + 1) (by simp))
  have Z0 : RowS W (w.heap.size + 1 + 1) zeroS := by
    rw [hW]
    have h := RowS.new ((w.alloc (.cells (scrA s) 53)).alloc (.cells #[.int .i64 z] 3)) zeroS
    have e : ((w.alloc (.cells (scrA s) 53)).alloc (.cells #[.int .i64 z] 3)).heap.size = w.heap.size + 1 + 1 := by simp
    rw [e] at h; exact h
  have hoW := ho.below (Nat.le_refl _) H0
  have HC := Lib.hid (changed_Ctl s W b (fun d => ctlD d z) (.pointer (some ⟨w.heap.size + 1, 0, none⟩)) hoW hn (by
    intro hok W' B g t hb hB hN hO hg hd
    obtain ⟨wd, hh, X, Y, T, Bt, L, fit⟩ := ok_fit hok
    have e0 : W'.cell? ⟨w.heap.size + 1, 0, none⟩ = some (.int .i64 z) := (hb.cell (p := ⟨w.heap.size + 1, 0, none⟩) (by show w.heap.size + 1 < W.heap.size; omega)).trans C0
    have HM := Lib.hid (control_any t g B W' z hN hO (by rw [hd]; exact hok) hg)
    have HD := Lib.hid hd
    clear hO hN hd fit hb C0 H0 B0 Z0 hoW hW ho
    go_enter Try.func78, Try.ntmps78
    go_wp2_with fail
    refine HM.out.mono ?_
    rintro e v ⟨rfl, t2, hR, hO, hdd, hbb⟩
    have K := Lib.hid (show ∃ t', RowN v g t' ∧ OwnS v B t' ∧ t'.data = (fun d => ctlD d z) s.data ∧ Below B W' v from ⟨t2, hR, hO, by rw [hdd, HD.out], hbb⟩)
    clear hR hO hdd hbb HM
    go_wp2_with fail
    go_end0
    exact ⟨rfl, K.out⟩))
  have H0' := Lib.hid H0
  have HZ := Lib.hid Z0
  have hone0 : One #[.int .i64 0, .int .i64 0, .int .i64 0, .int .i64 0, .slice none 0 0, .int .i64 0, .int .i64 0, .slice none 0 0, .bool false, .int .i64 0, .int .i64 0, .bool false, .int .i64 0, .int .i64 0, .bool false, .bool false, .bool false, .int .i64 0, .int .i64 0, .bool false, .bool false, .int .i64 0, .int .i64 0, .int .i64 0, .int .i64 0, .bool false, .bool false, .bool false, .slice none 0 0, .int .i64 0, .slice none 0 0] := one_scr zeroS
  have hsz' := hsz
  have row0 : rowOf (((w.alloc (.cells (scrA s) 53)).alloc (.cells #[.int .i64 z] 3)).alloc (.cells #[.int .i64 0, .int .i64 0, .int .i64 0, .int .i64 0, .slice none 0 0, .int .i64 0, .int .i64 0, .slice none 0 0, .bool false, .int .i64 0, .int .i64 0, .bool false, .int .i64 0, .int .i64 0, .bool false, .bool false, .bool false, .int .i64 0, .int .i64 0, .bool false, .bool false, .int .i64 0, .int .i64 0, .int .i64 0, .int .i64 0, .bool false, .bool false, .bool false, .slice none 0 0, .int .i64 0, .slice none 0 0] 53)) w.heap.size = scrA s := by rw [← hW]; exact B0.of
  have hmf : ∀ (fn : Fn) (first cap : Array Value) (w : World), (Instr.makeFunc fn first cap).run Try.prog w = .ok (.func fn first cap) w := fun _ _ _ _ => rfl
  rw [hW] at HC
  clear ho hn hoW H0 Z0 B0 C0
  go_enter Try.func32, Try.ntmps32
  go_wp2_with fail
  refine HC.out.mono ?_
  rintro e v1 ⟨t1, rfl, ho1, hd1, hb1⟩
  rw [← hW] at ho1 hb1
  have H1 := Lib.hid (H0'.out.trans (hb1.mono (by omega)))
  have Z1 := Lib.hid (HZ.out.below hb1 (by omega))
  have HO1 := Lib.hid ho1
  have HD1 := Lib.hid hd1
  have rz1 : RowZ v1 (w.heap.size + 1 + 1) 31 := RowZ.of Z1.out.row 31 rfl
  clear hb1 ho1 hd1 row0 HC H0' HZ
  go_wp2_with fail
  refine bodyPost_ret (v := .agg (scrA t1)) (res55 Try.results32 _ _ (w.heap.size + 1 + 1) _ (by simp) (Z1.out.row.setRow) rfl) rfl ⟨t1, rfl, ?_, HD1.out, ?_⟩
  · exact ((HO1.out.row_ _ _ (by omega)).more (by omega))
  · exact below_setRow H1.out (by omega) _
end Go.Proofs.Ythlpchojlddnbaa.Sc
