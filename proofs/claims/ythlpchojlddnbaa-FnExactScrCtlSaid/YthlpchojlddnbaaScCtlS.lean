/- spec.ScrCtl: a control byte, in the model. -/
import Derived.Test.YthlpchojlddnbaaScCopy
import Derived.Test.YthlpchojlddnbaaKiO
import Derived.Test.YthlpchojlddnbaaKiD
import Derived.Test.YthlpchojlddnbaaGrSlide
import Derived.Test.YthlpchojlddnbaaKiM
import Derived.Test.YthlpchojlddnbaaScGoS
import Derived.Test.YthlpchojlddnbaaKiT
import Derived.Deep.RegionHeld3
import Derived.IntWalk
namespace Go.Proofs.Ythlpchojlddnbaa.Sc
open Go.RowKit Go.Proofs.Ythlpchojlddnbaa.Bytes Go.Proofs.Ythlpchojlddnbaa.Rows_ Go.Proofs.Ythlpchojlddnbaa.RowK Go.Proofs.Ythlpchojlddnbaa.Gr Go.Proofs.Ythlpchojlddnbaa.DOk Go.Proofs.Ythlpchojlddnbaa.Opq Go.Proofs.Ythlpchojlddnbaa.Attr
set_option linter.unusedVariables false
attribute [local go_sem ↓] Sc.exec_storeS Sc.exec_loadS
attribute [local go_sem] rowOf_drew blkOf_ptr isHead_ptr aggN_agg setRow_alloc rowZ_at rowZ_past scrA_size one_scr rowOf_alloc_at rowOf_alloc_past
attribute [local go_sem] sa_w sa_h sa_mw sa_mh sa_M sa_aw sa_ah sa_A sa_onAlt sa_x sa_y sa_wrap sa_fg sa_bg sa_b sa_u sa_t sa_top sa_bot sa_noWrap sa_hide sa_sx sa_sy sa_sfg sa_sbg sa_sb sa_su sa_st sa_tabs sa_lim sa_rows
attribute [local go_sem] scr_at0 scr_at1 scr_at2 scr_at3 scr_at4 scr_at5 scr_at6 scr_at7 scr_at8 scr_at9 scr_at10 scr_at11 scr_at12 scr_at13 scr_at14 scr_at15 scr_at16 scr_at17 scr_at18 scr_at19 scr_at20 scr_at21 scr_at22 scr_at23 scr_at24 scr_at25 scr_at26 scr_at27 scr_at28 scr_at29 scr_at30
set_option maxRecDepth 100000 in
set_option maxHeartbeats 3200000 in
theorem spec_ScrCtl_any (s : ScrS) (w : World) (b : Nat) (z : Int) (ho : OwnS w b s) (hn : szS s ≤ 1048576) :
    Calls Try.prog 31 #[.agg (scrA s), .int .i64 z] w (AnsS (okF (fun d => ctlD d z) s.data) w) := by
  have H0 := Lib.hid (((Below.refl w.heap.size w).alloc (Nat.le_refl _) (.cells (scrA s) 53)).alloc (by simp) (.cells (scrA zeroS) 53))
  have B0 := Lib.hid (show RowS ((w.alloc (.cells (scrA s) 53)).alloc (.cells (scrA zeroS) 53)) w.heap.size s from (RowS.new w s).alloc _)
  have Z0 := Lib.hid (show RowS ((w.alloc (.cells (scrA s) 53)).alloc (.cells (scrA zeroS) 53)) (w.heap.size + 1) zeroS from by have h := RowS.new (w.alloc (.cells (scrA s) 53)) zeroS; simpa using h)
  have hone0 : One #[.int .i64 0, .int .i64 0, .int .i64 0, .int .i64 0, .slice none 0 0, .int .i64 0, .int .i64 0, .slice none 0 0, .bool false, .int .i64 0, .int .i64 0, .bool false, .int .i64 0, .int .i64 0, .bool false, .bool false, .bool false, .int .i64 0, .int .i64 0, .bool false, .bool false, .int .i64 0, .int .i64 0, .int .i64 0, .int .i64 0, .bool false, .bool false, .bool false, .slice none 0 0, .int .i64 0, .slice none 0 0] := one_scr zeroS
  have HO := Lib.hid (fun W (h : Below w.heap.size w W) => ho.below (Nat.le_refl _) h)
  have HOK := Lib.hid (fun W (h : Below w.heap.size w W) => spec_ScrOk_any s W (ho.below (Nat.le_refl _) h).rd hn)
  have HCP := Lib.hid (fun W (h : Below w.heap.size w W) => l09Copy_own s W b (ho.below (Nat.le_refl _) h) hn)
  clear ho
  have HN := Lib.hid hn
  clear hn
  cases hok : okD s.data
  · have HF := Lib.hid (okF_no (f := (fun d => ctlD d z)) hok)
    go_enter Try.func31, Try.ntmps31
    go_wp2_with fail
    refine (HOK.out _ H0.out).mono ?_
    rintro e v1 ⟨rfl, hb1⟩
    rw [hok]
    have Z1 := Lib.hid (Z0.out.below hb1 Z0.out.lt)
    have H1 := Lib.hid (H0.out.trans (hb1.mono (by simp; omega)))
    have rz1 : RowZ v1 (w.heap.size + 1) 31 := RowZ.of Z1.out.row 31 rfl
    clear hb1 B0 Z0 H0 HCP HO HOK HN
    go_wp2_with fail
    refine bodyPost_ret (v := .agg (scrA zeroS)) (res55 Try.results31 _ _ (w.heap.size + 1) _ (by simp) (Z1.out.row.setRow) rfl) rfl ⟨zeroS, rfl, ?_, ?_, ?_⟩
    · exact zeroS_own _ _
    · rw [HF.out]; rfl
    · exact below_setRow H1.out (by omega) _
  · have HF := Lib.hid (okF_yes (f := (fun d => ctlD d z)) hok)
    have HKY := Lib.hid hok
    have HFIT := Lib.hid (ok_fit hok)
    go_enter Try.func31, Try.ntmps31
    go_wp2_with fail
    refine (HOK.out _ H0.out).mono ?_
    rintro e v1 ⟨rfl, hb1⟩
    rw [hok]
    have B1 := Lib.hid (B0.out.below hb1 B0.out.lt)
    have Z1 := Lib.hid (Z0.out.below hb1 Z0.out.lt)
    have H1 := Lib.hid (H0.out.trans (hb1.mono (by simp; omega)))
    have row1 := B1.out.of
    clear hb1 B0 Z0 H0 HOK hok
    go_wp2_with fail
    refine (HCP.out _ H1.out).mono ?_
    rintro e v2 ⟨t, rfl, ho2, hd2, hb2⟩
    have B2 := Lib.hid (B1.out.below hb2 B1.out.lt)
    have Z2 := Lib.hid (Z1.out.below hb2 Z1.out.lt)
    have zz1 : w.heap.size + 1 < v1.heap.size := Z1.out.lt
    have H2 := Lib.hid (H1.out.trans (hb2.mono H1.out.size))
    have O2 := Lib.hid (ho2.more (base' := w.heap.size + 2) (by omega))
    have D2 := Lib.hid hd2
    have zz2 : w.heap.size + 1 < v2.heap.size := Z2.out.lt
    have zz2' : w.heap.size < v2.heap.size := by omega
    have rz2 : RowZ v2 (w.heap.size + 1) 31 := RowZ.of Z2.out.row 31 rfl
    clear hb2 ho2 hd2 B1 Z1 H1 HCP row1
    obtain ⟨W, H, X, Y, T, Bt, L, fit⟩ := HFIT.out
    have ew : s.w = (W : Int) := fit.w
    have ex : s.x = (X : Int) := fit.x
    have ey : s.y = (Y : Int) := fit.y
    have hw1 := fit.w1; have hw2 := fit.w2; have hx2 := fit.x2; have hy2 := fit.y2; have hh2 := fit.h2
    obtain ⟨n, hl⟩ : ∃ n, n = s.tabs.length := ⟨_, rfl⟩
    have hn1 : n ≤ 121 := by rw [hl]; exact ok_tabs HKY.out
    have HL := Lib.hid hl.symm
    clear fit HFIT
    go_upto_region 4 with fail
    obtain ⟨V, hV⟩ : ∃ V, V = v2.alloc (.cells (scrA t) 53) := ⟨_, rfl⟩
    have BS := Lib.hid (show RowS V w.heap.size s from by rw [hV]; exact B2.out.alloc _)
    have BT := Lib.hid (show RowS V v2.heap.size t from by rw [hV]; exact RowS.new v2 t)
    have ZV := Lib.hid (show RowS V (w.heap.size + 1) zeroS from by rw [hV]; exact Z2.out.alloc _)
    have HV := Lib.hid (show Below w.heap.size w V from by rw [hV]; exact H2.out.alloc H2.out.size _)
    have OV := Lib.hid (show OwnS V (w.heap.size + 2) t from by rw [hV]; exact O2.out.below (Nat.le_refl _) ((Below.refl v2.heap.size v2).alloc (Nat.le_refl _) _))
    have zV : w.heap.size + 1 < V.heap.size := ZV.out.lt
    have zV2 : v2.heap.size < V.heap.size := BT.out.lt
    rw [← hV]
    clear hV B2 Z2 H2 O2 rz2
    have rowS : rowOf V w.heap.size = scrA s := BS.out.of
    have rowT : rowOf V v2.heap.size = scrA t := BT.out.of
    have rzV : RowZ V (w.heap.size + 1) 31 := RowZ.of ZV.out.row 31 rfl
    have kx : V.cell? ⟨w.heap.size, 9, none⟩ = some (.int .i64 (X : Int)) := by rw [← ex]; exact BS.out.cell 9
    have ky : V.cell? ⟨w.heap.size, 10, none⟩ = some (.int .i64 (Y : Int)) := by rw [← ey]; exact BS.out.cell 10
    have kw : V.cell? ⟨w.heap.size, 0, none⟩ = some (.int .i64 (W : Int)) := by rw [← ew]; exact BS.out.cell 0
    have kt : V.cell? ⟨w.heap.size, 28, none⟩ = some (.slice s.tA n s.tk) := by rw [hl]; exact BS.out.cell 28
    have HTR := Lib.hid (fun U (h : Below w.heap.size w U) => show RdI U U.heap.size s.tA s.tabs from (HO.out U h).rd.t)
    have HGO := Lib.hid (fun W (h : Below w.heap.size w W) x y => spec_ScrGo_any s W b x y (HO.out W h) HN.out)
    have HX := Lib.hid (show s.data.x = (X : Int) from ex)
    have HY := Lib.hid (show s.data.y = (Y : Int) from ey)
    have HW := Lib.hid (show s.data.w = (W : Int) from ew)
    have EX := Lib.hid ex
    have EY := Lib.hid ey
    clear ew ex ey hl HO HN
    by_cases h8 : z = 8
    · subst h8
      have HU := Lib.hid (show ctlD s.data 8 = goD s.data ((X : Int) - 1) (Y : Int) by unfold ctlD; rw [if_pos rfl, HX.out, HY.out])
      have e1 : IntKind.i64.wrap ((X : Int) - 1) = (X : Int) - 1 := IntWalk.i64_in _ (by omega)
      go_wp2_with fail
      refine (HGO.out V HV.out ((X : Int) - 1) (Y : Int)).mono ?_
      rintro e v3 ⟨t3, rfl, ho3, hd3, hb3⟩
      have Z3 := Lib.hid (ZV.out.below hb3 ZV.out.lt)
      have H3 := Lib.hid (HV.out.trans (hb3.mono HV.out.size))
      have O3 := Lib.hid (ho3.more (base' := w.heap.size + 2) (by omega))
      have D3 := Lib.hid hd3
      have rz3 : RowZ v3 (w.heap.size + 1) 31 := RowZ.of Z3.out.row 31 rfl
      clear ho3 hd3 hb3 HGO rowS rowT rzV
      go_wp2_with fail
      refine bodyPost_ret (v := .agg (scrA t3)) (res55 Try.results31 _ _ (w.heap.size + 1) _ (by simp) (Z3.out.row.setRow) rfl) rfl ⟨t3, rfl, ?_, ?_, ?_⟩
      · exact ((O3.out.row_ _ _ (by omega)).more (by omega))
      · rw [HF.out, D3.out, okF_yes HKY.out, HU.out]
      · exact below_setRow H3.out (by omega) _
    by_cases h9 : z = 9
    · subst h9
      have HU := Lib.hid (show ctlD s.data 9 = goD s.data (tabN (X : Int) ((W : Int) - 1) s.tabs) (Y : Int) by
        unfold ctlD; rw [if_neg (by decide), if_pos rfl, HX.out, HY.out, HW.out]; rfl)
      have HTS := Lib.hid (fun (k : Nat) (h : k < s.tabs.length) => tabN_drop (x := (X : Int)) (d := (W : Int) - 1) h)
      have HT0 := Lib.hid (show tabN (X : Int) ((W : Int) - 1) (s.tabs.drop n) = (W : Int) - 1 by rw [← HL.out, List.drop_length]; rfl)
      have HTZ := Lib.hid (show tabN (X : Int) ((W : Int) - 1) (s.tabs.drop 0) = tabN (X : Int) ((W : Int) - 1) s.tabs by rw [List.drop_zero])
      go_wp2_with fail
      go_loopw [6, 7] (fun x i wr => ∃ (k : Nat) (m : Int), k ≤ n ∧ m = (k : Int) - 1 ∧ i = .int .i64 m ∧ x = .int .i64 (tabN (X : Int) ((W : Int) - 1) (s.tabs.drop k)) ∧ Below V.heap.size V wr) (fun _ i _ => (intOf i + 1).toNat)
      case atStart => exact ⟨n, (n : Int) - 1, Nat.le_refl _, rfl, rfl, by rw [HT0.out], Below.refl _ _⟩
      case round =>
        obtain ⟨k, m, hk, hm, rfl, rfl, hbr⟩ := hrel
        have ex := EX.out
        have ey := EY.out
        have BSr := Lib.hid (BS.out.below hbr BS.out.lt)
        have ZR := Lib.hid (ZV.out.below hbr ZV.out.lt)
        have HVr := Lib.hid (HV.out.trans (hbr.mono HV.out.size))
        have HBr := Lib.hid hbr
        have zr : w.heap.size + 1 < wr.heap.size := ZR.out.lt
        clear hbr rowS rowT rzV kx ky kw kt
        have rowS : rowOf wr w.heap.size = scrA s := BSr.out.of
        have rzV : RowZ wr (w.heap.size + 1) 31 := RowZ.of ZR.out.row 31 rfl
        have kx : wr.cell? ⟨w.heap.size, 9, none⟩ = some (.int .i64 (X : Int)) := by rw [← ex]; exact BSr.out.cell 9
        have ky : wr.cell? ⟨w.heap.size, 10, none⟩ = some (.int .i64 (Y : Int)) := by rw [← ey]; exact BSr.out.cell 10
        have kt : wr.cell? ⟨w.heap.size, 28, none⟩ = some (.slice s.tA n s.tk) := by rw [← HL.out]; exact BSr.out.cell 28
        clear ex ey
        cases k with
        | zero =>
          have hm0 : ¬ (0 : Int) ≤ m := by omega
          have hm1 : m < 0 := by omega
          rw [HTZ.out]
          generalize tabN (X : Int) ((W : Int) - 1) s.tabs = nx at *
          go_wp2_with fail
          refine (HGO.out _ HVr.out (nx) (Y : Int)).mono ?_
          rintro e v3 ⟨t3, rfl, ho3, hd3, hb3⟩
          have Z3 := Lib.hid (ZR.out.below hb3 ZR.out.lt)
          have H3 := Lib.hid (HVr.out.trans (hb3.mono HVr.out.size))
          have O3 := Lib.hid (ho3.more (base' := w.heap.size + 2) (by omega))
          have D3 := Lib.hid hd3
          have rz3 : RowZ v3 (w.heap.size + 1) 31 := RowZ.of Z3.out.row 31 rfl
          clear ho3 hd3 hb3 HGO rowS rzV
          go_wp2_with fail
          refine bodyPost_ret (v := .agg (scrA t3)) (res55 Try.results31 _ _ (w.heap.size + 1) _ (by simp) (Z3.out.row.setRow) rfl) rfl ⟨t3, rfl, ?_, ?_, ?_⟩
          · exact ((O3.out.row_ _ _ (by omega)).more (by omega))
          · rw [HF.out, D3.out, okF_yes HKY.out, HU.out]
          · exact below_setRow H3.out (by omega) _
        | succ j =>
          obtain rfl : m = (j : Int) := by omega
          clear hm
          have hlf : j < s.tabs.length := by rw [HL.out]; omega
          have hjn : j < n := by omega
          have HST := Lib.hid (HTS.out j hlf)
          obtain ⟨bb, o, hA, hBB, hc⟩ := (HTR.out _ HVr.out).at_ hlf
          rw [hA] at kt
          generalize s.tabs[j] = q at *
          generalize tabN (X : Int) ((W : Int) - 1) (s.tabs.drop (j + 1)) = r at *
          by_cases h1 : (X : Int) < q
          · have N := Lib.hid (show tabN (X : Int) ((W : Int) - 1) (s.tabs.drop j) = q by rw [HST.out, if_pos h1])
            clear HST
            go_upto_region 12 with fail
            go_region
            all_goals
              go_wp2_with fail
              exact ⟨⟨j, (j : Int) - 1, by omega, rfl, rfl, by rw [N.out], ⟨HBr.out.os, HBr.out.tape, HBr.out.output, HBr.out.size, HBr.out.block⟩⟩, by simp [intOf]⟩
          · have N := Lib.hid (show tabN (X : Int) ((W : Int) - 1) (s.tabs.drop j) = r by rw [HST.out, if_neg h1])
            clear HST
            go_upto_region 12 with fail
            go_region
            all_goals
              go_wp2_with fail
              exact ⟨⟨j, (j : Int) - 1, by omega, rfl, rfl, by rw [N.out], ⟨HBr.out.os, HBr.out.tape, HBr.out.output, HBr.out.size, HBr.out.block⟩⟩, by simp [intOf]⟩
    by_cases hd : z = 10 ∨ z = 11 ∨ z = 12
    · have HU := Lib.hid (show ctlD s.data z = downD s.data by unfold ctlD; rw [if_neg h8, if_neg h9, if_pos hd])
      have HD := Lib.hid (l09Down_any keepC t (w.heap.size + 2) V (by omega) OV.out (by rw [D2.out]; exact HKY.out))
      rcases hd with rfl | rfl | rfl
      all_goals
        go_wp2_with fail
        refine HD.out.mono ?_
        rintro e v3 ⟨t3, rfl, hO, hd, hon⟩
        have Z3 := Lib.hid (ZV.out.only hon (fun e => ZV.out.apart OV.out (.inr (.inr e))))
        have O3 := Lib.hid hO
        have D3 := Lib.hid hd
        have H3 := Lib.hid (Only.below_ hon HV.out HV.out.size (fun i hi => by have := (OV.out.r.blk i hi).1; omega))
        have rz3 : RowZ v3 (w.heap.size + 1) 31 := RowZ.of Z3.out.row 31 rfl
        clear hO hd hon HD rzV rowS rowT HGO
        go_wp2_with fail
        refine bodyPost_ret (v := .agg (scrA t3)) (res55 Try.results31 _ _ (w.heap.size + 1) _ (by simp) (Z3.out.row.setRow) rfl) rfl ⟨t3, rfl, ?_, ?_, ?_⟩
        · exact ((O3.out.row_ _ _ (by omega)).more (by omega))
        · rw [HF.out, D3.out, D2.out, HU.out]
        · exact below_setRow H3.out (by omega) _
    have n10 : ¬ z = 10 := fun h => hd (.inl h)
    have n11 : ¬ z = 11 := fun h => hd (.inr (.inl h))
    have n12 : ¬ z = 12 := fun h => hd (.inr (.inr h))
    by_cases h13 : z = 13
    · subst h13
      have HU := Lib.hid (show ctlD s.data 13 = goD s.data 0 (Y : Int) by unfold ctlD; rw [if_neg h8, if_neg h9, if_neg hd, if_pos rfl, HY.out])
      clear hd n10 n11 n12 h8 h9
      go_wp2_with fail
      refine (HGO.out V HV.out (0) (Y : Int)).mono ?_
      rintro e v3 ⟨t3, rfl, ho3, hd3, hb3⟩
      have Z3 := Lib.hid (ZV.out.below hb3 ZV.out.lt)
      have H3 := Lib.hid (HV.out.trans (hb3.mono HV.out.size))
      have O3 := Lib.hid (ho3.more (base' := w.heap.size + 2) (by omega))
      have D3 := Lib.hid hd3
      have rz3 : RowZ v3 (w.heap.size + 1) 31 := RowZ.of Z3.out.row 31 rfl
      clear ho3 hd3 hb3 HGO rowS rowT rzV
      go_wp2_with fail
      refine bodyPost_ret (v := .agg (scrA t3)) (res55 Try.results31 _ _ (w.heap.size + 1) _ (by simp) (Z3.out.row.setRow) rfl) rfl ⟨t3, rfl, ?_, ?_, ?_⟩
      · exact ((O3.out.row_ _ _ (by omega)).more (by omega))
      · rw [HF.out, D3.out, okF_yes HKY.out, HU.out]
      · exact below_setRow H3.out (by omega) _
    have HU := Lib.hid (show ctlD s.data z = s.data by unfold ctlD; rw [if_neg h8, if_neg h9, if_neg hd, if_neg h13])
    clear hd HGO
    go_wp2_with fail
    refine bodyPost_ret (v := .agg (scrA t)) (res55 Try.results31 _ _ (w.heap.size + 1) _ (by simp) (ZV.out.row.setRow) rfl) rfl ⟨t, rfl, ?_, ?_, ?_⟩
    · exact ((OV.out.row_ _ _ (by omega)).more (by omega))
    · rw [HF.out, D2.out, HU.out]
    · exact below_setRow HV.out (by omega) _
end Go.Proofs.Ythlpchojlddnbaa.Sc

