/- What the model makes of a control sequence. -/
import Derived.Test.YtgnpgkkjcloghaaGreatCsX
import Derived.Test.YtgnpgkkjcloghaaGreatCsP
set_option maxRecDepth 100000
set_option maxHeartbeats 6400000
set_option linter.unusedVariables false
namespace Go.Proofs.YtgnpgkkjcloghaaGreat.Sc
open Lib
open Go.RowKit Bytes Rows_ RowK Gr DOk Opq Attr
attribute [local go_sem ↓] Sc.exec_storeS Sc.exec_loadS
attribute [local go_sem] rowOf_drew blkOf_ptr isHead_ptr aggN_agg setRow_alloc rowZ_at rowZ_past scrA_size one_scr rowOf_alloc_at rowOf_alloc_past
attribute [local go_sem] sa_w sa_h sa_mw sa_mh sa_M sa_aw sa_ah sa_A sa_onAlt sa_x sa_y sa_wrap sa_fg sa_bg sa_b sa_u sa_t sa_top sa_bot sa_noWrap sa_hide sa_sx sa_sy sa_sfg sa_sbg sa_sb sa_su sa_st sa_tabs sa_lim sa_rows
attribute [local go_sem] scr_at0 scr_at1 scr_at2 scr_at3 scr_at4 scr_at5 scr_at6 scr_at7 scr_at8 scr_at9 scr_at10 scr_at11 scr_at12 scr_at13 scr_at14 scr_at15 scr_at16 scr_at17 scr_at18 scr_at19 scr_at20 scr_at21 scr_at22 scr_at23 scr_at24 scr_at25 scr_at26 scr_at27 scr_at28 scr_at29 scr_at30
theorem spec_ScrCsi_any (s : ScrS) (w : World) (B : Nat) (mark : Bool) (A : Option Addr) (n c : Nat) (zs : List Int) (z : Int) (ho : OwnS w B s) (hn : szS s ≤ 1048576) (hr : RdI w w.heap.size A zs) (hl : zs.length = n) (hn2 : n ≤ 1099511627776) :
    Calls Tryz.prog 5 #[.agg (scrA s), .bool mark, .slice A n c, .int .i64 z] w (AnsS (csiF mark zs z s.data) w) := by
  have hone0 : One #[.int .i64 0, .int .i64 0, .int .i64 0, .int .i64 0, .slice none 0 0, .int .i64 0, .int .i64 0, .slice none 0 0, .bool false, .int .i64 0, .int .i64 0, .bool false, .int .i64 0, .int .i64 0, .bool false, .bool false, .bool false, .int .i64 0, .int .i64 0, .bool false, .bool false, .int .i64 0, .int .i64 0, .int .i64 0, .int .i64 0, .bool false, .bool false, .bool false, .slice none 0 0, .int .i64 0, .slice none 0 0] := one_scr zeroS
  obtain ⟨W1, hW⟩ : ∃ W, W = (w.alloc (.cells (scrA s) 38)).alloc (.cells #[.int .i64 0, .int .i64 0, .int .i64 0, .int .i64 0, .slice none 0 0, .int .i64 0, .int .i64 0, .slice none 0 0, .bool false, .int .i64 0, .int .i64 0, .bool false, .int .i64 0, .int .i64 0, .bool false, .bool false, .bool false, .int .i64 0, .int .i64 0, .bool false, .bool false, .int .i64 0, .int .i64 0, .int .i64 0, .int .i64 0, .bool false, .bool false, .bool false, .slice none 0 0, .int .i64 0, .slice none 0 0] 38) := ⟨_, rfl⟩
  have RB1 := hid (show RowS W1 w.heap.size s from by rw [hW]; exact (RowS.new w s).alloc _)
  have RZ1 := hid (show RowS W1 (w.heap.size + 1) zeroS from by
    rw [hW]
    have h := RowS.new (w.alloc (.cells (scrA s) 38)) zeroS
    rw [World.size_alloc] at h; exact h)
  have hal0 : Below w.heap.size w W1 := by rw [hW]; exact ((Below.refl w.heap.size w).alloc (Nat.le_refl _) _).alloc (by simp) _
  have H1 := hid hal0
  have O1 := hid (ho.below (Nat.le_refl _) hal0)
  have hs1 : w.heap.size + 1 < W1.heap.size := RZ1.out.lt
  have row1 : rowOf W1 w.heap.size = scrA s := RB1.out.of
  have rz1 : RowZ W1 (w.heap.size + 1) 31 := RowZ.of RZ1.out.row 31 rfl
  clear hal0
  have HOK := hid (spec_ScrOk_any s W1 O1.out.rd hn)
  have HTR := hid (fun V (hb : Below w.heap.size w V) => show RdI V w.heap.size A zs from hr.below (Nat.le_refl _) hb)
  have HL := hid hl
  have HNO := hid (fun (k : Nat) (hk : k < zs.length) (h : decide (0 ≤ zs[k] ∧ zs[k] ≤ 9999) = false) => show argB zs = false from by
    unfold argB
    rw [List.all_eq_false.2 ⟨zs[k], List.getElem_mem hk, by rw [h]; decide⟩, Bool.and_false])
  have HEN := hid (fun (h8 : n ≤ 8) (h : (zs.take n).all (fun z => decide (0 ≤ z ∧ z ≤ 9999)) = true) => show argB zs = true from by
    rw [← hl, List.take_length] at h
    unfold argB
    rw [h, Bool.and_true, hl]; exact decide_eq_true h8)
  have HNX := hid (fun (k : Nat) (hk : k < zs.length) (h : (zs.take k).all (fun z => decide (0 ≤ z ∧ z ≤ 9999)) = true) (h2 : decide (0 ≤ zs[k] ∧ zs[k] ≤ 9999) = true) => show (zs.take (k + 1)).all (fun z => decide (0 ≤ z ∧ z ≤ 9999)) = true from by
    rw [List.take_add_one, List.getElem?_eq_getElem hk, List.all_append, h]; simpa using h2)
  have HCP := hid (fun V (h : Below w.heap.size w V) => l09Copy_own s V B (ho.below (Nat.le_refl _) h) hn)
  have hL8 := hid (fun (h : 8 < n) => show argB zs = false from by unfold argB; rw [hl, show decide (n ≤ 8) = false from decide_eq_false (by omega), Bool.false_and])
  clear ho hn hr hl
  cases hok : okD s.data
  · have HF := hid (show csiF mark zs z s.data = zeroS.data from by
      unfold csiF
      split
      · rw [okF_no hok]; rfl
      · rfl)
    go_enter Tryz.func5, Tryz.ntmps5
    go_upto_region 1 with fail
    rw [← hW]
    clear hW
    go_wp2_with fail
    refine HOK.out.mono ?_
    rintro e v1 ⟨rfl, hb1⟩
    rw [hok]
    have RZ2 := hid (RZ1.out.below hb1 RZ1.out.lt)
    have H2 := hid (H1.out.trans (hb1.mono (by omega)))
    have rz2 : RowZ v1 (w.heap.size + 1) 31 := RowZ.of RZ2.out.row 31 rfl
    clear hb1 row1 rz1
    go_wp2_with fail
    refine bodyPost_ret (v := .agg (scrA zeroS)) (res55 Tryz.results5 _ _ (w.heap.size + 1) _ (by simp) (RZ2.out.row.setRow) rfl) rfl ⟨zeroS, rfl, zeroS_own _ _, HF.out.symm, below_setRow H2.out (by omega) _⟩
  by_cases h8 : 8 < n
  · have HF := hid (show csiF mark zs z s.data = zeroS.data from by unfold csiF; rw [hL8.out h8]; rfl)
    have h8' : (8 : Int) < (n : Int) := by omega
    go_enter Tryz.func5, Tryz.ntmps5
    go_upto_region 1 with fail
    rw [← hW]
    clear hW
    go_wp2_with fail
    refine HOK.out.mono ?_
    rintro e v1 ⟨rfl, hb1⟩
    rw [hok]
    have RZ2 := hid (RZ1.out.below hb1 RZ1.out.lt)
    have H2 := hid (H1.out.trans (hb1.mono (by omega)))
    have rz2 : RowZ v1 (w.heap.size + 1) 31 := RowZ.of RZ2.out.row 31 rfl
    clear hb1 row1 rz1
    go_wp2_with fail
    refine bodyPost_ret (v := .agg (scrA zeroS)) (res55 Tryz.results5 _ _ (w.heap.size + 1) _ (by simp) (RZ2.out.row.setRow) rfl) rfl ⟨zeroS, rfl, zeroS_own _ _, HF.out.symm, below_setRow H2.out (by omega) _⟩
  · have h8' : ¬ (8 : Int) < (n : Int) := by omega
    go_enter Tryz.func5, Tryz.ntmps5
    go_upto_region 1 with fail
    rw [← hW]
    clear hW
    go_wp2_with fail
    refine HOK.out.mono ?_
    rintro e v1 ⟨rfl, hb1⟩
    rw [hok]
    have RB2 := hid (RB1.out.below hb1 RB1.out.lt)
    have RZ2 := hid (RZ1.out.below hb1 RZ1.out.lt)
    have H2 := hid (H1.out.trans (hb1.mono (by omega)))
    have HR2 := hid (HTR.out v1 H2.out)
    have hz1v : w.heap.size + 1 < v1.heap.size := RZ2.out.lt
    have hz0v : w.heap.size < v1.heap.size := by omega
    have rz2 : RowZ v1 (w.heap.size + 1) 31 := RowZ.of RZ2.out.row 31 rfl
    have row2 : rowOf v1 w.heap.size = scrA s := RB2.out.of
    clear hb1 row1 rz1 HOK
    go_wp2_with fail
    go_loop [25] (fun i => ∃ k : Nat, k ≤ n ∧ i = .int .i64 k ∧ (zs.take k).all (fun z => decide (0 ≤ z ∧ z ≤ 9999)) = true) (fun i => n - (intOf i).toNat)
    case atStart => exact ⟨0, Nat.zero_le _, rfl, by simp⟩
    case round =>
      obtain ⟨k, hk, rfl, ha⟩ := hrel
      have HA := hid ha
      clear ha
      by_cases hlt : k < n
      · have hlf : k < zs.length := by rw [HL.out]; exact hlt
        obtain ⟨b0, o0, rfl, hb0, hc0⟩ := HR2.out.at_ hlf
        have HX := hid (fun h => HNX.out k hlf HA.out h)
        have HN := hid (fun h => HNO.out k hlf h)
        generalize zs[k] = y at *
        by_cases hy : 0 ≤ y ∧ y ≤ 9999
        · have HOKy := hid (show decide (0 ≤ y ∧ y ≤ 9999) = true from decide_eq_true hy)
          obtain ⟨y0, y1⟩ := hy
          go_wp2_with fail
          go_round
          case rel => exact ⟨k + 1, by omega, by go_num, HX.out HOKy.out⟩
          case measure => simp [intOf]; omega
        · have HOKy := hid (show decide (0 ≤ y ∧ y ≤ 9999) = false from decide_eq_false hy)
          have HF := hid (show csiF mark zs z s.data = zeroS.data from by unfold csiF; rw [HN.out HOKy.out]; rfl)
          by_cases hy0 : y < 0
          · go_wp2_with fail
            refine bodyPost_ret (v := .agg (scrA zeroS)) (res55 Tryz.results5 _ _ (w.heap.size + 1) _ (by simp) (RZ2.out.row.setRow) rfl) rfl ⟨zeroS, rfl, zeroS_own _ _, HF.out.symm, below_setRow H2.out (by omega) _⟩
          · have hy1 : 9999 < y := by omega
            have hy2 : 0 ≤ y := by omega
            go_wp2_with fail
            refine bodyPost_ret (v := .agg (scrA zeroS)) (res55 Tryz.results5 _ _ (w.heap.size + 1) _ (by simp) (RZ2.out.row.setRow) rfl) rfl ⟨zeroS, rfl, zeroS_own _ _, HF.out.symm, below_setRow H2.out (by omega) _⟩
      · obtain rfl : n = k := by omega
        have hab := HEN.out (by omega) HA.out
        clear HNO HNX HEN hL8
        go_upto_region 9 with fail
        go_wp2_with fail
        refine (HCP.out v1 H2.out).mono ?_
        rintro e v2 ⟨t, rfl, hot, hdt, hb2⟩
        have hv12 : v1.heap.size ≤ v2.heap.size := hb2.size
        have hal := (Below.refl v2.heap.size v2).alloc (Nat.le_refl _) (.cells (scrA t) 38)
        obtain ⟨W3, hW3⟩ : ∃ W3, W3 = v2.alloc (.cells (scrA t) 38) := ⟨_, rfl⟩
        rw [← hW3] at hal
        have BX := hid (show RowS W3 v2.heap.size t from by rw [hW3]; exact RowS.new v2 t)
        have O3 := hid (hot.below (Nat.le_refl _) hal)
        have D1 := hid hdt
        have HB3 := hid (hb2.trans (hal.mono hv12))
        have Z3 := hid (RZ2.out.below HB3.out hz1v)
        have H3w := hid (H2.out.trans (HB3.out.mono (by omega)))
        have hW3s : W3.heap.size = v2.heap.size + 1 := by rw [hW3]; simp
        have rowx : rowOf W3 v2.heap.size = scrA t := BX.out.of
        have rz3 : RowZ W3 (w.heap.size + 1) 31 := RowZ.of Z3.out.row 31 rfl
        have hx3 : v2.heap.size < W3.heap.size := by omega
        clear hot hdt hb2 hal HCP row2 rz2
        go_upto_region 10 with fail
        rw [← hW3]
        clear hW3
        cases mark
        · have HPL := hid (l10Plain_any t v1.heap.size A n c zs z W3 (by omega) O3.out (by rw [D1.out]; exact hok) ((HTR.out W3 H3w.out).more (by omega)) HL.out hab)
          have HF := hid (show csiF false zs z s.data = csiP s.data zs z from by unfold csiF; rw [hab, if_pos rfl, okF_yes hok]; rfl)
          go_wp2_with fail
          refine HPL.out.mono ?_
          rintro e v3 ⟨t3, rfl, ho3, hd3, hb3⟩
          have O4 := hid ho3
          have D4 := hid hd3
          have Z4 := hid (Z3.out.below hb3 hz1v)
          have H4 := hid (H3w.out.trans (hb3.mono (by omega)))
          have rz4 : RowZ v3 (w.heap.size + 1) 31 := RowZ.of Z4.out.row 31 rfl
          clear ho3 hd3 hb3 HPL rowx rz3
          go_wp2_with fail
          refine bodyPost_ret (v := .agg (scrA t3)) (res55 Tryz.results5 _ _ (w.heap.size + 1) _ (by simp) (Z4.out.row.setRow) rfl) rfl ⟨t3, rfl, ?_, ?_, ?_⟩
          · exact (OwnS.keepRow (O4.out) (w.heap.size + 1) _ (.inr (RowS.apart (Z4.out) (O4.out)))).more (by omega)
          · rw [HF.out, D4.out, D1.out]
          · exact below_setRow H4.out (by omega) _
        · by_cases z104 : z = 104
          · subst z104
            have HF := hid (show csiF true zs 104 s.data = modesD s.data zs true from by unfold csiF; rw [hab, if_pos rfl, okF_yes hok]; exact (show csiD s.data true zs 104 = modesD s.data zs true from rfl))
            clear hab
            go_wp2_with fail
            go_loopw [47] (fun i wr => ∃ k : Nat, k ≤ n ∧ i = .int .i64 (k : Int) ∧ ∃ t2, RowS wr v2.heap.size t2 ∧ OwnS wr v1.heap.size t2 ∧ okD t2.data = true ∧ t2.data = modesD s.data (zs.take k) true ∧ Below v1.heap.size W3 wr) (fun i _ => n - (intOf i).toNat)
            case atStart => exact ⟨0, Nat.zero_le _, rfl, t, BX.out, O3.out, by rw [D1.out]; exact hok, D1.out, Below.refl _ _⟩
            case round =>
              clear rowx rz3
              obtain ⟨k, hk, rfl, t2, hR, hO, hok2, hd, hb⟩ := hrel
              have Hr := hid (H3w.out.trans (hb.mono (by omega)))
              have hbz : v1.heap.size ≤ wr.heap.size := by have := hb.size; omega
              by_cases hlt : k < n
              · have hlt' : k < zs.length := by rw [HL.out]; exact hlt
                obtain ⟨b0, o0, rfl, hb0, hc⟩ := (HTR.out wr Hr.out).at_ hlt'
                have HS := hid (modesD_snoc s.data zs true k hlt')
                have HM := hid (l10Mode_any t2 v1.heap.size zs[k] true wr hbz hO hok2)
                have HK2 := hid (ok_mode hok2 zs[k] true)
                generalize zs[k] = y at *
                have HD2 := hid hd
                have BXr := hid hR
                have HWr := hid hb
                have rowb : rowOf wr v2.heap.size = scrA t2 := hR.of
                clear hR hO hok2 hd hb hlt'
                go_wp2_with fail
                refine HM.out.mono ?_
                rintro e v ⟨t3, rfl, hO3, hd3, hb3⟩
                have rzb : RowZ v v2.heap.size 31 := RowZ.of (BXr.out.below hb3 BXr.out.lt).row 31 rfl
                have H3 := hid (show RowS (v.setRow v2.heap.size (scrA t3)) v2.heap.size t3 ∧ OwnS (v.setRow v2.heap.size (scrA t3)) v1.heap.size t3 ∧ okD t3.data = true ∧ t3.data = modesD s.data (zs.take (k + 1)) true ∧ Below v1.heap.size W3 (v.setRow v2.heap.size (scrA t3)) from
                  ⟨(BXr.out.below hb3 BXr.out.lt).store, hO3.keepRow _ _ (.inr ((BXr.out.below hb3 BXr.out.lt).apart hO3)), by rw [hd3]; exact HK2.out, by rw [HS.out, hd3, HD2.out], below_setRow (HWr.out.trans (hb3.mono hbz)) hv12 _⟩)
                clear hO3 hd3 hb3 HM hc rowb
                go_wp2_with fail
                exact ⟨⟨k + 1, by omega, by go_num, t3, H3.out⟩, by simp [intOf]; omega⟩
              · obtain rfl : n = k := by omega
                rw [show zs.take n = zs from List.take_of_length_le (by rw [HL.out]; exact Nat.le_refl _)] at hd
                have D2 := hid hd
                have O2 := hid hO
                have Z2 := hid (Z3.out.below hb hz1v)
                have rowb : rowOf wr v2.heap.size = scrA t2 := hR.of
                have rzr : RowZ wr (w.heap.size + 1) 31 := RowZ.of Z2.out.row 31 rfl
                have lb : v2.heap.size < wr.heap.size := hR.lt
                clear hR hO hok2 hd hb
                go_wp2_with fail
                refine bodyPost_ret (v := .agg (scrA t2)) (res55 Tryz.results5 _ _ (w.heap.size + 1) _ (by simp) (Z2.out.row.setRow) rfl) rfl ⟨t2, rfl, ?_, ?_, ?_⟩
                · exact (OwnS.keepRow (O2.out) (w.heap.size + 1) _ (.inr (RowS.apart (Z2.out) (O2.out)))).more (by omega)
                · rw [HF.out, ← D2.out]
                · exact below_setRow Hr.out (by omega) _
          by_cases z108 : z = 108
          · subst z108
            have HF := hid (show csiF true zs 108 s.data = modesD s.data zs false from by unfold csiF; rw [hab, if_pos rfl, okF_yes hok]; exact (show csiD s.data true zs 108 = modesD s.data zs false from rfl))
            clear hab
            go_wp2_with fail
            go_loopw [47] (fun i wr => ∃ k : Nat, k ≤ n ∧ i = .int .i64 (k : Int) ∧ ∃ t2, RowS wr v2.heap.size t2 ∧ OwnS wr v1.heap.size t2 ∧ okD t2.data = true ∧ t2.data = modesD s.data (zs.take k) false ∧ Below v1.heap.size W3 wr) (fun i _ => n - (intOf i).toNat)
            case atStart => exact ⟨0, Nat.zero_le _, rfl, t, BX.out, O3.out, by rw [D1.out]; exact hok, D1.out, Below.refl _ _⟩
            case round =>
              clear rowx rz3
              obtain ⟨k, hk, rfl, t2, hR, hO, hok2, hd, hb⟩ := hrel
              have Hr := hid (H3w.out.trans (hb.mono (by omega)))
              have hbz : v1.heap.size ≤ wr.heap.size := by have := hb.size; omega
              by_cases hlt : k < n
              · have hlt' : k < zs.length := by rw [HL.out]; exact hlt
                obtain ⟨b0, o0, rfl, hb0, hc⟩ := (HTR.out wr Hr.out).at_ hlt'
                have HS := hid (modesD_snoc s.data zs false k hlt')
                have HM := hid (l10Mode_any t2 v1.heap.size zs[k] false wr hbz hO hok2)
                have HK2 := hid (ok_mode hok2 zs[k] false)
                generalize zs[k] = y at *
                have HD2 := hid hd
                have BXr := hid hR
                have HWr := hid hb
                have rowb : rowOf wr v2.heap.size = scrA t2 := hR.of
                clear hR hO hok2 hd hb hlt'
                go_wp2_with fail
                refine HM.out.mono ?_
                rintro e v ⟨t3, rfl, hO3, hd3, hb3⟩
                have rzb : RowZ v v2.heap.size 31 := RowZ.of (BXr.out.below hb3 BXr.out.lt).row 31 rfl
                have H3 := hid (show RowS (v.setRow v2.heap.size (scrA t3)) v2.heap.size t3 ∧ OwnS (v.setRow v2.heap.size (scrA t3)) v1.heap.size t3 ∧ okD t3.data = true ∧ t3.data = modesD s.data (zs.take (k + 1)) false ∧ Below v1.heap.size W3 (v.setRow v2.heap.size (scrA t3)) from
                  ⟨(BXr.out.below hb3 BXr.out.lt).store, hO3.keepRow _ _ (.inr ((BXr.out.below hb3 BXr.out.lt).apart hO3)), by rw [hd3]; exact HK2.out, by rw [HS.out, hd3, HD2.out], below_setRow (HWr.out.trans (hb3.mono hbz)) hv12 _⟩)
                clear hO3 hd3 hb3 HM hc rowb
                go_wp2_with fail
                exact ⟨⟨k + 1, by omega, by go_num, t3, H3.out⟩, by simp [intOf]; omega⟩
              · obtain rfl : n = k := by omega
                rw [show zs.take n = zs from List.take_of_length_le (by rw [HL.out]; exact Nat.le_refl _)] at hd
                have D2 := hid hd
                have O2 := hid hO
                have Z2 := hid (Z3.out.below hb hz1v)
                have rowb : rowOf wr v2.heap.size = scrA t2 := hR.of
                have rzr : RowZ wr (w.heap.size + 1) 31 := RowZ.of Z2.out.row 31 rfl
                have lb : v2.heap.size < wr.heap.size := hR.lt
                clear hR hO hok2 hd hb
                go_wp2_with fail
                refine bodyPost_ret (v := .agg (scrA t2)) (res55 Tryz.results5 _ _ (w.heap.size + 1) _ (by simp) (Z2.out.row.setRow) rfl) rfl ⟨t2, rfl, ?_, ?_, ?_⟩
                · exact (OwnS.keepRow (O2.out) (w.heap.size + 1) _ (.inr (RowS.apart (Z2.out) (O2.out)))).more (by omega)
                · rw [HF.out, ← D2.out]
                · exact below_setRow Hr.out (by omega) _
          · have z104b : (z == 104) = false := by simpa using z104
            have z108b : (z == 108) = false := by simpa using z108
            have z104d : decide (z = 104) = false := decide_eq_false z104
            have z108d : decide (z = 108) = false := decide_eq_false z108
            have HF := hid (show csiF true zs z s.data = s.data from by unfold csiF; rw [hab, if_pos rfl, okF_yes hok]; exact (show csiD s.data true zs z = s.data from by show (if z = 104 ∨ z = 108 then modesD s.data zs (decide (z = 104)) else s.data) = s.data; rw [if_neg (by omega)]))
            clear hab
            go_wp2_with fail
            go_loopw [47] (fun i wr => ∃ k : Nat, k ≤ n ∧ i = .int .i64 (k : Int) ∧ ∃ t2, RowS wr v2.heap.size t2 ∧ OwnS wr v1.heap.size t2 ∧ okD t2.data = true ∧ t2.data = s.data ∧ Below v1.heap.size W3 wr) (fun i _ => n - (intOf i).toNat)
            case atStart => exact ⟨0, Nat.zero_le _, rfl, t, BX.out, O3.out, by rw [D1.out]; exact hok, D1.out, Below.refl _ _⟩
            case round =>
              clear rowx rz3
              obtain ⟨k, hk, rfl, t2, hR, hO, hok2, hd, hb⟩ := hrel
              have Hr := hid (H3w.out.trans (hb.mono (by omega)))
              have hbz : v1.heap.size ≤ wr.heap.size := by have := hb.size; omega
              by_cases hlt : k < n
              · skip
                have hlt' : k < zs.length := by rw [HL.out]; exact hlt
                obtain ⟨b0, o0, rfl, hb0, hc⟩ := (HTR.out wr Hr.out).at_ hlt'
                have H3 := hid (show RowS wr v2.heap.size t2 ∧ OwnS wr v1.heap.size t2 ∧ okD t2.data = true ∧ t2.data = s.data ∧ Below v1.heap.size W3 wr from ⟨hR, hO, hok2, hd, hb⟩)
                generalize zs[k] = y at *
                clear hR hO hok2 hd hb hlt'
                go_wp2_with fail
                exact ⟨⟨k + 1, by omega, by go_num, t2, H3.out⟩, by simp [intOf]; omega⟩
              · obtain rfl : n = k := by omega
                have D2 := hid hd
                have O2 := hid hO
                have Z2 := hid (Z3.out.below hb hz1v)
                have rowb : rowOf wr v2.heap.size = scrA t2 := hR.of
                have rzr : RowZ wr (w.heap.size + 1) 31 := RowZ.of Z2.out.row 31 rfl
                have lb : v2.heap.size < wr.heap.size := hR.lt
                clear hR hO hok2 hd hb
                go_wp2_with fail
                refine bodyPost_ret (v := .agg (scrA t2)) (res55 Tryz.results5 _ _ (w.heap.size + 1) _ (by simp) (Z2.out.row.setRow) rfl) rfl ⟨t2, rfl, ?_, ?_, ?_⟩
                · exact (OwnS.keepRow (O2.out) (w.heap.size + 1) _ (.inr (RowS.apart (Z2.out) (O2.out)))).more (by omega)
                · rw [HF.out, ← D2.out]
                · exact below_setRow Hr.out (by omega) _
end Go.Proofs.YtgnpgkkjcloghaaGreat.Sc
