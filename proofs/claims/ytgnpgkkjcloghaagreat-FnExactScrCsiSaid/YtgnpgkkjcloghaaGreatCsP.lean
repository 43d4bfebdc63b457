/- The action of a control sequence, in the program. -/
import Derived.Test.YtgnpgkkjcloghaaGreatKm16
import Derived.Test.YtgnpgkkjcloghaaGreatKiK
set_option maxRecDepth 100000
set_option maxHeartbeats 3200000
set_option linter.unusedVariables false
namespace Go.Proofs.YtgnpgkkjcloghaaGreat.Sc
open Lib
open Go.RowKit Bytes Rows_ RowK Gr DOk Opq Attr
attribute [local go_sem ↓] Sc.exec_storeS Sc.exec_loadS
attribute [local go_sem] blkOf_ptr isHead_ptr aggN_agg setRow_alloc rowZ_at rowZ_past scrA_size nsA_size one_scr rowOf_alloc_at rowOf_alloc_past rowOf_drew ns_pre
attribute [local go_sem] sa_w sa_h sa_mw sa_mh sa_M sa_aw sa_ah sa_A sa_onAlt sa_x sa_y sa_wrap sa_fg sa_bg sa_b sa_u sa_t sa_top sa_bot sa_noWrap sa_hide sa_sx sa_sy sa_sfg sa_sbg sa_sb sa_su sa_st sa_tabs sa_lim sa_rows
attribute [local go_sem] ns_w ns_h ns_mw ns_mh ns_M ns_aw ns_ah ns_A ns_onAlt ns_x ns_y ns_wrap ns_fg ns_bg ns_b ns_u ns_t ns_top ns_bot ns_noWrap ns_hide ns_sx ns_sy ns_sfg ns_sbg ns_sb ns_su ns_st ns_tabs ns_lim ns_rows
attribute [local go_sem] ns_at0 ns_at1 ns_at2 ns_at3 ns_at4 ns_at5 ns_at6 ns_at7 ns_at8 ns_at9 ns_at10 ns_at11 ns_at12 ns_at13 ns_at14 ns_at15 ns_at16 ns_at17 ns_at18 ns_at19 ns_at20 ns_at21 ns_at22 ns_at23 ns_at24 ns_at25 ns_at26 ns_at27 ns_at28 ns_at29 ns_at30 ns_at31 ns_at32 ns_at33 ns_at34 ns_at35 ns_at36 ns_at37
attribute [local go_sem] scr_at0 scr_at1 scr_at2 scr_at3 scr_at4 scr_at5 scr_at6 scr_at7 scr_at8 scr_at9 scr_at10 scr_at11 scr_at12 scr_at13 scr_at14 scr_at15 scr_at16 scr_at17 scr_at18 scr_at19 scr_at20 scr_at21 scr_at22 scr_at23 scr_at24 scr_at25 scr_at26 scr_at27 scr_at28 scr_at29 scr_at30
theorem areArgs_csi (A : Option Addr) (na ca : Nat) (zs : List Int) (w : World) (hr : RdI w w.heap.size A zs) (hl : zs.length = na) (hn : na ≤ 1099511627776) :
    Calls Tryz.prog 58 #[.slice A na ca] w fun e w' => e = .returned (.bool (argB zs)) ∧ w = w' := by
  have HR := hid hr
  have HL := hid hl
  have HNO := hid (fun (k : Nat) (hk : k < zs.length) (h : decide (0 ≤ zs[k] ∧ zs[k] ≤ 9999) = false) => show argB zs = false from by
    unfold argB
    rw [List.all_eq_false.2 ⟨zs[k], List.getElem_mem hk, by rw [h]; decide⟩, Bool.and_false])
  have HEN := hid (fun (h : (zs.take na).all (fun z => decide (0 ≤ z ∧ z ≤ 9999)) = true) => show argB zs = decide (na ≤ 8) from by
    rw [← hl, List.take_length] at h
    unfold argB
    rw [h, Bool.and_true, hl])
  have HNX := hid (fun (k : Nat) (hk : k < zs.length) (h : (zs.take k).all (fun z => decide (0 ≤ z ∧ z ≤ 9999)) = true) (h2 : decide (0 ≤ zs[k] ∧ zs[k] ≤ 9999) = true) => show (zs.take (k + 1)).all (fun z => decide (0 ≤ z ∧ z ≤ 9999)) = true from by
    rw [List.take_add_one, List.getElem?_eq_getElem hk, List.all_append, h]; simpa using h2)
  clear hr hl
  go_enter Tryz.func58, Tryz.ntmps58
  go_wp2_with fail
  go_loop [7] (fun i => ∃ k : Nat, k ≤ na ∧ i = .int .i64 k ∧ (zs.take k).all (fun z => decide (0 ≤ z ∧ z ≤ 9999)) = true) (fun i => na - (intOf i).toNat)
  case atStart => exact ⟨0, Nat.zero_le _, rfl, by simp⟩
  case round =>
    obtain ⟨k, hk, rfl, ha⟩ := hrel
    have HA := hid ha
    clear ha
    by_cases hlt : k < na
    · have hlf : k < zs.length := by rw [HL.out]; exact hlt
      obtain ⟨b, o, rfl, hB, hc0⟩ := HR.out.at_ hlf
      have HX := hid (fun h => HNX.out k hlf HA.out h)
      have HN := hid (fun h => HNO.out k hlf h)
      generalize zs[k] = z at *
      by_cases hz : 0 ≤ z ∧ z ≤ 9999
      · have HOK := hid (show decide (0 ≤ z ∧ z ≤ 9999) = true from decide_eq_true hz)
        obtain ⟨z0, z1⟩ := hz
        go_wp2_with fail
        go_round
        case rel => exact ⟨k + 1, by omega, by go_num, HX.out HOK.out⟩
        case measure => simp [intOf]; omega
      · have HOK := hid (show decide (0 ≤ z ∧ z ≤ 9999) = false from decide_eq_false hz)
        by_cases hz0 : z < 0
        · go_wp2_with fail
          go_ret
          exact ⟨ret_bool (HN.out HOK.out).symm, rfl⟩
        · have hz1 : 9999 < z := by omega
          have hz2 : 0 ≤ z := by omega
          go_wp2_with fail
          go_ret
          exact ⟨ret_bool (HN.out HOK.out).symm, rfl⟩
    · obtain rfl : na = k := by omega
      have HE := hid (HEN.out HA.out)
      by_cases h8 : na ≤ 8
      · have HE' := hid (HE.out.trans (decide_eq_true h8))
        go_wp2_with fail
        go_ret
        exact ⟨ret_bool (by rw [HE'.out]; exact decide_eq_true (by omega)), rfl⟩
      · have HE' := hid (HE.out.trans (decide_eq_false h8))
        go_wp2_with fail
        go_ret
        exact ⟨ret_bool (by rw [HE'.out]; exact decide_eq_false (by omega)), rfl⟩
noncomputable def csiF (mark : Bool) (zs : List Int) (z : Int) (d : ScrD) : ScrD := if argB zs then okF (fun d => csiD d mark zs z) d else zeroS.data
theorem act_csi (t : ScrS) (g B : Nat) (A : Option Addr) (n c : Nat) (zs : List Int) (mark : Bool) (z : Int) (w : World) (h : SqIn t g B A n c zs w) (ha : RdI w B A zs) (hb : (Lit.int .i64 z).wf = true) :
    Calls Tryz.prog 61 #[.pointer (some ⟨g, 0, none⟩), .agg #[.int .i64 4, .int .i64 z, .bool mark, .slice A n c]] w (Mth B g (csiD t.data mark zs z) w) := by
  have hBw : B ≤ w.heap.size := by have := h.B; have := h.r.lt; omega
  have h1 := (Below.refl w.heap.size w).alloc (Nat.le_refl _) (.cells #[.int .i64 4, .int .i64 z, .bool mark, .slice A n c] 58)
  have HB1 := hid (h1.mono hBw)
  have HC := hid (csi_any t g B A n c zs mark z (w.alloc (.cells #[.int .i64 4, .int .i64 z, .bool mark, .slice A n c] 58)) (h.below h1) (ha.below (Nat.le_refl _) (h1.mono hBw)) hb)
  clear h ha hb h1
  go_enter Tryz.func61, Tryz.ntmps61
  go_wp2_with fail
  refine HC.out.mono ?_
  rintro e v ⟨rfl, t2, hR, hO, hd, hbb⟩
  have K := hid (show ∃ t', RowN v g t' ∧ OwnS v B t' ∧ t'.data = csiD t.data mark zs z ∧ Below B w v from ⟨t2, hR, hO, hd, HB1.out.trans hbb⟩)
  clear hR hO hd hbb HC
  go_wp2_with fail
  go_end0
  exact ⟨rfl, K.out⟩
theorem changed_Act (s : ScrS) (w : World) (b : Nat) (F : ScrD → ScrD) (c1 : Value) (ho : OwnS w b s) (hn : szS s ≤ 1048576)
    (HM : okD s.data = true → ∀ W B g t, Below w.heap.size w W → w.heap.size + 2 ≤ B → RowN W g t → OwnS W B t → B ≤ g → t.data = s.data → Calls Tryz.prog 60 #[.pointer (some ⟨g, 0, none⟩), c1] W (Mth B g (F s.data) W)) :
    Calls Tryz.prog 59 #[.agg (scrA s), .func (.func 60) #[] #[c1]] w (AnsS (okF F s.data) w) := by
  have H0 := hid (((Below.refl w.heap.size w).alloc (Nat.le_refl _) (.cells (scrA s) 38)).alloc (by simp) (.cells (scrA zeroS) 38))
  have B0 := hid (show RowS ((w.alloc (.cells (scrA s) 38)).alloc (.cells (scrA zeroS) 38)) w.heap.size s from (RowS.new w s).alloc _)
  have Z0 := hid (show RowS ((w.alloc (.cells (scrA s) 38)).alloc (.cells (scrA zeroS) 38)) (w.heap.size + 1) zeroS from by have h := RowS.new (w.alloc (.cells (scrA s) 38)) zeroS; simpa using h)
  have hone0 : One #[.int .i64 0, .int .i64 0, .int .i64 0, .int .i64 0, .slice none 0 0, .int .i64 0, .int .i64 0, .slice none 0 0, .bool false, .int .i64 0, .int .i64 0, .bool false, .int .i64 0, .int .i64 0, .bool false, .bool false, .bool false, .int .i64 0, .int .i64 0, .bool false, .bool false, .int .i64 0, .int .i64 0, .int .i64 0, .int .i64 0, .bool false, .bool false, .bool false, .slice none 0 0, .int .i64 0, .slice none 0 0] := one_scr zeroS
  have HOK := hid (fun W (h : Below w.heap.size w W) => impl_ScrOk_any s W (ho.below (Nat.le_refl _) h).rd hn)
  have HNW := hid (fun W (h : Below w.heap.size w W) => newScreen_any s W b (ho.below (Nat.le_refl _) h) hn)
  have HMM := hid HM
  clear ho HM hn
  have hmf : ∀ (fn : Fn) (first cap : Array Value) (w : World), (Instr.makeFunc fn first cap).run Tryz.prog w = .ok (.func fn first cap) w := fun _ _ _ _ => rfl
  cases hok : okD s.data
  · have HF := hid (okF_no (f := F) hok)
    go_enter Tryz.func59, Tryz.ntmps59
    go_wp2_with fail
    refine (HOK.out _ H0.out).mono ?_
    rintro e v1 ⟨rfl, hb1⟩
    rw [hok]
    have Z1 := hid (Z0.out.below hb1 Z0.out.lt)
    have H1 := hid (H0.out.trans (hb1.mono (by simp; omega)))
    have rz1 : RowZ v1 (w.heap.size + 1) 31 := RowZ.of Z1.out.row 31 rfl
    clear hb1 B0 Z0 H0 HOK HNW HMM
    go_wp2_with fail
    refine bodyPost_ret (v := .agg (scrA zeroS)) (res55 Tryz.results59 _ _ (w.heap.size + 1) _ (by simp) (Z1.out.row.setRow) rfl) rfl ⟨zeroS, rfl, ?_, ?_, ?_⟩
    · exact zeroS_own _ _
    · rw [HF.out]; rfl
    · exact below_setRow H1.out (by omega) _
  · have HF := hid (okF_yes (f := F) hok)
    have HM2 := hid (HMM.out hok)
    clear HMM
    go_enter Tryz.func59, Tryz.ntmps59
    go_wp2_with fail
    refine (HOK.out _ H0.out).mono ?_
    rintro e v1 ⟨rfl, hb1⟩
    rw [hok]
    have B1 := hid (B0.out.below hb1 B0.out.lt)
    have Z1 := hid (Z0.out.below hb1 Z0.out.lt)
    have H1 := hid (H0.out.trans (hb1.mono (by simp; omega)))
    have row1 := B1.out.of
    clear hb1 B0 Z0 H0 HOK hok
    go_wp2_with fail
    refine (HNW.out _ H1.out).mono ?_
    rintro e v2 ⟨g, t, rfl, hN2, hO2, hD2, hg2, hb2⟩
    have zz1 : w.heap.size + 1 < v1.heap.size := Z1.out.lt
    have Z2 := hid (Z1.out.below hb2 zz1)
    have H2 := hid (H1.out.trans (hb2.mono H1.out.size))
    have HMC := hid (HM2.out v2 v1.heap.size g t H2.out (by omega) hN2 hO2 hg2 hD2)
    clear hb2 B1 Z1 H1 HNW row1 HM2 hO2 hN2 hD2
    go_wp2_with fail
    refine HMC.out.mono ?_
    rintro e v3 ⟨rfl, t3, hN3, hO3, hD3, hb3⟩
    have HN3 := hid hN3
    have HO3 := hid hO3
    have HD3 := hid hD3
    have Z3 := hid (Z2.out.below hb3 zz1)
    have H3 := hid (H2.out.trans (hb3.mono (by omega)))
    clear hb3 hN3 hO3 hD3 HMC Z2 H2
    go_wp2_with fail
    refine (closed_any t3 g _ HN3.out).mono ?_
    rintro e v4 ⟨rfl, hb4⟩
    have zz3 : w.heap.size + 1 < v3.heap.size := Z3.out.lt
    have Z4 := hid (Z3.out.below hb4 zz3)
    have HO4 := hid (HO3.out.below (Nat.le_refl _) hb4)
    have H4 := hid (H3.out.trans (hb4.mono (by omega)))
    have rz4 : RowZ v4 (w.heap.size + 1) 31 := RowZ.of Z4.out.row 31 rfl
    clear hb4 HN3 HO3 Z3 H3
    go_wp2_with fail
    refine bodyPost_ret (v := .agg (scrA t3)) (res55 Tryz.results59 _ _ (w.heap.size + 1) _ (by simp) (Z4.out.row.setRow) rfl) rfl ⟨t3, rfl, ?_, ?_, ?_⟩
    · exact ((HO4.out.row_ _ _ (by omega)).more (by omega))
    · rw [HF.out]; exact HD3.out
    · exact below_setRow H4.out (by omega) _
theorem cells_alloc_newE (w : World) (C : Array Value) (T : TypeId) (n i : Nat) (h : n = w.heap.size) : (w.alloc (.cells C T)).cell? ⟨n, i, none⟩ = C[i]? := by subst h; exact cell_heap (heap_alloc_new w _) i
theorem impl_ScrAct_csi (s : ScrS) (w : World) (b : Nat) (mark : Bool) (A : Option Addr) (n c : Nat) (zs : List Int) (z : Int) (ho : OwnS w b s) (hn : szS s ≤ 1048576) (hr : RdI w w.heap.size A zs) (hl : zs.length = n) (hn2 : n ≤ 1099511627776) (hz : (Lit.int .i64 z).wf = true) :
    Calls Tryz.prog 24 #[.agg (scrA s), .agg #[.int .i64 4, .int .i64 z, .bool mark, .slice A n c]] w (AnsS (csiF mark zs z s.data) w) := by
  obtain ⟨W, hW⟩ : ∃ W, W = ((w.alloc (.cells (scrA s) 38)).alloc (.cells #[.int .i64 4, .int .i64 z, .bool mark, .slice A n c] 58)).alloc (.cells #[.int .i64 0, .int .i64 0, .int .i64 0, .int .i64 0, .slice none 0 0, .int .i64 0, .int .i64 0, .slice none 0 0, .bool false, .int .i64 0, .int .i64 0, .bool false, .int .i64 0, .int .i64 0, .bool false, .bool false, .bool false, .int .i64 0, .int .i64 0, .bool false, .bool false, .int .i64 0, .int .i64 0, .int .i64 0, .int .i64 0, .bool false, .bool false, .bool false, .slice none 0 0, .int .i64 0, .slice none 0 0] 38) := ⟨_, rfl⟩
  have H0 : Below w.heap.size w W := by rw [hW]; exact ((((Below.refl w.heap.size w).alloc (Nat.le_refl _) (.cells (scrA s) 38)).alloc (by simp <;> omega) (.cells #[.int .i64 4, .int .i64 z, .bool mark, .slice A n c] 58)).alloc (by simp <;> omega) (.cells #[.int .i64 0, .int .i64 0, .int .i64 0, .int .i64 0, .slice none 0 0, .int .i64 0, .int .i64 0, .slice none 0 0, .bool false, .int .i64 0, .int .i64 0, .bool false, .int .i64 0, .int .i64 0, .bool false, .bool false, .bool false, .int .i64 0, .int .i64 0, .bool false, .bool false, .int .i64 0, .int .i64 0, .int .i64 0, .int .i64 0, .bool false, .bool false, .bool false, .slice none 0 0, .int .i64 0, .slice none 0 0] 38))
  have B0 : RowS W w.heap.size s := by
    rw [hW]; exact (RowS.below (RowS.new w s) (B := w.heap.size + 1) (by
      refine (((Below.refl (w.heap.size + 1) (w.alloc (.cells (scrA s) 38))).alloc (by simp <;> omega) (.cells #[.int .i64 4, .int .i64 z, .bool mark, .slice A n c] 58)).alloc (by simp <;> omega) (.cells #[.int .i64 0, .int .i64 0, .int .i64 0, .int .i64 0, .slice none 0 0, .int .i64 0, .int .i64 0, .slice none 0 0, .bool false, .int .i64 0, .int .i64 0, .bool false, .int .i64 0, .int .i64 0, .bool false, .bool false, .bool false, .int .i64 0, .int .i64 0, .bool false, .bool false, .int .i64 0, .int .i64 0, .int .i64 0, .int .i64 0, .bool false, .bool false, .bool false, .slice none 0 0, .int .i64 0, .slice none 0 0] 38))) (by omega))
  have hsz : W.heap.size = w.heap.size + 1 + 1 + 1 := by rw [hW]; simp
  have C0 : W.cell? ⟨w.heap.size + 1, 0, none⟩ = some (.int .i64 4) := by rw [hW]; exact (World.cell?_alloc_lt _ _ _ (by simp <;> omega)).trans (cells_alloc_newE (w.alloc (.cells (scrA s) 38)) #[.int .i64 4, .int .i64 z, .bool mark, .slice A n c] 58 (w.heap.size + 1) 0 (by simp))
  have C1 : W.cell? ⟨w.heap.size + 1, 1, none⟩ = some (.int .i64 z) := by rw [hW]; exact (World.cell?_alloc_lt _ _ _ (by simp <;> omega)).trans (cells_alloc_newE (w.alloc (.cells (scrA s) 38)) #[.int .i64 4, .int .i64 z, .bool mark, .slice A n c] 58 (w.heap.size + 1) 1 (by simp))
  have C2 : W.cell? ⟨w.heap.size + 1, 2, none⟩ = some (.bool mark) := by rw [hW]; exact (World.cell?_alloc_lt _ _ _ (by simp <;> omega)).trans (cells_alloc_newE (w.alloc (.cells (scrA s) 38)) #[.int .i64 4, .int .i64 z, .bool mark, .slice A n c] 58 (w.heap.size + 1) 2 (by simp))
  have C3 : W.cell? ⟨w.heap.size + 1, 3, none⟩ = some (.slice A n c) := by rw [hW]; exact (World.cell?_alloc_lt _ _ _ (by simp <;> omega)).trans (cells_alloc_newE (w.alloc (.cells (scrA s) 38)) #[.int .i64 4, .int .i64 z, .bool mark, .slice A n c] 58 (w.heap.size + 1) 3 (by simp))
  have Z0 : RowS W (w.heap.size + 1 + 1) zeroS := by
    rw [hW]
    have h := RowS.new ((w.alloc (.cells (scrA s) 38)).alloc (.cells #[.int .i64 4, .int .i64 z, .bool mark, .slice A n c] 58)) zeroS
    have e : ((w.alloc (.cells (scrA s) 38)).alloc (.cells #[.int .i64 4, .int .i64 z, .bool mark, .slice A n c] 58)).heap.size = w.heap.size + 1 + 1 := by simp
    rw [e] at h; exact h
  have hoW := ho.below (Nat.le_refl _) H0
  have hrW : RdI W w.heap.size A zs := hr.below (Nat.le_refl _) H0
  have HAR := hid (areArgs_csi A n c zs W (hrW.more (by omega)) hl hn2)
  have HC := hid (fun (hab : argB zs = true) => changed_Act s W b (fun d => csiD d mark zs z) (.pointer (some ⟨w.heap.size + 1, 0, none⟩)) hoW hn (by
    intro hok W' B g t hb hB hN hO hg hd
    have hszb := hb.size
    have hrW' : RdI W' w.heap.size A zs := hrW.below (by omega) hb
    have e0 : W'.cell? ⟨w.heap.size + 1, 0, none⟩ = some (.int .i64 4) := (hb.cell (p := ⟨w.heap.size + 1, 0, none⟩) (by show w.heap.size + 1 < W.heap.size; omega)).trans C0
    have e1 : W'.cell? ⟨w.heap.size + 1, 1, none⟩ = some (.int .i64 z) := (hb.cell (p := ⟨w.heap.size + 1, 1, none⟩) (by show w.heap.size + 1 < W.heap.size; omega)).trans C1
    have e2 : W'.cell? ⟨w.heap.size + 1, 2, none⟩ = some (.bool mark) := (hb.cell (p := ⟨w.heap.size + 1, 2, none⟩) (by show w.heap.size + 1 < W.heap.size; omega)).trans C2
    have e3 : W'.cell? ⟨w.heap.size + 1, 3, none⟩ = some (.slice A n c) := (hb.cell (p := ⟨w.heap.size + 1, 3, none⟩) (by show w.heap.size + 1 < W.heap.size; omega)).trans C3
    have HM := hid (act_csi t g B A n c zs mark z W' ⟨hN, hO, by rw [hd]; exact hok, hg, hrW'.more (by omega), hl, hab⟩ (hrW'.more (by omega)) hz)
    have HD := hid hd
    clear hO hN hd hb C0 C1 C2 C3 H0 B0 Z0 hoW hW ho hrW hrW' hr hl hab HAR
    go_enter Tryz.func60, Tryz.ntmps60
    go_wp2_with fail
    refine HM.out.mono ?_
    rintro e v ⟨rfl, t2, hR, hO, hdd, hbb⟩
    have K := hid (show ∃ t', RowN v g t' ∧ OwnS v B t' ∧ t'.data = (fun d => csiD d mark zs z) s.data ∧ Below B W' v from ⟨t2, hR, hO, by rw [hdd, HD.out], hbb⟩)
    clear hR hO hdd hbb HM
    go_wp2_with fail
    go_end0
    exact ⟨rfl, K.out⟩))
  have H0' := hid H0
  have HZ := hid Z0
  have hone0 : One #[.int .i64 0, .int .i64 0, .int .i64 0, .int .i64 0, .slice none 0 0, .int .i64 0, .int .i64 0, .slice none 0 0, .bool false, .int .i64 0, .int .i64 0, .bool false, .int .i64 0, .int .i64 0, .bool false, .bool false, .bool false, .int .i64 0, .int .i64 0, .bool false, .bool false, .int .i64 0, .int .i64 0, .int .i64 0, .int .i64 0, .bool false, .bool false, .bool false, .slice none 0 0, .int .i64 0, .slice none 0 0] := one_scr zeroS
  have hsz' := hsz
  have row0 : rowOf (((w.alloc (.cells (scrA s) 38)).alloc (.cells #[.int .i64 4, .int .i64 z, .bool mark, .slice A n c] 58)).alloc (.cells #[.int .i64 0, .int .i64 0, .int .i64 0, .int .i64 0, .slice none 0 0, .int .i64 0, .int .i64 0, .slice none 0 0, .bool false, .int .i64 0, .int .i64 0, .bool false, .int .i64 0, .int .i64 0, .bool false, .bool false, .bool false, .int .i64 0, .int .i64 0, .bool false, .bool false, .int .i64 0, .int .i64 0, .int .i64 0, .int .i64 0, .bool false, .bool false, .bool false, .slice none 0 0, .int .i64 0, .slice none 0 0] 38)) w.heap.size = scrA s := by rw [← hW]; exact B0.of
  have hmf : ∀ (fn : Fn) (first cap : Array Value) (w : World), (Instr.makeFunc fn first cap).run Tryz.prog w = .ok (.func fn first cap) w := fun _ _ _ _ => rfl
  clear ho hn hoW H0 Z0 B0 C0 C1 C2 C3 hr hl hrW
  cases hab : argB zs
  · rw [hW] at HAR
    rw [hab] at HAR
    clear HC
    go_enter Tryz.func24, Tryz.ntmps24
    go_wp2_with fail
    refine HAR.out.mono ?_
    rintro e v0 ⟨rfl, rfl⟩
    have rz1 := RowZ.of (HZ.out.row) 31 rfl
    rw [hW] at rz1
    clear HAR
    go_wp2_with fail
    refine bodyPost_ret (v := .agg (scrA zeroS)) (res55 Tryz.results24 _ _ (w.heap.size + 1 + 1) _ (by simp) ((by have h := HZ.out.row; rw [hW] at h; exact h)) rfl) rfl ⟨zeroS, rfl, zeroS_own _ _, (by unfold csiF; rw [hab]; rfl), ?_⟩
    exact (by have h := H0'.out; rw [hW] at h; exact h)
  · have HC2 := hid (HC.out hab)
    rw [hW] at HC2 HAR
    clear HC
    go_enter Tryz.func24, Tryz.ntmps24
    go_wp2_with fail
    refine HAR.out.mono ?_
    rintro e v0 ⟨rfl, rfl⟩
    rw [hab]
    go_wp2_with fail
    refine HC2.out.mono ?_
    rintro e v1 ⟨t1, rfl, ho1, hd1, hb1⟩
    rw [← hW] at ho1 hb1
    have H1 := hid (H0'.out.trans (hb1.mono (by omega)))
    have Z1 := hid (HZ.out.below hb1 (by omega))
    have HO1 := hid ho1
    have HD1 := hid hd1
    have rz1 : RowZ v1 (w.heap.size + 1 + 1) 31 := RowZ.of Z1.out.row 31 rfl
    clear hb1 ho1 hd1 row0 HC2 H0' HZ HAR
    go_wp2_with fail
    refine bodyPost_ret (v := .agg (scrA t1)) (res55 Tryz.results24 _ _ (w.heap.size + 1 + 1) _ (by simp) (Z1.out.row.setRow) rfl) rfl ⟨t1, rfl, ?_, (by unfold csiF; rw [hab, if_pos rfl]; exact HD1.out), ?_⟩
    · exact ((HO1.out.row_ _ _ (by omega)).more (by omega))
    · exact below_setRow H1.out (by omega) _
theorem impl_ScrCsi_any (s : ScrS) (w : World) (b : Nat) (mark : Bool) (A : Option Addr) (n c : Nat) (zs : List Int) (z : Int) (ho : OwnS w b s) (hn : szS s ≤ 1048576) (hr : RdI w w.heap.size A zs) (hl : zs.length = n) (hn2 : n ≤ 1099511627776) (hz : (Lit.int .i64 z).wf = true) :
    Calls Tryz.prog 8 #[.agg (scrA s), .bool mark, .slice A n c, .int .i64 z] w (AnsS (csiF mark zs z s.data) w) := by
  obtain ⟨W, hW⟩ : ∃ W, W = (w.alloc (.cells (scrA s) 38)).alloc (.cells #[.int .i64 0, .int .i64 0, .int .i64 0, .int .i64 0, .slice none 0 0, .int .i64 0, .int .i64 0, .slice none 0 0, .bool false, .int .i64 0, .int .i64 0, .bool false, .int .i64 0, .int .i64 0, .bool false, .bool false, .bool false, .int .i64 0, .int .i64 0, .bool false, .bool false, .int .i64 0, .int .i64 0, .int .i64 0, .int .i64 0, .bool false, .bool false, .bool false, .slice none 0 0, .int .i64 0, .slice none 0 0] 38) := ⟨_, rfl⟩
  have H0 : Below w.heap.size w W := by rw [hW]; exact ((Below.refl w.heap.size w).alloc (Nat.le_refl _) (.cells (scrA s) 38)).alloc (by simp <;> omega) (.cells #[.int .i64 0, .int .i64 0, .int .i64 0, .int .i64 0, .slice none 0 0, .int .i64 0, .int .i64 0, .slice none 0 0, .bool false, .int .i64 0, .int .i64 0, .bool false, .int .i64 0, .int .i64 0, .bool false, .bool false, .bool false, .int .i64 0, .int .i64 0, .bool false, .bool false, .int .i64 0, .int .i64 0, .int .i64 0, .int .i64 0, .bool false, .bool false, .bool false, .slice none 0 0, .int .i64 0, .slice none 0 0] 38)
  have hsz : W.heap.size = w.heap.size + 1 + 1 := by rw [hW]; simp
  have B0 : RowS W w.heap.size s := by
    rw [hW]; exact (RowS.new w s).alloc _
  have Z0 : RowS W (w.heap.size + 1) zeroS := by
    rw [hW]
    have h := RowS.new (w.alloc (.cells (scrA s) 38)) zeroS
    have e : (w.alloc (.cells (scrA s) 38)).heap.size = w.heap.size + 1 := by simp
    rw [e] at h; exact h
  have hrW : RdI W w.heap.size A zs := hr.below (Nat.le_refl _) H0
  have HC := hid (impl_ScrAct_csi s W b mark A n c zs z (ho.below (Nat.le_refl _) H0) hn (hrW.more (by omega)) hl hn2 hz)
  have H0' := hid H0
  have HZ := hid Z0
  have hone0 : One #[.int .i64 0, .int .i64 0, .int .i64 0, .int .i64 0, .slice none 0 0, .int .i64 0, .int .i64 0, .slice none 0 0, .bool false, .int .i64 0, .int .i64 0, .bool false, .int .i64 0, .int .i64 0, .bool false, .bool false, .bool false, .int .i64 0, .int .i64 0, .bool false, .bool false, .int .i64 0, .int .i64 0, .int .i64 0, .int .i64 0, .bool false, .bool false, .bool false, .slice none 0 0, .int .i64 0, .slice none 0 0] := one_scr zeroS
  have row0 : rowOf ((w.alloc (.cells (scrA s) 38)).alloc (.cells #[.int .i64 0, .int .i64 0, .int .i64 0, .int .i64 0, .slice none 0 0, .int .i64 0, .int .i64 0, .slice none 0 0, .bool false, .int .i64 0, .int .i64 0, .bool false, .int .i64 0, .int .i64 0, .bool false, .bool false, .bool false, .int .i64 0, .int .i64 0, .bool false, .bool false, .int .i64 0, .int .i64 0, .int .i64 0, .int .i64 0, .bool false, .bool false, .bool false, .slice none 0 0, .int .i64 0, .slice none 0 0] 38)) w.heap.size = scrA s := by rw [← hW]; exact B0.of
  rw [hW] at HC
  clear ho hn H0 Z0 B0 hr hl hrW
  go_enter Tryz.func8, Tryz.ntmps8
  go_wp2_with fail
  refine HC.out.mono ?_
  rintro e v1 ⟨t1, rfl, ho1, hd1, hb1⟩
  rw [← hW] at ho1 hb1
  have H1 := hid (H0'.out.trans (hb1.mono (by omega)))
  have Z1 := hid (HZ.out.below hb1 (by omega))
  have HO1 := hid ho1
  have HD1 := hid hd1
  have rz1 : RowZ v1 (w.heap.size + 1) 31 := RowZ.of Z1.out.row 31 rfl
  clear hb1 ho1 hd1 row0 HC H0' HZ
  go_wp2_with fail
  refine bodyPost_ret (v := .agg (scrA t1)) (res55 Tryz.results8 _ _ (w.heap.size + 1) _ (by simp) (Z1.out.row.setRow) rfl) rfl ⟨t1, rfl, ?_, HD1.out, ?_⟩
  · exact ((HO1.out.row_ _ _ (by omega)).more (by omega))
  · exact below_setRow H1.out (by omega) _
end Go.Proofs.YtgnpgkkjcloghaaGreat.Sc
