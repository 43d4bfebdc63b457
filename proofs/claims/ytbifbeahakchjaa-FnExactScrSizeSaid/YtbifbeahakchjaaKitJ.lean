/- Texts that lay in modules of their own: ScSizeS, ScSzJ. -/
import Derived.Test.YtbifbeahakchjaaScCopy
import Derived.Test.YtbifbeahakchjaaKitZ
import Derived.Test.YtbifbeahakchjaaKitW
import Derived.Test.YtbifbeahakchjaaKiM
import Derived.Test.YtbifbeahakchjaaScOk
import Derived.Test.YtbifbeahakchjaaScGoS
import Derived.Test.YtbifbeahakchjaaKitP
import Derived.IntWalk
import Derived.Deep.RegionWith
import Derived.Deep.DrawnRows
import Derived.Deep.RegionHeld3
import Derived.Deep.Cut
import Derived.Deep.CutRange
import Derived.Deep.DeepCutAuto
import Derived.BigRegion
namespace Go.Proofs.Ytbifbeahakchjaa.Sc
open Go.RowKit Go.Proofs.Ytbifbeahakchjaa.Bytes Go.Proofs.Ytbifbeahakchjaa.Rows_ Go.Proofs.Ytbifbeahakchjaa.RowK Go.Proofs.Ytbifbeahakchjaa.Gr Go.Proofs.Ytbifbeahakchjaa.DOk Go.Proofs.Ytbifbeahakchjaa.Opq Go.Proofs.Ytbifbeahakchjaa.Attr
set_option linter.unusedVariables false
attribute [local go_sem ↓] Sc.exec_storeS Sc.exec_loadS
attribute [local go_sem] blkOf_ptr isHead_ptr aggN_agg setRow_alloc rowZ_at rowZ_past scrA_size nsA_size one_scr rowOf_alloc_at rowOf_alloc_past rowOf_drew ns_pre
attribute [local go_sem] sa_w sa_h sa_mw sa_mh sa_M sa_aw sa_ah sa_A sa_onAlt sa_x sa_y sa_wrap sa_fg sa_bg sa_b sa_u sa_t sa_top sa_bot sa_noWrap sa_hide sa_sx sa_sy sa_sfg sa_sbg sa_sb sa_su sa_st sa_tabs sa_lim sa_rows
attribute [local go_sem] ns_w ns_h ns_mw ns_mh ns_M ns_aw ns_ah ns_A ns_onAlt ns_x ns_y ns_wrap ns_fg ns_bg ns_b ns_u ns_t ns_top ns_bot ns_noWrap ns_hide ns_sx ns_sy ns_sfg ns_sbg ns_sb ns_su ns_st ns_tabs ns_lim ns_rows
attribute [local go_sem] ns_at0 ns_at1 ns_at2 ns_at3 ns_at4 ns_at5 ns_at6 ns_at7 ns_at8 ns_at9 ns_at10 ns_at11 ns_at12 ns_at13 ns_at14 ns_at15 ns_at16 ns_at17 ns_at18 ns_at19 ns_at20 ns_at21 ns_at22 ns_at23 ns_at24 ns_at25 ns_at26 ns_at27 ns_at28 ns_at29 ns_at30 ns_at31 ns_at32 ns_at33 ns_at34 ns_at35 ns_at36 ns_at37
attribute [local go_sem] scr_at0 scr_at1 scr_at2 scr_at3 scr_at4 scr_at5 scr_at6 scr_at7 scr_at8 scr_at9 scr_at10 scr_at11 scr_at12 scr_at13 scr_at14 scr_at15 scr_at16 scr_at17 scr_at18 scr_at19 scr_at20 scr_at21 scr_at22 scr_at23 scr_at24 scr_at25 scr_at26 scr_at27 scr_at28 scr_at29 scr_at30
theorem keep_snoc (L : Nat) (rows rs : List (List CellD)) (r : List CellD) : keepL L (keepN L rows rs) r = keepN L rows (rs ++ [r]) := by
  unfold keepL keepN
  rw [← List.append_assoc]
  obtain ⟨R, hR⟩ : ∃ R, R = rows ++ rs := ⟨_, rfl⟩
  have hl : R.length = rows.length + rs.length := by rw [hR, List.length_append]
  rw [← hR, ← List.drop_append_of_le_length (by omega), List.drop_drop]
  congr 1
  rw [List.length_drop, List.length_append, List.length_singleton]
  omega
theorem RowS.ownC {w : World} {b base j : Nat} {s t : ScrS} {v : Value} (h : RowS w b s) (h' : OwnS w base t) : OwnS (w.setCell ⟨b, j, none⟩ v) base t := h'.only (S := fun i => i = b) (Only.cell_ w b j v rfl) (fun i hi e => h.apart h' (e ▸ hi))
theorem clamp_minS {x h : Int} (h0 : 0 ≤ x) (h1 : 0 ≤ h) : clampD x h = min x h := by unfold clampD clampV; split <;> (try split) <;> omega
def RZ (d : ScrD) (W L k : Nat) : List (List CellD) := if d.onAlt then d.rows else keepN L d.rows (rowsM d.M W k)
theorem keepN_len (L : Nat) (rows rs : List (List CellD)) : (keepN L rows rs).length ≤ L := by
  unfold keepN; rw [List.length_drop, List.length_append]; omega
theorem keepN_nil {L : Nat} {rows : List (List CellD)} (h : rows.length ≤ L) : keepN L rows [] = rows := by
  unfold keepN; rw [List.append_nil, List.length_nil, show rows.length + 0 - L = 0 by omega, List.drop_zero]
set_option maxRecDepth 100000 in
set_option maxHeartbeats 6400000 in
theorem spec_ScrSize_any (s : ScrS) (w : World) (b : Nat) (gw gh : Int) (ho : OwnS w b s) (hn : szS s ≤ 1048576) :
    Calls Try.prog 25 #[.agg (scrA s), .int .i64 gw, .int .i64 gh] w (AnsSz s.data gw gh w) := by
  have H0 := Lib.hid (((Below.refl w.heap.size w).alloc (Nat.le_refl _) (.cells (scrA s) 52)).alloc (by simp) (.cells (scrA zeroS) 52))
  have B0 := Lib.hid (show RowS ((w.alloc (.cells (scrA s) 52)).alloc (.cells (scrA zeroS) 52)) w.heap.size s from (RowS.new w s).alloc _)
  have Z0 := Lib.hid (show RowS ((w.alloc (.cells (scrA s) 52)).alloc (.cells (scrA zeroS) 52)) (w.heap.size + 1) zeroS from by have h := RowS.new (w.alloc (.cells (scrA s) 52)) zeroS; simpa using h)
  have hone0 : One #[.int .i64 0, .int .i64 0, .int .i64 0, .int .i64 0, .slice none 0 0, .int .i64 0, .int .i64 0, .slice none 0 0, .bool false, .int .i64 0, .int .i64 0, .bool false, .int .i64 0, .int .i64 0, .bool false, .bool false, .bool false, .int .i64 0, .int .i64 0, .bool false, .bool false, .int .i64 0, .int .i64 0, .int .i64 0, .int .i64 0, .bool false, .bool false, .bool false, .slice none 0 0, .int .i64 0, .slice none 0 0] := one_scr zeroS
  have HO := Lib.hid (fun W (h : Below w.heap.size w W) => ho.below (Nat.le_refl _) h)
  have HOK := Lib.hid (fun W (h : Below w.heap.size w W) => spec_ScrOk_any s W (ho.below (Nat.le_refl _) h).rd hn)
  have HCP := Lib.hid (fun W (h : Below w.heap.size w W) => l09Copy_own s W b (ho.below (Nat.le_refl _) h) hn)
  have HG := Lib.hid (fun W => spec_GridNew_any gw gh W)
  have HN := Lib.hid hn
  clear ho hn
  cases hs : sizeB gw gh
  · have HF := Lib.hid (show szOk s.data gw gh = false by unfold szOk; rw [hs, Bool.and_false])
    have HA := Lib.hid (show ∀ (W : World) e w', AnsN W.heap.size W gw gh e w' → e = .returned (.tuple #[.agg #[.int .i64 0, .int .i64 0, .slice none 0 0], .bool false]) ∧ Below W.heap.size W w' from fun W e w' h => by unfold AnsN at h; rw [hs] at h; exact h)
    clear hs
    go_enter Try.func25, Try.ntmps25
    go_wp2_with fail
    refine (HG.out _).mono ?_
    intro e v1 h1
    obtain ⟨rfl, hb1⟩ := HA.out _ _ _ h1
    have hH := H0.out.trans (hb1.mono (by simp; omega))
    have hal := (Below.refl v1.heap.size v1).alloc (Nat.le_refl _) (.cells #[.int .i64 0, .int .i64 0, .slice none 0 0] 48)
    have B1 := Lib.hid ((B0.out.below hb1 B0.out.lt).below hal (B0.out.below hb1 B0.out.lt).lt)
    have Z1 := Lib.hid ((Z0.out.below hb1 Z0.out.lt).below hal (Z0.out.below hb1 Z0.out.lt).lt)
    have H1 := Lib.hid (hH.trans (hal.mono hH.size))
    obtain ⟨V1, hV1⟩ : ∃ V, V = v1.alloc (.cells #[.int .i64 0, .int .i64 0, .slice none 0 0] 48) := ⟨_, rfl⟩
    rw [← hV1] at B1 Z1 H1
    go_upto_region 2 with fail
    rw [← hV1]
    have row1 := B1.out.of
    clear hal hH hb1 h1 hV1 H0 B0 Z0 HCP HO HG HA
    go_wp2_with fail
    refine (HOK.out _ H1.out).mono ?_
    rintro e v2 ⟨rfl, hb2⟩
    have Z2 := Lib.hid (Z1.out.below hb2 Z1.out.lt)
    have H2 := Lib.hid (H1.out.trans (hb2.mono H1.out.size))
    have rz2 : RowZ v2 (w.heap.size + 1) 31 := RowZ.of Z2.out.row 31 rfl
    clear hb2 B1 Z1 H1 HOK row1
    cases okD s.data
    all_goals
      go_wp2_with fail
      refine bodyPost_ret (v := .tuple #[.agg (scrA zeroS), .bool false]) (res55b rfl Try.underlying52 rfl size55 _ _ (w.heap.size + 1) _ _ rfl rfl (Z2.out.row.setRow) rfl) rfl (ansSz_no HF.out ?_)
      exact below_setRow H2.out (by omega) _
  · obtain ⟨W2, H2, rfl, rfl, w1, w2, w3, w4, w5, hN⟩ := sidesS hs
    have HA := Lib.hid (show ∀ (X : World) e w', AnsN X.heap.size X (W2 : Int) (H2 : Int) e w' → (∃ A c, e = .returned (.tuple #[.agg #[.int .i64 (W2 : Int), .int .i64 (H2 : Int), .slice A (W2 * H2) c], .bool true]) ∧ OwnC w' X.heap.size A (W2 * H2) c (blanksN W2 H2) ∧ Below X.heap.size X w') from fun X e w' h => by unfold AnsN at h; rw [hs, hN] at h; exact h)
    have HS := Lib.hid hs
    clear hs hN
    cases hok : okD s.data
    · have HF := Lib.hid (show szOk s.data (W2 : Int) (H2 : Int) = false by unfold szOk; rw [hok]; rfl)
      go_enter Try.func25, Try.ntmps25
      go_wp2_with fail
      refine (HG.out _).mono ?_
      intro e v1 h1
      obtain ⟨A1, c1, rfl, ho1, hb1⟩ := HA.out _ _ _ h1
      have hH := H0.out.trans (hb1.mono (by simp; omega))
      have hal := (Below.refl v1.heap.size v1).alloc (Nat.le_refl _) (.cells #[.int .i64 (W2 : Int), .int .i64 (H2 : Int), .slice A1 (W2 * H2) c1] 48)
      have B1 := Lib.hid ((B0.out.below hb1 B0.out.lt).below hal (B0.out.below hb1 B0.out.lt).lt)
      have Z1 := Lib.hid ((Z0.out.below hb1 Z0.out.lt).below hal (Z0.out.below hb1 Z0.out.lt).lt)
      have H1 := Lib.hid (hH.trans (hal.mono hH.size))
      obtain ⟨V1, hV1⟩ : ∃ V, V = v1.alloc (.cells #[.int .i64 (W2 : Int), .int .i64 (H2 : Int), .slice A1 (W2 * H2) c1] 48) := ⟨_, rfl⟩
      rw [← hV1] at B1 Z1 H1
      go_upto_region 2 with fail
      rw [← hV1]
      have row1 := B1.out.of
      clear hal hH hb1 h1 ho1 hV1 H0 B0 Z0 HCP HO HG HA
      go_wp2_with fail
      refine (HOK.out _ H1.out).mono ?_
      rintro e v2 ⟨rfl, hb2⟩
      rw [hok]
      have Z2 := Lib.hid (Z1.out.below hb2 Z1.out.lt)
      have H2' := Lib.hid (H1.out.trans (hb2.mono H1.out.size))
      have rz2 : RowZ v2 (w.heap.size + 1) 31 := RowZ.of Z2.out.row 31 rfl
      clear hb2 B1 Z1 H1 HOK row1
      go_wp2_with fail
      refine bodyPost_ret (v := .tuple #[.agg (scrA zeroS), .bool false]) (res55b rfl Try.underlying52 rfl size55 _ _ (w.heap.size + 1) _ _ rfl rfl (Z2.out.row.setRow) rfl) rfl (ansSz_no HF.out ?_)
      exact below_setRow H2'.out (by omega) _
    · have HF := Lib.hid (show szOk s.data (W2 : Int) (H2 : Int) = true by unfold szOk; rw [hok, HS.out]; rfl)
      have HD := Lib.hid (show szF s.data (W2 : Int) (H2 : Int) = sizeD s.data W2 H2 by unfold szF; rw [HF.out, if_pos rfl, Int.toNat_natCast, Int.toNat_natCast])
      obtain ⟨W, H, X, Y, Tp, Bt, L, fit⟩ := ok_fit hok
      have ey : s.y = (Y : Int) := fit.y
      have q1 := fit.w1; have q2 := fit.w2; have q3 := fit.h1; have q4 := fit.h2; have q5 := fit.x2; have q6 := fit.y2
      have FIT := Lib.hid fit
      have EY := Lib.hid ey
      clear fit ey
      go_enter Try.func25, Try.ntmps25
      go_wp2_with fail
      refine (HG.out _).mono ?_
      intro e v1 h1
      obtain ⟨A1, c1, rfl, ho1, hb1⟩ := HA.out _ _ _ h1
      have hH := H0.out.trans (hb1.mono (by simp; omega))
      have hal := (Below.refl v1.heap.size v1).alloc (Nat.le_refl _) (.cells #[.int .i64 (W2 : Int), .int .i64 (H2 : Int), .slice A1 (W2 * H2) c1] 48)
      have B1 := Lib.hid ((B0.out.below hb1 B0.out.lt).below hal (B0.out.below hb1 B0.out.lt).lt)
      have Z1 := Lib.hid ((Z0.out.below hb1 Z0.out.lt).below hal (Z0.out.below hb1 Z0.out.lt).lt)
      have G1 := Lib.hid (RowB.new v1 #[.int .i64 (W2 : Int), .int .i64 (H2 : Int), .slice A1 (W2 * H2) c1] 48)
      have O1 := Lib.hid (ho1.below (Nat.le_refl _) hal)
      have H1 := Lib.hid (hH.trans (hal.mono hH.size))
      have z1 : w.heap.size + 1 < v1.heap.size := (Z0.out.below hb1 Z0.out.lt).lt
      obtain ⟨V1, hV1⟩ : ∃ V, V = v1.alloc (.cells #[.int .i64 (W2 : Int), .int .i64 (H2 : Int), .slice A1 (W2 * H2) c1] 48) := ⟨_, rfl⟩
      rw [← hV1] at B1 Z1 H1 G1 O1
      go_upto_region 2 with fail
      rw [← hV1]
      have row1 := B1.out.of
      clear hal hH hb1 h1 ho1 hV1 H0 B0 Z0 HG HA
      go_wp2_with fail
      refine (HOK.out _ H1.out).mono ?_
      rintro e v2 ⟨rfl, hb2⟩
      rw [hok]
      have B2 := Lib.hid (B1.out.below hb2 B1.out.lt)
      have Z2 := Lib.hid (Z1.out.below hb2 Z1.out.lt)
      have G2 := Lib.hid (G1.out.below hb2 G1.out.lt)
      have O2 := Lib.hid (O1.out.below (Nat.le_refl _) hb2)
      have H2' := Lib.hid (H1.out.trans (hb2.mono H1.out.size))
      have row2 := B2.out.of
      have g2 : v1.heap.size < v2.heap.size := G2.out.lt
      have E2 := Lib.hid hb2
      have e2z : V1.heap.size ≤ v2.heap.size := hb2.size
      have HOG := Lib.hid (fun V (h : Below V1.heap.size V1 V) => O1.out.below (Nat.le_refl _) h)
      clear hb2 B1 Z1 H1 G1 O1 HOK row1
      go_wp2_with fail
      refine (HCP.out _ H2'.out).mono ?_
      rintro e v3 ⟨s3, rfl, ho3, hd3, hb3⟩
      have hal := (Below.refl v3.heap.size v3).alloc (Nat.le_refl _) (.cells (scrA s3) 52)
      have hb4 := hb3.alloc hb3.size (.cells (scrA s3) 52)
      have B3 := Lib.hid (B2.out.below hb4 B2.out.lt)
      have Z3 := Lib.hid (Z2.out.below hb4 Z2.out.lt)
      have G3 := Lib.hid (G2.out.below hb4 G2.out.lt)
      have O3 := Lib.hid (O2.out.below (Nat.le_refl _) hb4)
      have H3 := Lib.hid (H2'.out.trans (hb4.mono H2'.out.size))
      have S3 := Lib.hid (RowS.new v3 s3)
      have P3 := Lib.hid (ho3.below (Nat.le_refl _) hal)
      have D3 := Lib.hid hd3
      have g3 : v2.heap.size ≤ v3.heap.size := hb3.size
      obtain ⟨V3, hV3⟩ : ∃ V, V = v3.alloc (.cells (scrA s3) 52) := ⟨_, rfl⟩
      have E3 := Lib.hid (E2.out.trans (hb4.mono e2z))
      rw [← hV3] at B3 Z3 G3 O3 H3 S3 P3 E3
      go_upto_region 5 with fail
      rw [← hV3]
      have g4 : v3.heap.size < V3.heap.size := S3.out.lt
      have HOGX := Lib.hid (fun V (h : Below v2.heap.size V3 V) => HOG.out V (E3.out.trans (h.mono e2z)))
      have HZX := Lib.hid (fun V (h : Below v2.heap.size V3 V) => Z3.out.below h (show w.heap.size + 1 < v2.heap.size by omega))
      have HBX := Lib.hid (fun V (h : Below v2.heap.size V3 V) => B3.out.below h (show w.heap.size < v2.heap.size by omega))
      have HGX := Lib.hid (fun V (h : Below v2.heap.size V3 V) => G3.out.below h g2)
      have HWX := Lib.hid (fun V (h : Below v2.heap.size V3 V) => H3.out.trans (h.mono (show w.heap.size ≤ v2.heap.size by omega)))
      clear hal hb4 hb3 ho3 hd3 hV3 B2 Z2 G2 O2 H2' HCP row2
      have k10 : V3.cell? ⟨w.heap.size, 10, none⟩ = some (.int .i64 (Y : Int)) := by rw [← EY.out]; exact B3.out.cell 10
      go_upto_if 35 with fail
      obtain ⟨d, hd⟩ : ∃ d : Nat, d = goneN s.y H2 := ⟨_, rfl⟩
      have hd2 : d = (Y + 1) - H2 := by rw [hd]; unfold goneN; rw [EY.out]; omega
      have HDD := Lib.hid hd
      clear hd
      go_cut [11] from 13 (fun x wx => x = .int .i64 (d : Int) ∧ wx = V3)
      case first =>
        by_cases hlt : (Y : Int) - (H2 : Int) + 1 < 0
        · have hd0 : d = 0 := by omega
          clear hd2
          go_wp2_with fail
          go_meet
          case rel => exact ⟨by rw [hd0]; rfl, rfl⟩
        · have hd0 : (Y : Int) - (H2 : Int) + 1 = (d : Int) := by omega
          clear hd2
          go_wp2_with fail
          go_meet
          case rel => exact ⟨rfl, rfl⟩
      case rest =>
        obtain ⟨rfl, hwc⟩ := hcut
        rw [hwc]
        clear k10 hwc wc
        have F3 := Lib.hid (show Fit s3.data W H X Y Tp Bt L by rw [D3.out]; exact FIT.out)
        have hdY : d ≤ Y := by omega
        have HD2 := Lib.hid hd2
        clear hd2
        rename_i K0 hK0
        refine hK0 _ _ ?_
        clear hK0
        refine wp_seq_k ?_
        intro K1 hK1
        have hrl3 : s3.rows.length ≤ L := by have h := F3.out.rl; rw [show s3.data.rows.length = s3.rows.length from List.length_map _] at h; exact h
        have HR0 := Lib.hid (show (s3.rows.map (·.cs)) = keepN L s.data.rows (rowsM s.data.M W 0) by
          rw [show rowsM s.data.M W 0 = [] by simp [rowsM], keepN_nil (by rw [← D3.out]; show (s3.rows.map (·.cs)).length ≤ L; rw [List.length_map]; exact hrl3), ← D3.out]; rfl)
        have HD3 := Lib.hid D3.out
        go_cut [] from 13 (fun wx => ∃ A c gs, RowS wx v3.heap.size { s3 with bA := A, bk := c, rows := gs } ∧ OwnS wx v2.heap.size { s3 with bA := A, bk := c, rows := gs } ∧ gs.map (·.cs) = RZ s.data W L d ∧ Below v2.heap.size V3 wx)
        case first =>
          have HKC := Lib.hid (fun (V : World) A c gs (k : Nat) (hk : k < d) (h : OwnS V v2.heap.size { s3 with bA := A, bk := c, rows := gs }) (hr : gs.length ≤ L) (hz : v2.heap.size ≤ V.heap.size) => keepC { s3 with bA := A, bk := c, rows := gs } v2.heap.size V W k L h F3.out.w F3.out.w1 (by
            have hm : s3.M.cs.length = W * H := F3.out.ml
            show k * W + W ≤ s3.M.cs.length
            rw [hm, Nat.mul_comm W H, show k * W + W = (k + 1) * W by rw [Nat.add_mul, Nat.one_mul]]
            exact Nat.mul_le_mul_right _ (by omega)) (by omega) (by have hm : s3.M.cs.length = W * H := F3.out.ml; show s3.M.cs.length ≤ _; rw [hm]; have := F3.out.wh; omega) F3.out.lim F3.out.l2 hr hz)
          go_wp2_with fail
          go_loopw [12] (fun i wr => ∃ (k : Nat) (A : Option Addr) (c : Nat) (gs : List SlC), k ≤ d ∧ i = .int .i64 (k : Int) ∧ (s.onAlt = true → k = 0) ∧ RowS wr v3.heap.size { s3 with bA := A, bk := c, rows := gs } ∧ OwnS wr v2.heap.size { s3 with bA := A, bk := c, rows := gs } ∧ gs.map (·.cs) = keepN L s.data.rows (rowsM s.data.M W k) ∧ Below v2.heap.size V3 wr) (fun i _ => d - (intOf i).toNat)
          case atStart => exact ⟨0, s3.bA, s3.bk, s3.rows, Nat.zero_le _, rfl, fun _ => rfl, S3.out, P3.out, HR0.out, Below.refl _ _⟩
          case round =>
            obtain ⟨k, A, c, gs, hk, rfl, hal, hRS, hOS, hgs, hbw⟩ := hrel
            have BR := Lib.hid (B3.out.below hbw (by omega))
            have k8 : wr.cell? ⟨w.heap.size, 8, none⟩ = some (.bool s.onAlt) := BR.out.cell 8
            have RS := Lib.hid hRS
            have OS := Lib.hid hOS
            have GS := Lib.hid hgs
            have BW := Lib.hid hbw
            have hgl : gs.length ≤ L := by have h := keepN_len L s.data.rows (rowsM s.data.M W k); rw [← hgs, List.length_map] at h; exact h
            have hbz : v2.heap.size ≤ wr.heap.size := by have := hbw.size; omega
            have rowo := hRS.of
            clear hRS hOS hgs hbw
            by_cases hlt : k < d
            · have hlt' : (k : Int) < (d : Int) := by omega
              cases hon : s.onAlt
              · rw [hon] at k8
                have HK := Lib.hid (HKC.out wr A c gs k hlt OS.out hgl hbz)
                go_wp2_with fail
                refine HK.out.mono ?_
                rintro e v ⟨A', c', gs', rfl, hO', hm', hon'⟩
                have hns : ¬ (Value.slice A gs.length c).ownBlock = some v3.heap.size := fun e => RS.out.apart OS.out (.inr (.inr e))
                have RV := Lib.hid (RS.out.only hon' hns)
                have OV := Lib.hid hO'
                have MV := Lib.hid (show gs'.map (·.cs) = keepN L s.data.rows (rowsM s.data.M W (k + 1)) by
                  rw [rowsM_succ, ← keep_snoc, ← GS.out, ← HD3.out]; exact hm')
                have BV := Lib.hid (show Below v2.heap.size V3 v from Only.below_ hon' BW.out (by omega) (fun i hi => (OS.out.r.blk i hi).1))
                have rzv : RowZ v v3.heap.size 31 := RowZ.of RV.out.row 31 rfl
                clear hO' hm' hon' hns HK
                go_wp2_with fail
                refine ⟨⟨k + 1, A', c', gs', by omega, by go_num, (fun h => by cases h), RV.out.store, OV.out.keepRow _ _ (.inr (RV.out.apart OV.out)), MV.out, below_setRow BV.out (by omega) _⟩, by simp [intOf]; omega⟩
              · rw [hon] at k8
                have hk0 := hal hon
                go_wp2_with fail
                go_meet
                case rel => exact ⟨A, c, gs, RS.out, OS.out, by unfold RZ; rw [show s.data.onAlt = true from hon, if_pos rfl, GS.out, hk0, ← HR0.out, ← HD3.out]; rfl, BW.out⟩
            · obtain rfl : d = k := by omega
              have hlt' : ¬ (d : Int) < (d : Int) := by omega
              go_wp2_with fail
              go_meet
              case rel => exact ⟨A, c, gs, RS.out, OS.out, by
                rw [GS.out]; unfold RZ
                cases hon : s.onAlt
                · rw [show s.data.onAlt = false from hon]; rfl
                · rw [show s.data.onAlt = true from hon, if_pos rfl, hal hon, ← HR0.out, ← HD3.out]; rfl, BW.out⟩
        case rest =>
          obtain ⟨A, c, gs, hRS, hOS, hgs, hbw⟩ := hcut
          have GS := Lib.hid hgs
          obtain ⟨t, ht⟩ : ∃ t : ScrS, t = { s3 with bA := A, bk := c, rows := gs } := ⟨_, rfl⟩
          rw [← ht] at hRS hOS
          have R4 := Lib.hid hRS
          have O4 := Lib.hid hOS
          have Q4 := Lib.hid hbw
          have ET := Lib.hid ht
          have hb0 : v2.heap.size ≤ V3.heap.size := by omega
          have hne1 : v3.heap.size ≠ w.heap.size := by omega
          have hne2 : w.heap.size ≠ v3.heap.size := by omega
          have hne3 : v3.heap.size ≠ v1.heap.size := by omega
          have hne4 : v1.heap.size ≠ v3.heap.size := by omega
          obtain ⟨PM, hPM⟩ : ∃ P, P = layT W2 H2 s.mw s.mh s.M.cs d := ⟨_, rfl⟩
          obtain ⟨PA, hPA⟩ : ∃ P, P = layT W2 H2 s.aw s.ah s.A.cs d := ⟨_, rfl⟩
          have HML := Lib.hid (show s.M.cs.length ≤ 1048576 by have hm : s.M.cs.length = W * H := FIT.out.ml; have := FIT.out.wh; omega)
          have HAL := Lib.hid (show s.A.cs.length ≤ 1048576 by have hm : s.A.cs.length = W * H := FIT.out.al; have := FIT.out.wh; omega)
          have HOX := Lib.hid (fun V (h : Below v2.heap.size V3 V) => HO.out V (HWX.out V h))
          have HGM := Lib.hid (fun V (h : Below v2.heap.size V3 V) => show Calls Try.prog 63 #[.agg #[.int .i64 (W2 : Int), .int .i64 (H2 : Int), .slice A1 (W2 * H2) c1], .agg #[.int .i64 s.mw, .int .i64 s.mh, .slice s.M.A s.M.cs.length s.M.c], .int .i64 0, .int .i64 (-(d : Int))] V (AnsT V PM) from by
            rw [hPM]
            exact spec_GridPaste_own (W2 : Int) (H2 : Int) s.mw s.mh 0 (-(d : Int)) (HOGX.out V h) (HOX.out V h).m (by omega) HML.out)
          have HGA := Lib.hid (fun V (h : Below v2.heap.size V3 V) => show Calls Try.prog 63 #[.agg #[.int .i64 (W2 : Int), .int .i64 (H2 : Int), .slice A1 (W2 * H2) c1], .agg #[.int .i64 s.aw, .int .i64 s.ah, .slice s.A.A s.A.cs.length s.A.c], .int .i64 0, .int .i64 (-(d : Int))] V (AnsT V PA) from by
            rw [hPA]
            exact spec_GridPaste_own (W2 : Int) (H2 : Int) s.aw s.ah 0 (-(d : Int)) (HOGX.out V h) (HOX.out V h).a (by omega) HAL.out)
          have EPM := Lib.hid hPM
          have EPA := Lib.hid hPA
          have hneg : IntKind.i64.wrap (-(d : Int)) = -(d : Int) := IntWalk.i64_in _ (by omega)
          have hsub : IntKind.i64.wrap ((Y : Int) - (d : Int)) = (Y : Int) - (d : Int) := IntWalk.i64_in _ (by omega)
          clear hRS hOS hbw ht hgs hPM hPA HML HAL HO HOG E2 E3 HR0 F3
          have a0 := R4.out.cell 0
          have a1 := R4.out.cell 1
          have f0 := R4.out.free 0
          have f1 := R4.out.free 1
          go_upto_region 14 with fail
          obtain ⟨V5, hV5⟩ : ∃ V, V = ((wc.setCell ⟨v3.heap.size, 0, none⟩ (.int .i64 (W2 : Int))).setCell ⟨v3.heap.size, 1, none⟩ (.int .i64 (H2 : Int))) := ⟨_, rfl⟩
          rw [← hV5]
          obtain ⟨t5, ht5⟩ : ∃ z0 : ScrS, z0 = { t with w := (W2 : Int), h := (H2 : Int) } := ⟨_, rfl⟩
          have E5t := Lib.hid ht5
          have R5 := Lib.hid (show RowS V5 v3.heap.size t5 by
            have x0 := R4.out
            have x1 := RowS.s_w (z := (W2 : Int)) x0
            have x2 := RowS.s_h (z := (H2 : Int)) x1
            rw [hV5, ht5]; exact x2)
          have O5 := Lib.hid (show OwnS V5 v2.heap.size t5 by
            have x0 := R4.out
            have y0 := O4.out
            have y1 := RowS.ownC (j := 0) (v := .int .i64 (W2 : Int)) x0 y0
            have x1 := RowS.s_w (z := (W2 : Int)) x0
            have y2 := RowS.ownC (j := 1) (v := .int .i64 (H2 : Int)) x1 y1
            have x2 := RowS.s_h (z := (H2 : Int)) x1
            rw [hV5, ht5]; exact ⟨y2.c, y2.t, y2.r⟩)
          have Q5 := Lib.hid (show Below v2.heap.size V3 V5 by rw [hV5]; exact ((Q4.out.setCell (p := ⟨v3.heap.size, 0, none⟩) g3 (.int .i64 (W2 : Int))).setCell (p := ⟨v3.heap.size, 1, none⟩) g3 (.int .i64 (H2 : Int))))
          clear hV5 ht5
          have hz5 : v2.heap.size ≤ V5.heap.size := by have := Q5.out.size; omega
          clear a0 a1 f0 f1 R4 O4 Q4
          have G5 := Lib.hid (HGX.out V5 Q5.out)
          have X5 := Lib.hid (HBX.out V5 Q5.out)
          have b0 := G5.out.cell 0
          have b1 := G5.out.cell 1
          have b2 := G5.out.cell 2
          have m2 := X5.out.cell 2
          have m3 := X5.out.cell 3
          have m4 := X5.out.cell 4
          go_wp2_with fail
          refine (HGM.out V5 Q5.out).mono ?_
          rintro e v6 ⟨A6, c6, rfl, ho6, hb6⟩
          have R6 := Lib.hid (R5.out.below hb6 R5.out.lt)
          have O6 := Lib.hid (own_putM (gw := PM.1) (gh := PM.2.1) O5.out hb6 ho6 hz5)
          have Q6 := Lib.hid (Q5.out.trans (hb6.mono hz5))
          clear ho6 hb6 b0 b1 b2 m2 m3 m4 R5 O5 Q5 G5 X5 hz5 HGM
          have a2 := R6.out.cell 2
          have a3 := R6.out.cell 3
          have a4 := R6.out.cell 4
          have f2 := R6.out.free 2
          have f3 := R6.out.free 3
          have f4 := R6.out.free 4
          go_upto_region 15 with fail
          obtain ⟨V7, hV7⟩ : ∃ V, V = (((v6.setCell ⟨v3.heap.size, 2, none⟩ (.int .i64 PM.1)).setCell ⟨v3.heap.size, 3, none⟩ (.int .i64 PM.2.1)).setCell ⟨v3.heap.size, 4, none⟩ (.slice A6 PM.2.2.length c6)) := ⟨_, rfl⟩
          rw [← hV7]
          obtain ⟨t7, ht7⟩ : ∃ z0 : ScrS, z0 = { t5 with mw := PM.1, mh := PM.2.1, M := ⟨A6, c6, PM.2.2⟩ } := ⟨_, rfl⟩
          have E7t := Lib.hid ht7
          have R7 := Lib.hid (show RowS V7 v3.heap.size t7 by
            have x0 := R6.out
            have x1 := RowS.s_mw (z := PM.1) x0
            have x2 := RowS.s_mh (z := PM.2.1) x1
            have x3 := RowS.s_M (z := ⟨A6, c6, PM.2.2⟩) x2
            rw [hV7, ht7]; exact x3)
          have O7 := Lib.hid (show OwnS V7 v2.heap.size t7 by
            have x0 := R6.out
            have y0 := O6.out
            have y1 := RowS.ownC (j := 2) (v := .int .i64 PM.1) x0 y0
            have x1 := RowS.s_mw (z := PM.1) x0
            have y2 := RowS.ownC (j := 3) (v := .int .i64 PM.2.1) x1 y1
            have x2 := RowS.s_mh (z := PM.2.1) x1
            have y3 := RowS.ownC (j := 4) (v := .slice A6 PM.2.2.length c6) x2 y2
            have x3 := RowS.s_M (z := ⟨A6, c6, PM.2.2⟩) x2
            rw [hV7, ht7]; exact ⟨y3.c, y3.t, y3.r⟩)
          have Q7 := Lib.hid (show Below v2.heap.size V3 V7 by rw [hV7]; exact (((Q6.out.setCell (p := ⟨v3.heap.size, 2, none⟩) g3 (.int .i64 PM.1)).setCell (p := ⟨v3.heap.size, 3, none⟩) g3 (.int .i64 PM.2.1)).setCell (p := ⟨v3.heap.size, 4, none⟩) g3 (.slice A6 PM.2.2.length c6)))
          have hz7 : v2.heap.size ≤ V7.heap.size := by have := Q7.out.size; omega
          clear hV7 ht7
          clear a2 f2 a3 f3 a4 f4 R6 O6 Q6
          have G7 := Lib.hid (HGX.out V7 Q7.out)
          have X7 := Lib.hid (HBX.out V7 Q7.out)
          have b0 := G7.out.cell 0
          have b1 := G7.out.cell 1
          have b2 := G7.out.cell 2
          have m5 := X7.out.cell 5
          have m6 := X7.out.cell 6
          have m7 := X7.out.cell 7
          go_wp2_with fail
          refine (HGA.out V7 Q7.out).mono ?_
          rintro e v8 ⟨A8, c8, rfl, ho8, hb8⟩
          have R8 := Lib.hid (R7.out.below hb8 R7.out.lt)
          have O8 := Lib.hid (own_putA (gw := PA.1) (gh := PA.2.1) O7.out hb8 ho8 hz7)
          have Q8 := Lib.hid (Q7.out.trans (hb8.mono hz7))
          clear ho8 hb8 b0 b1 b2 m5 m6 m7 R7 O7 Q7 G7 X7 hz7 HGA
          have a5 := R8.out.cell 5
          have a6 := R8.out.cell 6
          have a7 := R8.out.cell 7
          have f5 := R8.out.free 5
          have f6 := R8.out.free 6
          have f7 := R8.out.free 7
          go_upto_region 16 with fail
          obtain ⟨V9, hV9⟩ : ∃ V, V = (((v8.setCell ⟨v3.heap.size, 5, none⟩ (.int .i64 PA.1)).setCell ⟨v3.heap.size, 6, none⟩ (.int .i64 PA.2.1)).setCell ⟨v3.heap.size, 7, none⟩ (.slice A8 PA.2.2.length c8)) := ⟨_, rfl⟩
          rw [← hV9]
          obtain ⟨t9, ht9⟩ : ∃ z0 : ScrS, z0 = { t7 with aw := PA.1, ah := PA.2.1, A := ⟨A8, c8, PA.2.2⟩ } := ⟨_, rfl⟩
          have E9t := Lib.hid ht9
          have R9 := Lib.hid (show RowS V9 v3.heap.size t9 by
            have x0 := R8.out
            have x1 := RowS.s_aw (z := PA.1) x0
            have x2 := RowS.s_ah (z := PA.2.1) x1
            have x3 := RowS.s_A (z := ⟨A8, c8, PA.2.2⟩) x2
            rw [hV9, ht9]; exact x3)
          have O9 := Lib.hid (show OwnS V9 v2.heap.size t9 by
            have x0 := R8.out
            have y0 := O8.out
            have y1 := RowS.ownC (j := 5) (v := .int .i64 PA.1) x0 y0
            have x1 := RowS.s_aw (z := PA.1) x0
            have y2 := RowS.ownC (j := 6) (v := .int .i64 PA.2.1) x1 y1
            have x2 := RowS.s_ah (z := PA.2.1) x1
            have y3 := RowS.ownC (j := 7) (v := .slice A8 PA.2.2.length c8) x2 y2
            have x3 := RowS.s_A (z := ⟨A8, c8, PA.2.2⟩) x2
            rw [hV9, ht9]; exact ⟨y3.c, y3.t, y3.r⟩)
          have Q9 := Lib.hid (show Below v2.heap.size V3 V9 by rw [hV9]; exact (((Q8.out.setCell (p := ⟨v3.heap.size, 5, none⟩) g3 (.int .i64 PA.1)).setCell (p := ⟨v3.heap.size, 6, none⟩) g3 (.int .i64 PA.2.1)).setCell (p := ⟨v3.heap.size, 7, none⟩) g3 (.slice A8 PA.2.2.length c8)))
          have hz9 : v2.heap.size ≤ V9.heap.size := by have := Q9.out.size; omega
          clear hV9 ht9
          clear a5 f5 a6 f6 a7 f7 R8 O8 Q8
          have X9 := Lib.hid (HBX.out V9 Q9.out)
          have m9 := X9.out.cell 9
          have m10 : V9.cell? ⟨w.heap.size, 10, none⟩ = some (.int .i64 (Y : Int)) := by rw [← EY.out]; exact X9.out.cell 10
          have a9 := R9.out.cell 9
          have a10 := R9.out.cell 10
          have a11 := R9.out.cell 11
          have a17 := R9.out.cell 17
          have a18 := R9.out.cell 18
          have f9 := R9.out.free 9
          have f10 := R9.out.free 10
          have f11 := R9.out.free 11
          have f17 := R9.out.free 17
          have f18 := R9.out.free 18
          go_wp2_with fail
          refine (l02Clamp_anyS s.x ((W2 : Int) - 1) (by omega) _).mono ?_
          rintro e v9' ⟨rfl, rfl⟩
          go_upto_region 21 with fail
          obtain ⟨V10, hV10⟩ : ∃ V, V = (((((V9.setCell ⟨v3.heap.size, 9, none⟩ (.int .i64 (clampD s.x ((W2 : Int) - 1)))).setCell ⟨v3.heap.size, 10, none⟩ (.int .i64 ((Y : Int) - (d : Int)))).setCell ⟨v3.heap.size, 11, none⟩ (.bool false)).setCell ⟨v3.heap.size, 17, none⟩ (.int .i64 0)).setCell ⟨v3.heap.size, 18, none⟩ (.int .i64 ((H2 : Int) - 1))) := ⟨_, rfl⟩
          rw [← hV10]
          obtain ⟨t10, ht10⟩ : ∃ z0 : ScrS, z0 = { t9 with x := clampD s.x ((W2 : Int) - 1), y := (Y : Int) - (d : Int), wrap := false, top := 0, bot := (H2 : Int) - 1 } := ⟨_, rfl⟩
          have E10t := Lib.hid ht10
          have R10 := Lib.hid (show RowS V10 v3.heap.size t10 by
            have x0 := R9.out
            have x1 := RowS.s_x (z := clampD s.x ((W2 : Int) - 1)) x0
            have x2 := RowS.s_y (z := (Y : Int) - (d : Int)) x1
            have x3 := RowS.s_wrap (z := false) x2
            have x4 := RowS.s_top (z := 0) x3
            have x5 := RowS.s_bot (z := (H2 : Int) - 1) x4
            rw [hV10, ht10]; exact x5)
          have O10 := Lib.hid (show OwnS V10 v2.heap.size t10 by
            have x0 := R9.out
            have y0 := O9.out
            have y1 := RowS.ownC (j := 9) (v := .int .i64 (clampD s.x ((W2 : Int) - 1))) x0 y0
            have x1 := RowS.s_x (z := clampD s.x ((W2 : Int) - 1)) x0
            have y2 := RowS.ownC (j := 10) (v := .int .i64 ((Y : Int) - (d : Int))) x1 y1
            have x2 := RowS.s_y (z := (Y : Int) - (d : Int)) x1
            have y3 := RowS.ownC (j := 11) (v := .bool false) x2 y2
            have x3 := RowS.s_wrap (z := false) x2
            have y4 := RowS.ownC (j := 17) (v := .int .i64 0) x3 y3
            have x4 := RowS.s_top (z := 0) x3
            have y5 := RowS.ownC (j := 18) (v := .int .i64 ((H2 : Int) - 1)) x4 y4
            have x5 := RowS.s_bot (z := (H2 : Int) - 1) x4
            rw [hV10, ht10]; exact ⟨y5.c, y5.t, y5.r⟩)
          have Q10 := Lib.hid (show Below v2.heap.size V3 V10 by rw [hV10]; exact (((((Q9.out.setCell (p := ⟨v3.heap.size, 9, none⟩) g3 (.int .i64 (clampD s.x ((W2 : Int) - 1)))).setCell (p := ⟨v3.heap.size, 10, none⟩) g3 (.int .i64 ((Y : Int) - (d : Int)))).setCell (p := ⟨v3.heap.size, 11, none⟩) g3 (.bool false)).setCell (p := ⟨v3.heap.size, 17, none⟩) g3 (.int .i64 0)).setCell (p := ⟨v3.heap.size, 18, none⟩) g3 (.int .i64 ((H2 : Int) - 1))))
          have hz10 : v2.heap.size ≤ V10.heap.size := by have := Q10.out.size; omega
          clear hV10 ht10
          clear m9 m10 a9 f9 a10 f10 a11 f11 a17 f17 a18 f18 X9 R9 O9 Q9 hz9
          go_wp2_with fail
          refine (l09Tabs_any W2 V10 w1 w2).mono ?_
          rintro e v11 ⟨A11, c11, rfl, ho11, hb11⟩
          have hntl : (tabsK ((W2 - 1) / 8)).length = (W2 - 1) / 8 := tabsK_len _
          have R11 := Lib.hid (R10.out.below hb11 R10.out.lt)
          have O11 := Lib.hid (O10.out.below (Nat.le_refl _) hb11)
          have Q11 := Lib.hid (Q10.out.trans (hb11.mono hz10))
          have HT11 := Lib.hid ho11
          clear ho11 hb11 R10 O10 Q10
          have a28 := R11.out.cell 28
          have f28 := R11.out.free 28
          go_upto_region 22 with fail
          obtain ⟨V12, hV12⟩ : ∃ V, V = v11.setCell ⟨v3.heap.size, 28, none⟩ (.slice A11 ((W2 - 1) / 8) c11) := ⟨_, rfl⟩
          rw [← hV12]
          obtain ⟨t12, ht12⟩ : ∃ z0 : ScrS, z0 = { t10 with tA := A11, tk := c11, tabs := tabsK ((W2 - 1) / 8) } := ⟨_, rfl⟩
          have E12t := Lib.hid ht12
          have R12 := Lib.hid (show RowS V12 v3.heap.size t12 by
            have h := R11.out.s_tabs (A := A11) (c := c11) (zs := tabsK ((W2 - 1) / 8))
            rw [hntl] at h
            rw [hV12, ht12]; exact h)
          have O12 := Lib.hid (show OwnS V12 v2.heap.size t12 by
            have h1 := RowS.ownC (j := 28) (v := .slice A11 ((W2 - 1) / 8) c11) R11.out O11.out
            have q0 := R11.out.ne HT11.out (by decide)
            have o1 := Only.own HT11.out (Only.cell_ v11 v3.heap.size 28 (.slice A11 ((W2 - 1) / 8) c11) rfl) (fun i hi e => q0 (e ▸ hi))
            rw [hV12, ht12]
            refine ⟨h1.c, ?_, h1.r⟩
            have o4 := OwnI.more o1 hz10
            show OwnI _ v2.heap.size A11 (tabsK ((W2 - 1) / 8)).length c11 (tabsK ((W2 - 1) / 8))
            rw [hntl]
            exact o4)
          have Q12 := Lib.hid (show Below v2.heap.size V3 V12 by rw [hV12]; exact (Q11.out.setCell (p := ⟨v3.heap.size, 28, none⟩) g3 _))
          have hz12 : v2.heap.size ≤ V12.heap.size := by have := Q12.out.size; omega
          clear hV12 ht12 a28 f28 R11 O11 Q11 HT11 hntl hz10
          have X12 := Lib.hid (HBX.out V12 Q12.out)
          have m21 := X12.out.cell 21
          have m22 := X12.out.cell 22
          have a21 := R12.out.cell 21
          have a22 := R12.out.cell 22
          have f21 := R12.out.free 21
          have f22 := R12.out.free 22
          go_wp2_with fail
          refine (l02Clamp_anyS s.sx ((W2 : Int) - 1) (by omega) _).mono ?_
          rintro e v12' ⟨rfl, rfl⟩
          go_wp2_with fail
          refine (l02Clamp_anyS s.sy ((H2 : Int) - 1) (by omega) _).mono ?_
          rintro e v12' ⟨rfl, rfl⟩
          go_upto_region 24 with fail
          obtain ⟨V13, hV13⟩ : ∃ V, V = ((V12.setCell ⟨v3.heap.size, 21, none⟩ (.int .i64 (clampD s.sx ((W2 : Int) - 1)))).setCell ⟨v3.heap.size, 22, none⟩ (.int .i64 (clampD s.sy ((H2 : Int) - 1)))) := ⟨_, rfl⟩
          rw [← hV13]
          obtain ⟨t13, ht13⟩ : ∃ z0 : ScrS, z0 = { t12 with sx := clampD s.sx ((W2 : Int) - 1), sy := clampD s.sy ((H2 : Int) - 1) } := ⟨_, rfl⟩
          have E13t := Lib.hid ht13
          have R13 := Lib.hid (show RowS V13 v3.heap.size t13 by
            have x0 := R12.out
            have x1 := RowS.s_sx (z := clampD s.sx ((W2 : Int) - 1)) x0
            have x2 := RowS.s_sy (z := clampD s.sy ((H2 : Int) - 1)) x1
            rw [hV13, ht13]; exact x2)
          have O13 := Lib.hid (show OwnS V13 v2.heap.size t13 by
            have x0 := R12.out
            have y0 := O12.out
            have y1 := RowS.ownC (j := 21) (v := .int .i64 (clampD s.sx ((W2 : Int) - 1))) x0 y0
            have x1 := RowS.s_sx (z := clampD s.sx ((W2 : Int) - 1)) x0
            have y2 := RowS.ownC (j := 22) (v := .int .i64 (clampD s.sy ((H2 : Int) - 1))) x1 y1
            have x2 := RowS.s_sy (z := clampD s.sy ((H2 : Int) - 1)) x1
            rw [hV13, ht13]; exact ⟨y2.c, y2.t, y2.r⟩)
          have Q13 := Lib.hid (show Below v2.heap.size V3 V13 by rw [hV13]; exact ((Q12.out.setCell (p := ⟨v3.heap.size, 21, none⟩) g3 (.int .i64 (clampD s.sx ((W2 : Int) - 1)))).setCell (p := ⟨v3.heap.size, 22, none⟩) g3 (.int .i64 (clampD s.sy ((H2 : Int) - 1)))))
          have hz13 : v2.heap.size ≤ V13.heap.size := by have := Q13.out.size; omega
          clear hV13 ht13
          clear m21 m22 a21 a22 f21 f22 X12 R12 O12 Q12 hz12
          have row13 := R13.out.of
          have Z13 := Lib.hid (HZX.out V13 Q13.out)
          have rz13 : RowZ V13 (w.heap.size + 1) 31 := RowZ.of Z13.out.row 31 rfl
          have HW13 := Lib.hid (HWX.out V13 Q13.out)
          have HDT := Lib.hid (show t13.data = szF s.data (W2 : Int) (H2 : Int) by
            obtain ⟨hsx0, hsx1, hsy0, hsy1⟩ : 0 ≤ s.sx ∧ s.sx < s.data.w ∧ 0 ≤ s.sy ∧ s.sy < s.data.h := by
              obtain ⟨_, ⟨_, _, _, _, _, a, b, c, d, _⟩, _⟩ := okD_iff.1 hok
              exact ⟨a, b, c, d⟩
            have ex : s.x = (X : Int) := FIT.out.x
            have eX : clampD s.x ((W2 : Int) - 1) = min s.x ((W2 : Int) - 1) := clamp_minS (by omega) (by omega)
            have eSX : clampD s.sx ((W2 : Int) - 1) = min s.sx ((W2 : Int) - 1) := clamp_minS hsx0 (by omega)
            have eSY : clampD s.sy ((H2 : Int) - 1) = min s.sy ((H2 : Int) - 1) := clamp_minS hsy0 (by omega)
            have HRZ : RZ s.data W L d = if s.onAlt then s.data.rows else keepN s.data.lim.toNat s.data.rows (rowsM s.data.M s.data.w.toNat (goneN s.y H2)) := by
              unfold RZ
              rw [show s.data.lim.toNat = L by rw [FIT.out.lim]; rfl, show s.data.w.toNat = W by rw [FIT.out.w]; rfl, HDD.out]; rfl
            have hd9 : t13.data = { sizeD s3.data W2 H2 with mw := PM.1, mh := PM.2.1, M := PM.2.2, aw := PA.1, ah := PA.2.1, A := PA.2.2, x := clampD s.x ((W2 : Int) - 1), y := (Y : Int) - (d : Int), sx := clampD s.sx ((W2 : Int) - 1), sy := clampD s.sy ((H2 : Int) - 1), rows := gs.map (·.cs) } := by
              rw [E13t.out, E12t.out, E10t.out, E9t.out, E7t.out, E5t.out, ET.out]; rfl
            rw [hd9, HD3.out, EPM.out, EPA.out, eX, eSX, eSY, GS.out, HRZ, HD.out, ← EY.out, HDD.out]; rfl)
          clear HDD
          go_wp2_with fail
          refine bodyPost_ret (v := .tuple #[.agg (scrA t13), .bool true]) (res55b rfl Try.underlying52 rfl size55 _ _ (w.heap.size + 1) _ _ rfl rfl (Z13.out.row.setRow) rfl) rfl ⟨t13, by rw [HF.out], ?_, HDT.out, ?_⟩
          · exact ((O13.out.row_ _ _ (by omega)).more (by omega))
          · exact below_setRow HW13.out (by omega) _
end Go.Proofs.Ytbifbeahakchjaa.Sc
namespace Go.Proofs.Ytbifbeahakchjaa.Sc
open Go.RowKit Go.Proofs.Ytbifbeahakchjaa.Bytes Go.Proofs.Ytbifbeahakchjaa.Rows_ Go.Proofs.Ytbifbeahakchjaa.RowK Go.Proofs.Ytbifbeahakchjaa.Gr Go.Proofs.Ytbifbeahakchjaa.DOk Go.Proofs.Ytbifbeahakchjaa.Opq Go.Proofs.Ytbifbeahakchjaa.Attr
set_option linter.unusedVariables false
attribute [local go_sem ↓] Sc.exec_storeS Sc.exec_loadS
attribute [local go_sem] blkOf_ptr isHead_ptr aggN_agg setRow_alloc rowZ_at rowZ_past scrA_size nsA_size one_scr rowOf_alloc_at rowOf_alloc_past rowOf_drew ns_pre
attribute [local go_sem] sa_w sa_h sa_mw sa_mh sa_M sa_aw sa_ah sa_A sa_onAlt sa_x sa_y sa_wrap sa_fg sa_bg sa_b sa_u sa_t sa_top sa_bot sa_noWrap sa_hide sa_sx sa_sy sa_sfg sa_sbg sa_sb sa_su sa_st sa_tabs sa_lim sa_rows
attribute [local go_sem] ns_w ns_h ns_mw ns_mh ns_M ns_aw ns_ah ns_A ns_onAlt ns_x ns_y ns_wrap ns_fg ns_bg ns_b ns_u ns_t ns_top ns_bot ns_noWrap ns_hide ns_sx ns_sy ns_sfg ns_sbg ns_sb ns_su ns_st ns_tabs ns_lim ns_rows
attribute [local go_sem] ns_at0 ns_at1 ns_at2 ns_at3 ns_at4 ns_at5 ns_at6 ns_at7 ns_at8 ns_at9 ns_at10 ns_at11 ns_at12 ns_at13 ns_at14 ns_at15 ns_at16 ns_at17 ns_at18 ns_at19 ns_at20 ns_at21 ns_at22 ns_at23 ns_at24 ns_at25 ns_at26 ns_at27 ns_at28 ns_at29 ns_at30 ns_at31 ns_at32 ns_at33 ns_at34 ns_at35 ns_at36 ns_at37
attribute [local go_sem] scr_at0 scr_at1 scr_at2 scr_at3 scr_at4 scr_at5 scr_at6 scr_at7 scr_at8 scr_at9 scr_at10 scr_at11 scr_at12 scr_at13 scr_at14 scr_at15 scr_at16 scr_at17 scr_at18 scr_at19 scr_at20 scr_at21 scr_at22 scr_at23 scr_at24 scr_at25 scr_at26 scr_at27 scr_at28 scr_at29 scr_at30
theorem onlyU {S : Nat → Prop} {w w' : World} (h : Only S w.drew w') : Only S w w' := ⟨h.os, h.tape, h.output, h.size, h.block⟩
theorem clamp_min {x h : Int} (h0 : 0 ≤ x) (h1 : 0 ≤ h) : clampD x h = min x h := by unfold clampD clampV; split <;> (try split) <;> omega
theorem clamp_in {x h : Int} (h0 : 0 ≤ x) (h1 : x ≤ h) : clampD x h = x := by unfold clampD clampV; split <;> (try split) <;> omega
def rowsZ (d : ScrD) (h : Nat) : List (List CellD) := if d.onAlt then d.rows else keepN d.lim.toNat d.rows (rowsM d.M d.w.toNat (goneN d.y h))
set_option maxRecDepth 100000 in
set_option maxHeartbeats 6400000 in
theorem resize_any (t : ScrS) (g B : Nat) (w : World) (W2 H2 : Nat) (hg : RowN w g t) (ho : OwnS w B t) (hok : okD t.data = true) (hs : sizeB (W2 : Int) (H2 : Int) = true) (hB : B ≤ g) :
    Calls Try.prog 72 #[.pointer (some ⟨g, 0, none⟩), .int .i64 (W2 : Int), .int .i64 (H2 : Int)] w (Mth B g (sizeD t.data W2 H2) w) := by
  obtain ⟨s1, s2, s3, s4, s5⟩ := of_sizeB hs
  obtain ⟨W, H, X, Y, Tp, Bt, L, fit⟩ := ok_fit hok
  have ex : t.x = (X : Int) := fit.x
  have ey : t.y = (Y : Int) := fit.y
  have el : t.lim = (L : Int) := fit.lim
  have emw : t.mw = (W : Int) := fit.mw
  have q1 := fit.w1; have q2 := fit.w2; have q3 := fit.h1; have q4 := fit.h2; have q5 := fit.x2; have q6 := fit.y2
  obtain ⟨hsx0, hsx1, hsy0, hsy1⟩ : 0 ≤ t.sx ∧ t.sx < t.data.w ∧ 0 ≤ t.sy ∧ t.sy < t.data.h := by
    obtain ⟨_, ⟨_, _, _, _, _, a, b, c, d, _⟩, _⟩ := okD_iff.1 hok
    exact ⟨a, b, c, d⟩
  obtain ⟨SX, hSX⟩ : ∃ n : Nat, t.sx = (n : Int) := ⟨t.sx.toNat, by omega⟩
  obtain ⟨SY, hSY⟩ : ∃ n : Nat, t.sy = (n : Int) := ⟨t.sy.toNat, by omega⟩
  have hSX2 : SX < 120 := by have := fit.w; omega
  have hSY2 : SY < 120 := by have := fit.h; omega
  obtain ⟨d, hd⟩ : ∃ d, d = goneN t.y H2 := ⟨_, rfl⟩
  have hd2 : d = (Y + 1) - H2 := by rw [hd]; unfold goneN; rw [ey]; omega
  have hmx : max (0 : Int) ((Y : Int) - (H2 : Int) + 1) = (d : Int) := by omega
  have HN := Lib.hid hg
  have HO := Lib.hid ho
  have HS := Lib.hid hs
  have hml : t.M.cs.length = W * H := fit.ml
  have hal : t.A.cs.length = W * H := fit.al
  have hwh := fit.wh
  have hrl : t.rows.length ≤ L := by have h := fit.rl; rw [show t.data.rows.length = t.rows.length from List.length_map _] at h; exact h
  have hgl : g < w.heap.size := hg.lt
  have hbl : B ≤ w.heap.size := by omega
  have hW2 : 1 ≤ W2 := by omega
  have hW3 : W2 ≤ 120 := by omega
  have HK := Lib.hid (keep_any t g B w.drew W L (d : Int) hg.drew ho.drew emw q1 (by rw [Int.toNat_natCast, hml, Nat.mul_comm W H]; exact Nat.mul_le_mul_right _ (by omega)) (by omega) (by rw [hml]; omega) fit.l2 hrl hB)
  rw [Int.toNat_natCast] at HK
  have HRZ := Lib.hid (show rowsZ t.data H2 = if t.onAlt then t.data.rows else keepN L (t.rows.map (·.cs)) (rowsM t.M.cs W d) by
    unfold rowsZ
    rw [show t.data.lim.toNat = L by rw [fit.lim]; rfl, show t.data.w.toNat = W by rw [fit.w]; rfl, hd]; rfl)
  have HSM := Lib.hid (fun (V : World) A c gs (h : RowN V g { t with bA := A, bk := c, rows := gs }) (h' : OwnS V B { t with bA := A, bk := c, rows := gs }) => sizeM_any { t with bA := A, bk := c, rows := gs } g B V W2 H2 d h h' hs (by show t.M.cs.length ≤ 4000; omega) (by omega) hB)
  have HD := Lib.hid hd
  have HL29 := Lib.hid el
  have HX := Lib.hid ex
  have HY := Lib.hid ey
  have k6 : w.cell? ⟨g, 10, none⟩ = some (.int .i64 (Y : Int)) := by rw [← ey]; exact hg.cell 10
  have k8 : w.cell? ⟨g, 8, none⟩ = some (.bool t.onAlt) := hg.cell 8
  have k29 : w.cell? ⟨g, 29, none⟩ = some (.int .i64 (L : Int)) := by rw [← el]; exact hg.cell 29
  have HSX := Lib.hid hSX
  have HSY := Lib.hid hSY
  have hal2 : t.A.cs.length ≤ 4000 := by omega
  clear hg ho hok hs fit ex ey el emw hml hal hrl hd hSX hSY hsx0 hsx1 hsy0 hsy1
  have hd3 := Lib.hid hd2
  go_enter Try.func72, Try.ntmps72
  go_upto_if 21 with fail
  have hif : (if 0 < (Y : Int) - (H2 : Int) + 1 then (Y : Int) - (H2 : Int) + 1 else 0) = (d : Int) := by split <;> omega
  rw [hif]
  clear hif hmx hd2
  go_cut [] (fun wx => ∃ A c gs, RowN wx g { t with bA := A, bk := c, rows := gs } ∧ OwnS wx B { t with bA := A, bk := c, rows := gs } ∧ gs.map (·.cs) = rowsZ t.data H2 ∧ Below B w wx)
  case first =>
    cases hon : t.onAlt
    · have HZ := Lib.hid (show rowsZ t.data H2 = keepN L (t.rows.map (·.cs)) (rowsM t.M.cs W d) by rw [HRZ.out, hon]; rfl)
      clear hon k8 HRZ HSM
      go_upto_region 2 with fail
      go_region_held3 (fun w' => w'.cell? ⟨g, 29, none⟩ = some (.int .i64 (L : Int))) (first | assumption | go_keep | (exact hk29)) ((go_at_call 128; (with_reducible refine HK.out.mono ?_); rintro e v ⟨rfl, A, c, gs, hN, hO, hmp, hb'⟩; have hb : Below B w v := undrew hb'; have hk29 : v.cell? ⟨g, 29, none⟩ = some (.int .i64 (L : Int)) := (hN.cell 29).trans (by { rw [← HL29.out]; rfl }); have HN5 := Lib.hid hN; have HO5 := Lib.hid hO; have HMP := Lib.hid hmp; have HB5 := Lib.hid hb; clear hN hO hmp hb hb'))
      all_goals
        go_wp2_with fail
        go_meet
        case rel => exact ⟨A, c, gs, HN5.out, HO5.out, HMP.out.trans HZ.out.symm, HB5.out⟩
    · have HZ := Lib.hid (show rowsZ t.data H2 = t.data.rows by rw [HRZ.out, hon]; rfl)
      clear hon k8 HRZ HSM HK
      go_wp2_with fail
      go_meet
      case rel => exact ⟨t.bA, t.bk, t.rows, HN.out, HO.out, HZ.out.symm, Below.refl _ _⟩
  case rest =>
    obtain ⟨A, c, gs, hNc, hOc, hgs, hbc⟩ := hcut
    have HSM1 := Lib.hid (HSM.out wc A c gs hNc hOc)
    have HBC := Lib.hid hbc
    have HGS := Lib.hid hgs
    clear hNc hOc hbc hgs HSM HK k6 k8 k29 HRZ HN HO
    go_wp2_with fail
    refine HSM1.out.mono ?_
    rintro e v3 ⟨rfl, A3, c3, hN3, hO3, hb3⟩
    obtain ⟨t3, ht3⟩ : ∃ t3 : ScrS, t3 = { t with bA := A, bk := c, rows := gs, mw := (layT W2 H2 t.mw t.mh t.M.cs d).1, mh := (layT W2 H2 t.mw t.mh t.M.cs d).2.1, M := ⟨A3, c3, (layT W2 H2 t.mw t.mh t.M.cs d).2.2⟩ } := ⟨_, rfl⟩
    have hN3' : RowN v3 g t3 := by rw [ht3]; exact hN3
    have hO3' : OwnS v3 B t3 := by rw [ht3]; exact hO3
    have HSA1 := Lib.hid (sizeA_any t3 g B v3 W2 H2 d hN3' hO3' HS.out (by rw [ht3]; exact hal2) (by have := hd3.out; omega) hB)
    have HB3 := Lib.hid (HBC.out.trans hb3)
    clear hN3 hO3 hN3' hO3' hb3 HBC HSM1
    go_wp2_with fail
    refine HSA1.out.mono ?_
    rintro e v4 ⟨rfl, A4, c4, hN4, hO4, hb4⟩
    obtain ⟨t4, ht4⟩ : ∃ t4 : ScrS, t4 = { t3 with aw := (layT W2 H2 t3.aw t3.ah t3.A.cs d).1, ah := (layT W2 H2 t3.aw t3.ah t3.A.cs d).2.1, A := ⟨A4, c4, (layT W2 H2 t3.aw t3.ah t3.A.cs d).2.2⟩ } := ⟨_, rfl⟩
    rw [← ht4] at hN4 hO4
    have HN4 := Lib.hid hN4
    have HO4 := Lib.hid hO4
    have HB4 := Lib.hid (HB3.out.trans hb4)
    have E3 := Lib.hid ht3
    have E4 := Lib.hid ht4
    clear hN4 hO4 hb4 ht3 ht4 HSA1 HB3
    -- the sides
    have R5 := Lib.hid ((HN4.out.s_w (z := (W2 : Int))).s_h (z := (H2 : Int)))
    have O5 := Lib.hid (show OwnS ((v4.setCell ⟨g, 0, none⟩ (.int .i64 (W2 : Int))).setCell ⟨g, 1, none⟩ (.int .i64 (H2 : Int))) B { t4 with w := (W2 : Int), h := (H2 : Int) } from by
      have h1 := HN4.out.own (j := 0) (v := .int .i64 (W2 : Int)) HO4.out
      have h2 := (HN4.out.s_w (z := (W2 : Int))).own (j := 1) (v := .int .i64 (H2 : Int)) h1
      exact ⟨h2.c, h2.t, h2.r⟩)
    have B5 := Lib.hid ((HB4.out.setCell (p := ⟨g, 0, none⟩) (by simpa using hB) (.int .i64 (W2 : Int))).setCell (p := ⟨g, 1, none⟩) (by simpa using hB) (.int .i64 (H2 : Int)))
    have c0 : v4.cell? ⟨g, 0, none⟩ = some (.int .i64 t4.w) := HN4.out.cell 0
    have c1 : v4.cell? ⟨g, 1, none⟩ = some (.int .i64 t4.h) := HN4.out.cell 1
    have f0 := HN4.out.free 0
    have f1 := HN4.out.free 1
    go_upto_region 6 with fail
    obtain ⟨V5, hV5⟩ : ∃ V5, V5 = ((v4.setCell ⟨g, 0, none⟩ (.int .i64 (W2 : Int))).setCell ⟨g, 1, none⟩ (.int .i64 (H2 : Int))) := ⟨_, rfl⟩
    rw [← hV5] at R5 O5 B5 ⊢
    clear hV5 c0 c1 f0 f1 HN4 HO4 HB4
    go_wp2_with fail
    refine (newTabs_any W2 V5 hW2 hW3).mono ?_
    rintro e v6 ⟨A6, c6, rfl, ho6, hb6⟩
    obtain ⟨nt, hnt⟩ : ∃ n, n = (W2 - 1) / 8 := ⟨_, rfl⟩
    have hntl : (tabsK ((W2 - 1) / 8)).length = (W2 - 1) / 8 := tabsK_len _
    have R6 := Lib.hid (R5.out.below hb6 R5.out.lt)
    have O6 := Lib.hid (O5.out.below (Nat.le_refl _) hb6)
    have B6 := Lib.hid (B5.out.trans (hb6.mono (show B ≤ V5.heap.size by have := R5.out.lt; exact Nat.le_trans hB (Nat.le_of_lt this))))
    have HT6 := Lib.hid ho6
    have e17 : v6.cell? ⟨g, 17, none⟩ = some (.int .i64 t4.top) := R6.out.cell 17
    have e18 : v6.cell? ⟨g, 18, none⟩ = some (.int .i64 t4.bot) := R6.out.cell 18
    have e28 : v6.cell? ⟨g, 28, none⟩ = some (.slice t4.tA t4.tabs.length t4.tk) := R6.out.cell 28
    have f17 := R6.out.free 17
    have f18 := R6.out.free 18
    have f28 := R6.out.free 28
    clear ho6 hb6
    go_upto_region 7 with fail
    obtain ⟨V7, hV7⟩ : ∃ V7, V7 = (((v6.setCell ⟨g, 17, none⟩ (.int .i64 0)).setCell ⟨g, 18, none⟩ (.int .i64 ((H2 : Int) - 1))).setCell ⟨g, 28, none⟩ (.slice A6 ((W2 - 1) / 8) c6)) := ⟨_, rfl⟩
    rw [← hV7]
    have R7 := Lib.hid (show RowN V7 g { t4 with w := (W2 : Int), h := (H2 : Int), top := 0, bot := (H2 : Int) - 1, tA := A6, tk := c6, tabs := tabsK ((W2 - 1) / 8) } by
      have h := ((R6.out.s_top (z := 0)).s_bot (z := (H2 : Int) - 1)).s_tabs (A := A6) (c := c6) (zs := tabsK ((W2 - 1) / 8))
      rw [hntl] at h
      rw [hV7]; exact h)
    have O7 := Lib.hid (show OwnS V7 B { t4 with w := (W2 : Int), h := (H2 : Int), top := 0, bot := (H2 : Int) - 1, tA := A6, tk := c6, tabs := tabsK ((W2 - 1) / 8) } by
      have h1 := R6.out.own (j := 17) (v := .int .i64 0) O6.out
      have h2 := (R6.out.s_top (z := 0)).own (j := 18) (v := .int .i64 ((H2 : Int) - 1)) h1
      have h3 := ((R6.out.s_top (z := 0)).s_bot (z := (H2 : Int) - 1)).own (j := 28) (v := .slice A6 ((W2 - 1) / 8) c6) h2
      have q0 := R6.out.ne HT6.out (by decide)
      have o1 := Only.own HT6.out (Only.cell_ v6 g 17 (.int .i64 0) rfl) (fun i hi e => q0 (e ▸ hi))
      have o2 := Only.own o1 (Only.cell_ _ g 18 (.int .i64 ((H2 : Int) - 1)) rfl) (fun i hi e => q0 (e ▸ hi))
      have o3 := Only.own o2 (Only.cell_ _ g 28 (.slice A6 ((W2 - 1) / 8) c6) rfl) (fun i hi e => q0 (e ▸ hi))
      rw [hV7]
      refine ⟨h3.c, ?_, h3.r⟩
      have o4 := OwnI.more o3 (show B ≤ V5.heap.size by have := R5.out.lt; exact Nat.le_trans hB (Nat.le_of_lt this))
      show OwnI _ B A6 (tabsK ((W2 - 1) / 8)).length c6 (tabsK ((W2 - 1) / 8))
      rw [hntl]
      exact o4)
    have B7 := Lib.hid (show Below B w V7 by
      rw [hV7]
      exact ((B6.out.setCell (p := ⟨g, 17, none⟩) (by simpa using hB) _).setCell (p := ⟨g, 18, none⟩) (by simpa using hB) _).setCell (p := ⟨g, 28, none⟩) (by simpa using hB) _)
    have k21 : V7.cell? ⟨g, 21, none⟩ = some (.int .i64 (SX : Int)) := by rw [← HSX.out]; have h := R7.out.cell 21; rw [E4.out, E3.out] at h; exact h
    have k22 : V7.cell? ⟨g, 22, none⟩ = some (.int .i64 (SY : Int)) := by rw [← HSY.out]; have h := R7.out.cell 22; rw [E4.out, E3.out] at h; exact h
    have f21 := R7.out.free 21
    have f22 := R7.out.free 22
    clear e17 e18 e28 f17 f18 f28 R6 O6 B6 HT6 R5 O5 B5 hV7 hntl
    go_region
    have hif1 : (if (W2 : Int) - 1 < (SX : Int) then (W2 : Int) - 1 else (SX : Int)) = min t.sx ((W2 : Int) - 1) := by rw [HSX.out]; split <;> omega
    have hif2 : (if (H2 : Int) - 1 < (SY : Int) then (H2 : Int) - 1 else (SY : Int)) = min t.sy ((H2 : Int) - 1) := by rw [HSY.out]; split <;> omega
    rw [hif1, hif2]
    obtain ⟨V8, hV8⟩ : ∃ V8, V8 = ((V7.setCell ⟨g, 21, none⟩ (.int .i64 (min t.sx ((W2 : Int) - 1)))).setCell ⟨g, 22, none⟩ (.int .i64 (min t.sy ((H2 : Int) - 1)))).drew := ⟨_, rfl⟩
    rw [← hV8]
    obtain ⟨t8, ht8⟩ : ∃ t8 : ScrS, t8 = { t4 with w := (W2 : Int), h := (H2 : Int), top := 0, bot := (H2 : Int) - 1, tA := A6, tk := c6, tabs := tabsK ((W2 - 1) / 8), sx := min t.sx ((W2 : Int) - 1), sy := min t.sy ((H2 : Int) - 1) } := ⟨_, rfl⟩
    have hN8 : RowN V8 g t8 := by
      rw [hV8, ht8]
      exact ((R7.out.s_sx (z := min t.sx ((W2 : Int) - 1))).s_sy (z := min t.sy ((H2 : Int) - 1))).drew
    have hO8 : OwnS V8 B t8 := by
      have h1 := R7.out.own (j := 21) (v := .int .i64 (min t.sx ((W2 : Int) - 1))) O7.out
      have h2 := ((R7.out.s_sx (z := min t.sx ((W2 : Int) - 1))).own (j := 22) (v := .int .i64 (min t.sy ((H2 : Int) - 1))) h1).drew
      rw [hV8, ht8]
      exact ⟨h2.c, h2.t, h2.r⟩
    have hB8 : Below B w V8 := by
      rw [hV8]
      exact ((B7.out.setCell (p := ⟨g, 21, none⟩) (by simpa using hB) _).setCell (p := ⟨g, 22, none⟩) (by simpa using hB) _).drew
    have k9 : V8.cell? ⟨g, 9, none⟩ = some (.int .i64 (X : Int)) := by rw [← HX.out]; have h := hN8.cell 9; rw [ht8, E4.out, E3.out] at h; rw [ht8, E4.out, E3.out] at hN8; exact h
    have k10 : V8.cell? ⟨g, 10, none⟩ = some (.int .i64 (Y : Int)) := by rw [← HY.out]; have h := hN8.cell 10; rw [ht8, E4.out, E3.out] at h; exact h
    have hw8 : t8.w = (W2 : Int) := by rw [ht8]
    have hh8 : t8.h = (H2 : Int) := by rw [ht8]
    have HM := Lib.hid (fun V (h : RowN V g t8) => moveTo_any t8 g (X : Int) ((Y : Int) - (d : Int)) V h (by omega) (by omega) (by omega) (by omega))
    have HN8 := Lib.hid hN8
    have HO8 := Lib.hid hO8
    have HB8 := Lib.hid hB8
    have E8 := Lib.hid ht8
    have HW8 := Lib.hid hw8
    have HH8 := Lib.hid hh8
    clear hN8 hO8 hB8 ht8 hw8 hh8 hV8 hif1 hif2 k21 k22 f21 f22 R7 O7 B7
    have hwr : IntKind.i64.wrap ((Y : Int) - (d : Int)) = (Y : Int) - (d : Int) := by have := hd3.out; exact IntWalk.i64_in _ (by omega)
    go_upto_region 8 with fail
    go_region_law (first
      | (go_simp; (try rw [hwr]); go_at_call 131; (with_reducible refine (HM.out _ HN8.out.drew).mono ?_); rintro e v ⟨rfl, hR, hon⟩; have HR := Lib.hid hR; have HON := Lib.hid (onlyU hon); clear hR hon))
    all_goals
      go_wp2_with fail
      go_end0
      have h := HO8.out.only HON.out (fun i hi e => HN8.out.apart HO8.out (e ▸ hi))
      refine ⟨rfl, _, HR.out, ⟨h.c, h.t, h.r⟩, ?_, HB8.out.trans (Only.below_ HON.out (Below.refl B _) (by have := HN8.out.lt; exact Nat.le_trans hB (Nat.le_of_lt this)) (fun i hi => by subst hi; exact hB))⟩
      have eX : clampD (X : Int) (t8.w - 1) = min t.x ((W2 : Int) - 1) := by rw [HW8.out, HX.out]; exact clamp_min (by omega) (by omega)
      have eY : clampD ((Y : Int) - (d : Int)) (t8.h - 1) = t.y - ((goneN t.y H2 : Nat) : Int) := by rw [HH8.out, HY.out, ← HY.out, ← HD.out, HY.out]; have := hd3.out; exact clamp_in (by omega) (by omega)
      rw [eX, eY]
      have hd9 : ({ t8 with x := min t.x ((W2 : Int) - 1), y := t.y - ((goneN t.y H2 : Nat) : Int), wrap := false } : ScrS).data = { sizeD t.data W2 H2 with rows := gs.map (·.cs) } := by
        rw [E8.out, E4.out, E3.out, HD.out]; rfl
      rw [hd9, HGS.out]; rfl
end Go.Proofs.Ytbifbeahakchjaa.Sc
