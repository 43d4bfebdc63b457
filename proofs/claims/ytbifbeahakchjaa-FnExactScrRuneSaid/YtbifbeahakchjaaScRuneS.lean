/- spec.ScrRune: a rune written, in the model. -/
import Derived.Test.YtbifbeahakchjaaScCopy
import Derived.Test.YtbifbeahakchjaaScOk
import Derived.Test.YtbifbeahakchjaaKiD
import Derived.Test.YtbifbeahakchjaaGrSlide
import Derived.Test.YtbifbeahakchjaaKiM
import Derived.Test.YtbifbeahakchjaaScGoS
import Derived.Test.YtbifbeahakchjaaScPres
import Derived.Test.YtbifbeahakchjaaKiX
import Derived.Deep.RegionHeld3
import Derived.Deep.Cut
import Derived.Deep.CutRange
import Derived.Deep.DeepCutAuto
import Derived.IntWalk
namespace Go.Proofs.Ytbifbeahakchjaa.Sc
open Go.RowKit Go.Proofs.Ytbifbeahakchjaa.Bytes Go.Proofs.Ytbifbeahakchjaa.Rows_ Go.Proofs.Ytbifbeahakchjaa.RowK Go.Proofs.Ytbifbeahakchjaa.Gr Go.Proofs.Ytbifbeahakchjaa.DOk Go.Proofs.Ytbifbeahakchjaa.Opq Go.Proofs.Ytbifbeahakchjaa.Attr
set_option linter.unusedVariables false
attribute [local go_sem ↓] Sc.exec_storeS Sc.exec_loadS
attribute [local go_sem] rowOf_drew blkOf_ptr isHead_ptr aggN_agg setRow_alloc rowZ_at rowZ_past scrA_size one_scr rowOf_alloc_at rowOf_alloc_past
attribute [local go_sem] sa_w sa_h sa_mw sa_mh sa_M sa_aw sa_ah sa_A sa_onAlt sa_x sa_y sa_wrap sa_fg sa_bg sa_b sa_u sa_t sa_top sa_bot sa_noWrap sa_hide sa_sx sa_sy sa_sfg sa_sbg sa_sb sa_su sa_st sa_tabs sa_lim sa_rows
attribute [local go_sem] scr_at0 scr_at1 scr_at2 scr_at3 scr_at4 scr_at5 scr_at6 scr_at7 scr_at8 scr_at9 scr_at10 scr_at11 scr_at12 scr_at13 scr_at14 scr_at15 scr_at16 scr_at17 scr_at18 scr_at19 scr_at20 scr_at21 scr_at22 scr_at23 scr_at24 scr_at25 scr_at26 scr_at27 scr_at28 scr_at29 scr_at30
theorem fill_ok {s : ScrS} (h : okD s.data = true) {r : Int} (hr : Rune.showB r = true) : fillT (shW s) (shH s) (shC s).cs s.x s.y 1 1 (cellD s.data r) = (shW s, shH s, fillD s.data s.x s.y 1 1 (cellD s.data r)) := by
  obtain ⟨e1, e2, g⟩ := sh_ok h
  obtain ⟨W, H, X, Y, T, Bt, L, f⟩ := ok_fit h
  have ex : s.x = (X : Int) := f.x
  have ey : s.y = (Y : Int) := f.y
  have := f.x2; have := f.y2; have := f.w2; have := f.h2
  have ha : okA s.data.fg s.data.bg = true := (okD_iff.1 h).2.1.2.2.2.2.2.2.2.2.2.1
  have hg : goodF (shW s) (shH s) (shC s).cs s.x s.y 1 1 (cellD s.data r) = true := by
    unfold goodF
    rw [g, show okC (cellD s.data r) = true by unfold okC cellD; rw [hr, ha]; rfl, show smallB s.x = true from decide_eq_true (by omega), show smallB s.y = true from decide_eq_true (by omega), show smallB 1 = true from by decide]; rfl
  unfold fillT
  rw [hg, if_pos rfl, e1, e2, sh_data]; rfl
set_option maxRecDepth 100000 in
set_option maxHeartbeats 3200000 in
theorem spec_ScrRune_any (s : ScrS) (w : World) (b : Nat) (z : Int) (ho : OwnS w b s) (hn : szS s ≤ 1048576) :
    Calls Try.prog 31 #[.agg (scrA s), .int .i64 z] w (AnsS (okF (fun d => runeD d z) s.data) w) := by
  have H0 := Lib.hid (((Below.refl w.heap.size w).alloc (Nat.le_refl _) (.cells (scrA s) 52)).alloc (by simp) (.cells (scrA zeroS) 52))
  have B0 := Lib.hid (show RowS ((w.alloc (.cells (scrA s) 52)).alloc (.cells (scrA zeroS) 52)) w.heap.size s from (RowS.new w s).alloc _)
  have Z0 := Lib.hid (show RowS ((w.alloc (.cells (scrA s) 52)).alloc (.cells (scrA zeroS) 52)) (w.heap.size + 1) zeroS from by have h := RowS.new (w.alloc (.cells (scrA s) 52)) zeroS; simpa using h)
  have hone0 : One #[.int .i64 0, .int .i64 0, .int .i64 0, .int .i64 0, .slice none 0 0, .int .i64 0, .int .i64 0, .slice none 0 0, .bool false, .int .i64 0, .int .i64 0, .bool false, .int .i64 0, .int .i64 0, .bool false, .bool false, .bool false, .int .i64 0, .int .i64 0, .bool false, .bool false, .int .i64 0, .int .i64 0, .int .i64 0, .int .i64 0, .bool false, .bool false, .bool false, .slice none 0 0, .int .i64 0, .slice none 0 0] := one_scr zeroS
  have HO := Lib.hid (fun W (h : Below w.heap.size w W) => ho.below (Nat.le_refl _) h)
  have HOK := Lib.hid (fun W (h : Below w.heap.size w W) => spec_ScrOk_any s W (ho.below (Nat.le_refl _) h).rd hn)
  have HCP := Lib.hid (fun W (h : Below w.heap.size w W) => l09Copy_own s W b (ho.below (Nat.le_refl _) h) hn)
  clear ho
  have HN := Lib.hid hn
  clear hn
  cases hok : okD s.data
  · have HF := Lib.hid (okF_no (f := (fun d => runeD d z)) hok)
    go_enter Try.func31, Try.ntmps31
    go_wp2_with fail
    refine (HOK.out _ H0.out).mono ?_
    rintro e v1 ⟨rfl, hb1⟩
    rw [hok]
    have Z1 := Lib.hid (Z0.out.below hb1 Z0.out.lt)
    have H1 := Lib.hid (H0.out.trans (hb1.mono (by simp; omega)))
    have rz1 : RowZ v1 (w.heap.size + 1) 31 := RowZ.of Z1.out.row 31 rfl
    clear hb1 B0 Z0 H0 HCP HO HOK HN
    go_wp2_with fail
    refine bodyPost_ret (v := .agg (scrA zeroS)) (res55 Try.results31 _ _ (w.heap.size + 1) _ (by simp) (Z1.out.row.setRow) rfl) rfl ⟨zeroS, rfl, ?_, ?_, ?_⟩
    · exact zeroS_own _ _
    · rw [HF.out]; rfl
    · exact below_setRow H1.out (by omega) _
  · have HF := Lib.hid (okF_yes (f := (fun d => runeD d z)) hok)
    have HKY := Lib.hid hok
    go_enter Try.func31, Try.ntmps31
    go_wp2_with fail
    refine (HOK.out _ H0.out).mono ?_
    rintro e v1 ⟨rfl, hb1⟩
    rw [hok]
    have B1 := Lib.hid (B0.out.below hb1 B0.out.lt)
    have Z1 := Lib.hid (Z0.out.below hb1 Z0.out.lt)
    have H1 := Lib.hid (H0.out.trans (hb1.mono (by simp; omega)))
    have row1 := B1.out.of
    clear hb1 B0 Z0 H0 HOK hok
    go_wp2_with fail
    refine (HCP.out _ H1.out).mono ?_
    rintro e v2 ⟨t, rfl, ho2, hd2, hb2⟩
    have B2 := Lib.hid (B1.out.below hb2 B1.out.lt)
    have Z2 := Lib.hid (Z1.out.below hb2 Z1.out.lt)
    have zz1 : w.heap.size + 1 < v1.heap.size := Z1.out.lt
    have H2 := Lib.hid (H1.out.trans (hb2.mono H1.out.size))
    have O2 := Lib.hid (ho2.more (base' := w.heap.size + 2) (by omega))
    have D2 := Lib.hid hd2
    have zz2 : w.heap.size + 1 < v2.heap.size := Z2.out.lt
    have zz2' : w.heap.size < v2.heap.size := by omega
    have rz2 : RowZ v2 (w.heap.size + 1) 31 := RowZ.of Z2.out.row 31 rfl
    clear hb2 ho2 hd2 B1 Z1 H1 HCP row1
    obtain ⟨q, hq⟩ : ∃ q, q = Rune.showB z := ⟨_, rfl⟩
    have HSH := Lib.hid (fun V => show Calls Try.prog 84 #[.int .i64 z] V (fun e w' => e = .returned (.bool q) ∧ V = w') from hq ▸ Rune.spec_Shows_any z V)
    have HQ := Lib.hid hq
    clear hq
    go_upto_region 4 with fail
    obtain ⟨V, hV⟩ : ∃ V, V = v2.alloc (.cells (scrA t) 52) := ⟨_, rfl⟩
    have BT := Lib.hid (show RowS V v2.heap.size t from by rw [hV]; exact RowS.new v2 t)
    have ZV := Lib.hid (show RowS V (w.heap.size + 1) zeroS from by rw [hV]; exact Z2.out.alloc _)
    have HV := Lib.hid (show Below w.heap.size w V from by rw [hV]; exact H2.out.alloc H2.out.size _)
    have OV := Lib.hid (show OwnS V (w.heap.size + 2) t from by rw [hV]; exact O2.out.below (Nat.le_refl _) ((Below.refl v2.heap.size v2).alloc (Nat.le_refl _) _))
    have zV : w.heap.size + 1 < V.heap.size := ZV.out.lt
    have zV2 : v2.heap.size < V.heap.size := BT.out.lt
    rw [← hV]
    clear hV B2 Z2 H2 O2 rz2 HO
    have rowT : rowOf V v2.heap.size = scrA t := BT.out.of
    have rzV : RowZ V (w.heap.size + 1) 31 := RowZ.of ZV.out.row 31 rfl
    go_wp2_with fail
    refine (HSH.out _).mono ?_
    rintro e v ⟨rfl, rfl⟩
    cases q
    · have HU := Lib.hid (show runeD s.data z = s.data by unfold runeD; rw [if_neg (by rw [← HQ.out]; decide)])
      go_wp2_with fail
      refine bodyPost_ret (v := .agg (scrA t)) (res55 Try.results31 _ _ (w.heap.size + 1) _ (by simp) (ZV.out.row.setRow) rfl) rfl ⟨t, rfl, ?_, ?_, ?_⟩
      · exact ((OV.out.row_ _ _ (by omega)).more (by omega))
      · rw [HF.out, D2.out, HU.out]
      · exact below_setRow HV.out (by omega) _
    · have HU := Lib.hid (show runeD s.data z = advD (setD (wrD s.data) z) by unfold runeD; rw [if_pos HQ.out.symm])
      clear rzV
      have k11 : V.cell? ⟨v2.heap.size, 11, none⟩ = some (.bool t.wrap) := BT.out.cell 11
      go_upto_if 17 with fail
      go_cut [] (fun wx => ∃ t4, RowS wx v2.heap.size t4 ∧ OwnS wx (w.heap.size + 2) t4 ∧ t4.data = wrD s.data ∧ RowS wx (w.heap.size + 1) zeroS ∧ Below w.heap.size w wx)
      case first =>
        have f11 := BT.out.free 11
        cases hwr : t.wrap
        · clear k11
          have HD4 := Lib.hid (show t.data = wrD s.data by unfold wrD; rw [if_neg (by rw [← D2.out]; show ¬ t.wrap = true; rw [hwr]; decide), D2.out])
          clear hwr rowT
          go_wp2_with fail
          go_meet
          case rel => exact ⟨t, BT.out, OV.out, HD4.out, ZV.out, HV.out⟩
        · clear k11
          have HDN := Lib.hid (l09Down_any keepC t (w.heap.size + 2) V (by omega) OV.out (by rw [D2.out]; exact HKY.out))
          have HWD := Lib.hid (show wrD s.data = { downD s.data with x := 0 } by unfold wrD; rw [if_pos (by rw [← D2.out]; exact hwr)])
          clear hwr
          go_wp2_with fail
          refine HDN.out.mono ?_
          rintro e v3 ⟨t3, rfl, hO, hd, hon⟩
          have Z3 := Lib.hid (ZV.out.only hon (fun e => ZV.out.apart OV.out (.inr (.inr e))))
          have T3 := Lib.hid (BT.out.only hon (fun e => BT.out.apart OV.out (.inr (.inr e))))
          have O3 := Lib.hid hO
          have D3 := Lib.hid hd
          have H3 := Lib.hid (Only.below_ hon HV.out HV.out.size (fun i hi => by have := (OV.out.r.blk i hi).1; omega))
          clear hO hd hon HDN rowT f11
          have rzT3 : RowZ v3 v2.heap.size 31 := RowZ.of T3.out.row 31 rfl
          have R4 := Lib.hid (show RowS (v3.setRow v2.heap.size (scrA t3)) v2.heap.size t3 from T3.out.store)
          have c9 : (v3.setRow v2.heap.size (scrA t3)).cell? ⟨v2.heap.size, 9, none⟩ = some (.int .i64 t3.x) := R4.out.cell 9
          have f9 : (v3.setRow v2.heap.size (scrA t3)).frozen? ⟨v2.heap.size, 9, none⟩ = false := R4.out.free 9
          go_wp2_with fail
          go_meet
          case rel =>
            refine ⟨{ t3 with x := 0 }, R4.out.s_x (z := 0), ?_, ?_, ?_, ?_⟩
            · have h1 := O3.out.keepRow v2.heap.size (scrA t3) (.inr (T3.out.apart O3.out))
              have h2 := h1.only (S := fun i => i = v2.heap.size) (Only.cell_ _ v2.heap.size 9 (.int .i64 0) rfl) (fun i hi e => R4.out.apart h1 (e ▸ hi))
              exact ⟨h2.c, h2.t, h2.r⟩
            · rw [HWD.out, ← D2.out, ← D3.out]; rfl
            · exact (Z3.out.row_other (by omega)).other (by omega)
            · exact (below_setRow H3.out (by omega) _).setCell (by simp; omega) _
      case rest =>
        obtain ⟨t4, hT4, hO4, hd4, hZ4, hH4⟩ := hcut
        have T4 := Lib.hid hT4
        have O4 := Lib.hid hO4
        have D4 := Lib.hid hd4
        have Z4 := Lib.hid hZ4
        have H4 := Lib.hid hH4
        have HOK4 := Lib.hid (show okD t4.data = true by rw [hd4]; exact ok_wr HKY.out)
        clear hT4 hO4 hd4 hZ4 hH4 BT ZV HV OV rowT D2 k11
        have zc2 : v2.heap.size < wc.heap.size := T4.out.lt
        have zc1 : w.heap.size + 1 < wc.heap.size := Z4.out.lt
        have SOK := Lib.hid (fun w' (h : RowS w' v2.heap.size t4) => show rowOf w' v2.heap.size = scrA t4 ∧ w'.cell? ⟨v2.heap.size, 9, none⟩ = some (.int .i64 t4.x) ∧ w'.cell? ⟨v2.heap.size, 10, none⟩ = some (.int .i64 t4.y) ∧ w'.cell? ⟨v2.heap.size, 12, none⟩ = some (.int .i64 t4.fg) ∧ w'.cell? ⟨v2.heap.size, 13, none⟩ = some (.int .i64 t4.bg) ∧ w'.cell? ⟨v2.heap.size, 14, none⟩ = some (.bool t4.b) ∧ w'.cell? ⟨v2.heap.size, 15, none⟩ = some (.bool t4.u) ∧ w'.cell? ⟨v2.heap.size, 16, none⟩ = some (.bool t4.t) from ⟨h.of, h.cell 9, h.cell 10, h.cell 12, h.cell 13, h.cell 14, h.cell 15, h.cell 16⟩)
        obtain ⟨R, hR⟩ : ∃ R, R = fillD t4.data t4.x t4.y 1 1 (cellD t4.data z) := ⟨_, rfl⟩
        have HGF := Lib.hid (fun W (h : OwnS W (w.heap.size + 2) t4) => show Calls Try.prog 87 #[.agg #[.int .i64 (shW t4), .int .i64 (shH t4), .slice (shC t4).A (shC t4).cs.length (shC t4).c], .int .i64 t4.x, .int .i64 t4.y, .int .i64 1, .int .i64 1, .agg #[.int .i64 z, .int .i64 t4.fg, .int .i64 t4.bg, .bool t4.b, .bool t4.u, .bool t4.t]] W (fun e w' => ∃ A c, e = .returned (.agg #[.int .i64 (shW t4), .int .i64 (shH t4), .slice A R.length c]) ∧ OwnC w' W.heap.size A R.length c R ∧ Below W.heap.size W w') from by
          have hc : OwnC W (w.heap.size + 2) (shC t4).A (shC t4).cs.length (shC t4).c (shC t4).cs := by
            unfold shC
            cases t4.onAlt
            · exact h.m
            · exact h.a
          have hsz : (shC t4).cs.length ≤ 1048576 := by
            rw [sh_data]
            have h1 := ok_size HOK4.out
            unfold szD at h1; unfold shD; cases t4.data.onAlt <;> simp <;> omega
          have h2 := spec_GridFill_own (shW t4) (shH t4) t4.x t4.y 1 1 z t4.fg t4.bg t4.b t4.u t4.t hc hsz
          have h3 := fill_ok HOK4.out HQ.out.symm
          have h4 : (cellD t4.data z) = ⟨z, t4.fg, t4.bg, t4.b, t4.u, t4.t⟩ := rfl
          rw [h4] at h3
          rw [h3] at h2
          rw [hR]; exact h2)
        have HSD := Lib.hid (show putD t4.data R = setD (wrD s.data) z by rw [hR, D4.out]; unfold setD; rw [← D4.out]; rfl)
        clear hR
        go_upto_region 9 with fail
        refine wp_region_noPanic ?_
        refine HeldF.wp_region_F (lst := 13) (S := fun w' => rowOf w' v2.heap.size = scrA t4 ∧ w'.cell? ⟨v2.heap.size, 9, none⟩ = some (.int .i64 t4.x) ∧ w'.cell? ⟨v2.heap.size, 10, none⟩ = some (.int .i64 t4.y) ∧ w'.cell? ⟨v2.heap.size, 12, none⟩ = some (.int .i64 t4.fg) ∧ w'.cell? ⟨v2.heap.size, 13, none⟩ = some (.int .i64 t4.bg) ∧ w'.cell? ⟨v2.heap.size, 14, none⟩ = some (.bool t4.b) ∧ w'.cell? ⟨v2.heap.size, 15, none⟩ = some (.bool t4.u) ∧ w'.cell? ⟨v2.heap.size, 16, none⟩ = some (.bool t4.t)) (by kernel_rfl) (SOK.out _ T4.out.drew) (fun hHeld => ?_)
        refine HeldF.wpAnyF_take (i := 0) (oi := { dst := some 21, op := Op.load 52 (Operand.tmp 5), type := 52, pos := "l09_screen.go:158", after := #[], guard := none }) (v := ?v0) rfl (by kernel_rfl) (by kernel_rfl) (by kernel_rfl) (fun _ _ _ h => h) (by kernel_rfl) (Or.inl ⟨by rfl, ?hy0⟩) (by assumption) ?rest0
        case hy0 => (intro w hSw; obtain ⟨hs0, hs1, hs2, hs3, hs4, hs5, hs6, hs7⟩ := hSw; go_simp; (try with_reducible rfl))
        (try simp only [Act.put, List.setIfInBounds_toArray, List.set_cons_zero, List.set_cons_succ])
        refine HeldF.wpAnyF_take (i := 1) (oi := { dst := some 22, op := Op.load 52 (Operand.tmp 5), type := 52, pos := "l09_screen.go:158", after := #[], guard := none }) (v := ?v1) rfl (by kernel_rfl) (by kernel_rfl) (by kernel_rfl) (fun _ _ _ h => h) (by kernel_rfl) (Or.inl ⟨by rfl, ?hy1⟩) (by assumption) ?rest1
        case hy1 => (intro w hSw; obtain ⟨hs0, hs1, hs2, hs3, hs4, hs5, hs6, hs7⟩ := hSw; go_simp; (try with_reducible rfl))
        (try simp only [Act.put, List.setIfInBounds_toArray, List.set_cons_zero, List.set_cons_succ])
        refine HeldF.wpAnyF_take (i := 3) (oi := { dst := some 24, op := Op.fieldAddr 52 (Operand.tmp 5) 5, type := 0, pos := "l09_screen.go:158", after := #[], guard := none }) (v := ?v3) rfl (by kernel_rfl) (by kernel_rfl) (by kernel_rfl) (fun _ _ _ h => h) (by kernel_rfl) (Or.inl ⟨by rfl, ?hy3⟩) (by assumption) ?rest3
        case hy3 => (intro w hSw; obtain ⟨hs0, hs1, hs2, hs3, hs4, hs5, hs6, hs7⟩ := hSw; go_simp; (try with_reducible rfl))
        (try simp only [Act.put, List.setIfInBounds_toArray, List.set_cons_zero, List.set_cons_succ])
        refine HeldF.wpAnyF_take (i := 4) (oi := { dst := some 25, op := Op.load 3 (Operand.tmp 24), type := 3, pos := "l09_screen.go:158", after := #[{ on := 3, ground := Ground.data }], guard := none }) (v := ?v4) rfl (by kernel_rfl) (by kernel_rfl) (by kernel_rfl) (fun _ _ _ h => h) (by kernel_rfl) (Or.inl ⟨by rfl, ?hy4⟩) (by assumption) ?rest4
        case hy4 => (intro w hSw; obtain ⟨hs0, hs1, hs2, hs3, hs4, hs5, hs6, hs7⟩ := hSw; go_simp; (try with_reducible rfl))
        (try simp only [Act.put, List.setIfInBounds_toArray, List.set_cons_zero, List.set_cons_succ])
        refine HeldF.wpAnyF_take (i := 5) (oi := { dst := some 26, op := Op.fieldAddr 52 (Operand.tmp 5) 6, type := 0, pos := "l09_screen.go:158", after := #[], guard := none }) (v := ?v5) rfl (by kernel_rfl) (by kernel_rfl) (by kernel_rfl) (fun _ _ _ h => h) (by kernel_rfl) (Or.inl ⟨by rfl, ?hy5⟩) (by assumption) ?rest5
        case hy5 => (intro w hSw; obtain ⟨hs0, hs1, hs2, hs3, hs4, hs5, hs6, hs7⟩ := hSw; go_simp; (try with_reducible rfl))
        (try simp only [Act.put, List.setIfInBounds_toArray, List.set_cons_zero, List.set_cons_succ])
        refine HeldF.wpAnyF_take (i := 6) (oi := { dst := some 27, op := Op.load 3 (Operand.tmp 26), type := 3, pos := "l09_screen.go:158", after := #[{ on := 5, ground := Ground.data }], guard := none }) (v := ?v6) rfl (by kernel_rfl) (by kernel_rfl) (by kernel_rfl) (fun _ _ _ h => h) (by kernel_rfl) (Or.inl ⟨by rfl, ?hy6⟩) (by assumption) ?rest6
        case hy6 => (intro w hSw; obtain ⟨hs0, hs1, hs2, hs3, hs4, hs5, hs6, hs7⟩ := hSw; go_simp; (try with_reducible rfl))
        (try simp only [Act.put, List.setIfInBounds_toArray, List.set_cons_zero, List.set_cons_succ])
        refine HeldF.wpAnyF_take (i := 7) (oi := { dst := some 28, op := Op.move (Operand.tmp 1), type := 3, pos := "l09_screen.go:158", after := #[], guard := none }) (v := ?v7) rfl (by kernel_rfl) (by kernel_rfl) (by kernel_rfl) (fun _ _ _ h => h) (by kernel_rfl) (Or.inl ⟨by rfl, ?hy7⟩) (by assumption) ?rest7
        case hy7 => (intro w hSw; obtain ⟨hs0, hs1, hs2, hs3, hs4, hs5, hs6, hs7⟩ := hSw; go_simp; (try with_reducible rfl))
        (try simp only [Act.put, List.setIfInBounds_toArray, List.set_cons_zero, List.set_cons_succ])
        refine HeldF.wpAnyF_take (i := 8) (oi := { dst := some 29, op := Op.fieldAddr 52 (Operand.tmp 5) 8, type := 0, pos := "l09_screen.go:158", after := #[], guard := none }) (v := ?v8) rfl (by kernel_rfl) (by kernel_rfl) (by kernel_rfl) (fun _ _ _ h => h) (by kernel_rfl) (Or.inl ⟨by rfl, ?hy8⟩) (by assumption) ?rest8
        case hy8 => (intro w hSw; obtain ⟨hs0, hs1, hs2, hs3, hs4, hs5, hs6, hs7⟩ := hSw; go_simp; (try with_reducible rfl))
        (try simp only [Act.put, List.setIfInBounds_toArray, List.set_cons_zero, List.set_cons_succ])
        refine HeldF.wpAnyF_take (i := 9) (oi := { dst := some 30, op := Op.load 49 (Operand.tmp 29), type := 49, pos := "l09_screen.go:158", after := #[{ on := 8, ground := Ground.data }], guard := none }) (v := ?v9) rfl (by kernel_rfl) (by kernel_rfl) (by kernel_rfl) (fun _ _ _ h => h) (by kernel_rfl) (Or.inl ⟨by rfl, ?hy9⟩) (by assumption) ?rest9
        case hy9 => (intro w hSw; obtain ⟨hs0, hs1, hs2, hs3, hs4, hs5, hs6, hs7⟩ := hSw; go_simp; (try with_reducible rfl))
        (try simp only [Act.put, List.setIfInBounds_toArray, List.set_cons_zero, List.set_cons_succ])
        refine HeldF.wpAnyF_take (i := 10) (oi := { dst := some 31, op := Op.build 69 #[(0, Operand.tmp 28), (1, Operand.tmp 30)], type := 69, pos := "l09_screen.go:158", after := #[{ on := 7, ground := Ground.data }, { on := 9, ground := Ground.data }], guard := none }) (v := ?v10) rfl (by kernel_rfl) (by kernel_rfl) (by kernel_rfl) (fun _ _ _ h => h) (by kernel_rfl) (Or.inl ⟨by rfl, ?hy10⟩) (by assumption) ?rest10
        case hy10 => (intro w hSw; obtain ⟨hs0, hs1, hs2, hs3, hs4, hs5, hs6, hs7⟩ := hSw; go_simp; (try with_reducible rfl))
        (try simp only [Act.put, List.setIfInBounds_toArray, List.set_cons_zero, List.set_cons_succ])
        refine HeldF.wpAnyF_one (k := 2) (o := { dst := some 23, op := Op.call { callee := Callee.value (Operand.func 88), args := #[Operand.tmp 22], argTypes := #[52] }, type := 48, pos := "l09_screen.go:158", after := #[{ on := 1, ground := Ground.data }], guard := none }) (by kernel_rfl) rfl (fun K hK => ?_)
        go_simp
        go_at_call 88
        refine (l09Shown_any t4 _).mono ?_
        rintro e y1 ⟨rfl, hb1'⟩
        have hb1 : Below wc.heap.size wc y1 := undrew hb1'
        have T5 := Lib.hid (T4.out.below hb1 T4.out.lt)
        have O5 := Lib.hid (O4.out.below (Nat.le_refl _) hb1)
        have Z5 := Lib.hid (Z4.out.below hb1 Z4.out.lt)
        have H5 := Lib.hid (H4.out.trans (hb1.mono H4.out.size))
        clear hb1 hb1'
        go_simp
        refine hK.out _ _ (fun _ => SOK.out _ T5.out) (fun hH => ?_)
        clear hK K
        clear hHeld
        have hHeld := hH (by decide)
        clear hH
        (try simp only [Act.put, List.setIfInBounds_toArray, List.set_cons_zero, List.set_cons_succ])
        refine HeldF.wpAnyF_one (k := 11) (o := { dst := some 32, op := Op.call { callee := Callee.value (Operand.func 87), args := #[Operand.tmp 23, Operand.tmp 25, Operand.tmp 27, Operand.const (Value.int IntKind.i64 1), Operand.const (Value.int IntKind.i64 1), Operand.tmp 31], argTypes := #[48, 3, 3, 3, 3, 69] }, type := 48, pos := "l09_screen.go:158", after := #[{ on := 2, ground := Ground.data }, { on := 4, ground := Ground.data }, { on := 6, ground := Ground.data }, { on := 10, ground := Ground.data }, { on := 2, ground := Ground.chain }], guard := none }) (by kernel_rfl) rfl (fun K hK => ?_)
        go_simp
        go_at_call 87
        refine (HGF.out _ O5.out).mono ?_
        rintro e y2 ⟨A9, c9, rfl, ho9, hb2⟩
        have T6 := Lib.hid (T5.out.below hb2 T5.out.lt)
        have Z6 := Lib.hid (Z5.out.below hb2 Z5.out.lt)
        have H6 := Lib.hid (H5.out.trans (hb2.mono H5.out.size))
        have O6 := Lib.hid (own_put (gw := shW t4) (gh := shH t4) O5.out hb2 ho9 (by have := H5.out.size; have := Z5.out.lt; omega))
        clear hb2 ho9
        go_simp
        refine hK.out _ _ (fun _ => SOK.out _ T6.out) (fun hH => ?_)
        clear hK K
        clear hHeld
        have hHeld := hH (by decide)
        clear hH
        (try simp only [Act.put, List.setIfInBounds_toArray, List.set_cons_zero, List.set_cons_succ])
        refine HeldF.wpAnyF_one (k := 12) (o := { dst := some 33, op := Op.call { callee := Callee.value (Operand.func 86), args := #[Operand.tmp 21, Operand.tmp 32], argTypes := #[52, 48] }, type := 52, pos := "l09_screen.go:158", after := #[{ on := 0, ground := Ground.data }, { on := 11, ground := Ground.data }, { on := 11, ground := Ground.chain }], guard := none }) (by kernel_rfl) rfl (fun K hK => ?_)
        go_simp
        go_at_call 86
        refine (l09Put_any t4 (shW t4) (shH t4) A9 c9 R _).mono ?_
        rintro e y3 ⟨rfl, hb3⟩
        have T7 := Lib.hid (T6.out.below hb3 T6.out.lt)
        have Z7 := Lib.hid (Z6.out.below hb3 Z6.out.lt)
        have H7 := Lib.hid (H6.out.trans (hb3.mono H6.out.size))
        have O7 := Lib.hid (O6.out.below (Nat.le_refl _) hb3)
        have row7 : RowZ y3 v2.heap.size 31 := RowZ.of T7.out.row 31 rfl
        clear hb3
        go_simp
        refine hK.out _ _ (fun _ => SOK.out _ T7.out) (fun hH => ?_)
        clear hK K
        clear hHeld
        have hHeld := hH (by decide)
        clear hH
        (try simp only [Act.put, List.setIfInBounds_toArray, List.set_cons_zero, List.set_cons_succ])
        refine HeldF.wpAnyF_one (k := 13) (o := { dst := none, op := Op.store 52 (Operand.tmp 5) (Operand.tmp 33), type := 0, pos := "l09_screen.go:158", after := #[{ on := 12, ground := Ground.data }, { on := 12, ground := Ground.chain }, { on := 0, ground := Ground.phase }, { on := 1, ground := Ground.phase }, { on := 2, ground := Ground.phase }, { on := 3, ground := Ground.phase }, { on := 4, ground := Ground.phase }, { on := 5, ground := Ground.phase }, { on := 6, ground := Ground.phase }, { on := 7, ground := Ground.phase }, { on := 8, ground := Ground.phase }, { on := 9, ground := Ground.phase }, { on := 10, ground := Ground.phase }, { on := 11, ground := Ground.phase }, { on := 12, ground := Ground.phase }], guard := none }) (by kernel_rfl) rfl (fun K hK => ?_)
        go_simp
        refine hK.out _ _ (fun h => absurd rfl h) (fun hH => ?_)
        clear hK K
        clear hHeld hH
        (try simp only [Act.put, List.setIfInBounds_toArray, List.set_cons_zero, List.set_cons_succ])
        refine HeldF.wpAnyF_done (by kernel_rfl) ?_ _
        refine NoPanic.normal ?_
        rename_i _ K0 hK0
        refine hK0 _ _ ?_
        clear hK0 K0 row7
        obtain ⟨t5, ht5⟩ : ∃ t5, t5 = putS t4 (shW t4) (shH t4) ⟨A9, c9, R⟩ := ⟨_, rfl⟩
        obtain ⟨y4, hy4⟩ : ∃ x, x = y3.setRow v2.heap.size (scrA (putS t4 (shW t4) (shH t4) ⟨A9, c9, R⟩)) := ⟨_, rfl⟩
        have D8 := Lib.hid (show t5.data = setD (wrD s.data) z by rw [ht5, ← HSD.out]; exact put_data)
        have T8 := Lib.hid (show RowS y4 v2.heap.size t5 from by rw [hy4, ht5]; exact T7.out.store)
        have O8 := Lib.hid (show OwnS y4 (w.heap.size + 2) t5 from by rw [hy4, ht5]; exact O7.out.keepRow v2.heap.size _ (.inr (T7.out.apart O7.out)))
        have Z8 := Lib.hid (show RowS y4 (w.heap.size + 1) zeroS from by rw [hy4]; exact Z7.out.row_other (by omega))
        have H8 := Lib.hid (show Below w.heap.size w y4 from by rw [hy4]; exact below_setRow H7.out (by omega) _)
        have HOK8 := Lib.hid (show okD t5.data = true by rw [D8.out]; exact ok_set (ok_wr HKY.out) HQ.out.symm)
        rw [← hy4]
        clear hy4 ht5 T4 T5 T6 T7 O4 O5 O6 O7 Z4 Z5 Z6 Z7 H4 H5 H6 H7 HGF HSD SOK
        obtain ⟨Wd, Hd, X, Y, Tp, Bt, L, fit⟩ := ok_fit HOK8.out
        have ex : t5.x = (X : Int) := fit.x
        have ew : t5.w = (Wd : Int) := fit.w
        have g1 := fit.x2; have g2 := fit.w2; have g3 := fit.w1
        have k9 : y4.cell? ⟨v2.heap.size, 9, none⟩ = some (.int .i64 (X : Int)) := by rw [← ex]; exact T8.out.cell 9
        have k0 : y4.cell? ⟨v2.heap.size, 0, none⟩ = some (.int .i64 (Wd : Int)) := by rw [← ew]; exact T8.out.cell 0
        have k19 : y4.cell? ⟨v2.heap.size, 19, none⟩ = some (.bool t5.noWrap) := T8.out.cell 19
        have k11 : y4.cell? ⟨v2.heap.size, 11, none⟩ = some (.bool t5.wrap) := T8.out.cell 11
        have f9 := T8.out.free 9
        have f11 := T8.out.free 11
        have EX := Lib.hid ex
        have EW := Lib.hid ew
        have z41 : v2.heap.size < y4.heap.size := T8.out.lt
        have z42 : w.heap.size + 1 < y4.heap.size := Z8.out.lt
        clear fit ex ew
        by_cases hx : X + 1 = Wd
        · have HA := Lib.hid (show advD t5.data = ({ t5 with wrap := !t5.noWrap } : ScrS).data by
            unfold advD; rw [if_pos (by show t5.x = t5.w - 1; rw [EX.out, EW.out]; omega)]; rfl)
          have hxe : ((X : Int) == (Wd : Int) - 1) = true := by simp; omega
          have R9 := Lib.hid (show RowS (y4.setCell ⟨v2.heap.size, 11, none⟩ (.bool (!t5.noWrap))) v2.heap.size { t5 with wrap := !t5.noWrap } from T8.out.s_wrap (z := !t5.noWrap))
          have row9 : rowOf (y4.setCell ⟨v2.heap.size, 11, none⟩ (.bool (!t5.noWrap))) v2.heap.size = scrA { t5 with wrap := !t5.noWrap } := R9.out.of
          have Z9 := Lib.hid (show RowS (y4.setCell ⟨v2.heap.size, 11, none⟩ (.bool (!t5.noWrap))) (w.heap.size + 1) zeroS from Z8.out.other (by omega))
          have rz9 : RowZ (y4.setCell ⟨v2.heap.size, 11, none⟩ (.bool (!t5.noWrap))) (w.heap.size + 1) 31 := RowZ.of Z9.out.row 31 rfl
          have O9 := Lib.hid (show OwnS (y4.setCell ⟨v2.heap.size, 11, none⟩ (.bool (!t5.noWrap))) (w.heap.size + 2) { t5 with wrap := !t5.noWrap } from by
            have h := O8.out.only (S := fun i => i = v2.heap.size) (Only.cell_ y4 v2.heap.size 11 (.bool (!t5.noWrap)) rfl) (fun i hi e => T8.out.apart O8.out (e ▸ hi))
            exact ⟨h.c, h.t, h.r⟩)
          clear hx
          go_wp2_with fail
          refine bodyPost_ret (v := .agg (scrA { t5 with wrap := !t5.noWrap })) (res55 Try.results31 _ _ (w.heap.size + 1) _ (by simp) (Z9.out.row.setRow) rfl) rfl ⟨_, rfl, ?_, ?_, ?_⟩
          · exact ((O9.out.row_ _ _ (by omega)).more (by omega))
          · rw [HF.out, HU.out, ← D8.out, HA.out]
          · exact below_setRow (H8.out.setCell (by simp; omega) _) (by omega) _
        · have HA := Lib.hid (show advD t5.data = ({ t5 with x := (X : Int) + 1 } : ScrS).data by
            unfold advD; rw [if_neg (by show ¬ t5.x = t5.w - 1; rw [EX.out, EW.out]; omega)]
            show _ = ({ t5.data with x := (X : Int) + 1 } : ScrD); rw [← EX.out]; rfl)
          have hxe : ((X : Int) == (Wd : Int) - 1) = false := by simp; omega
          have R9 := Lib.hid (show RowS (y4.setCell ⟨v2.heap.size, 9, none⟩ (.int .i64 ((X : Int) + 1))) v2.heap.size { t5 with x := (X : Int) + 1 } from T8.out.s_x (z := (X : Int) + 1))
          have row9 : rowOf (y4.setCell ⟨v2.heap.size, 9, none⟩ (.int .i64 ((X : Int) + 1))) v2.heap.size = scrA { t5 with x := (X : Int) + 1 } := R9.out.of
          have Z9 := Lib.hid (show RowS (y4.setCell ⟨v2.heap.size, 9, none⟩ (.int .i64 ((X : Int) + 1))) (w.heap.size + 1) zeroS from Z8.out.other (by omega))
          have rz9 : RowZ (y4.setCell ⟨v2.heap.size, 9, none⟩ (.int .i64 ((X : Int) + 1))) (w.heap.size + 1) 31 := RowZ.of Z9.out.row 31 rfl
          have O9 := Lib.hid (show OwnS (y4.setCell ⟨v2.heap.size, 9, none⟩ (.int .i64 ((X : Int) + 1))) (w.heap.size + 2) { t5 with x := (X : Int) + 1 } from by
            have h := O8.out.only (S := fun i => i = v2.heap.size) (Only.cell_ y4 v2.heap.size 9 (.int .i64 ((X : Int) + 1)) rfl) (fun i hi e => T8.out.apart O8.out (e ▸ hi))
            exact ⟨h.c, h.t, h.r⟩)
          clear hx
          go_wp2_with fail
          refine bodyPost_ret (v := .agg (scrA { t5 with x := (X : Int) + 1 })) (res55 Try.results31 _ _ (w.heap.size + 1) _ (by simp) (Z9.out.row.setRow) rfl) rfl ⟨_, rfl, ?_, ?_, ?_⟩
          · exact ((O9.out.row_ _ _ (by omega)).more (by omega))
          · rw [HF.out, HU.out, ← D8.out, HA.out]
          · exact below_setRow (H8.out.setCell (by simp; omega) _) (by omega) _
end Go.Proofs.Ytbifbeahakchjaa.Sc
