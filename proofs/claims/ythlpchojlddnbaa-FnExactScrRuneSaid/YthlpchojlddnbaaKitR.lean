/- Texts that lay in modules of their own: ScRuneS, ScChgRune, KiU, ScImRune. -/
import Derived.Test.YthlpchojlddnbaaScCopy
import Derived.Test.YthlpchojlddnbaaKiO
import Derived.Test.YthlpchojlddnbaaKiD
import Derived.Test.YthlpchojlddnbaaGrSlide
import Derived.Test.YthlpchojlddnbaaKiM
import Derived.Test.YthlpchojlddnbaaScGoS
import Derived.Test.YthlpchojlddnbaaKiT
import Derived.Test.YthlpchojlddnbaaKiX
import Derived.Deep.RegionHeld3
import Derived.Deep.Cut
import Derived.Deep.CutRange
import Derived.Deep.DeepCutAuto
import Derived.IntWalk
import Derived.Test.YthlpchojlddnbaaGrB
import Derived.Test.YthlpchojlddnbaaKiRO
import Derived.Test.YthlpchojlddnbaaKiC
import Derived.Test.YthlpchojlddnbaaKiK
import Derived.Laws.EntriesVeiled
import Derived.Deep.RegionWith
import Derived.Deep.DrawnRows
import Derived.Test.YthlpchojlddnbaaKiS
import Derived.Test.YthlpchojlddnbaaShows
namespace Go.Proofs.Ythlpchojlddnbaa.Sc
open Go.RowKit Go.Proofs.Ythlpchojlddnbaa.Bytes Go.Proofs.Ythlpchojlddnbaa.Rows_ Go.Proofs.Ythlpchojlddnbaa.RowK Go.Proofs.Ythlpchojlddnbaa.Gr Go.Proofs.Ythlpchojlddnbaa.DOk Go.Proofs.Ythlpchojlddnbaa.Opq Go.Proofs.Ythlpchojlddnbaa.Attr
set_option linter.unusedVariables false
attribute [local go_sem ↓] Sc.exec_storeS Sc.exec_loadS
attribute [local go_sem] rowOf_drew blkOf_ptr isHead_ptr aggN_agg setRow_alloc rowZ_at rowZ_past scrA_size one_scr rowOf_alloc_at rowOf_alloc_past
attribute [local go_sem] sa_w sa_h sa_mw sa_mh sa_M sa_aw sa_ah sa_A sa_onAlt sa_x sa_y sa_wrap sa_fg sa_bg sa_b sa_u sa_t sa_top sa_bot sa_noWrap sa_hide sa_sx sa_sy sa_sfg sa_sbg sa_sb sa_su sa_st sa_tabs sa_lim sa_rows
attribute [local go_sem] scr_at0 scr_at1 scr_at2 scr_at3 scr_at4 scr_at5 scr_at6 scr_at7 scr_at8 scr_at9 scr_at10 scr_at11 scr_at12 scr_at13 scr_at14 scr_at15 scr_at16 scr_at17 scr_at18 scr_at19 scr_at20 scr_at21 scr_at22 scr_at23 scr_at24 scr_at25 scr_at26 scr_at27 scr_at28 scr_at29 scr_at30
theorem fill_ok {s : ScrS} (h : okD s.data = true) {r : Int} (hr : Rune.showB r = true) : fillT (shW s) (shH s) (shC s).cs s.x s.y 1 1 (cellD s.data r) = (shW s, shH s, fillD s.data s.x s.y 1 1 (cellD s.data r)) := by
  obtain ⟨e1, e2, g⟩ := sh_ok h
  obtain ⟨W, H, X, Y, T, Bt, L, f⟩ := ok_fit h
  have ex : s.x = (X : Int) := f.x
  have ey : s.y = (Y : Int) := f.y
  have := f.x2; have := f.y2; have := f.w2; have := f.h2
  have ha : okA s.data.fg s.data.bg = true := (okD_iff.1 h).2.1.2.2.2.2.2.2.2.2.2.1
  have hg : goodF (shW s) (shH s) (shC s).cs s.x s.y 1 1 (cellD s.data r) = true := by
    unfold goodF
    rw [g, show okC (cellD s.data r) = true by unfold okC cellD; rw [hr, ha]; rfl, show smallB s.x = true from decide_eq_true (by omega), show smallB s.y = true from decide_eq_true (by omega), show smallB 1 = true from by decide]; rfl
  unfold fillT
  rw [hg, if_pos rfl, e1, e2, sh_data]; rfl
set_option maxRecDepth 100000 in
set_option maxHeartbeats 3200000 in
theorem spec_ScrRune_any (s : ScrS) (w : World) (b : Nat) (z : Int) (ho : OwnS w b s) (hn : szS s ≤ 1048576) :
    Calls Try.prog 29 #[.agg (scrA s), .int .i64 z] w (AnsS (okF (fun d => runeD d z) s.data) w) := by
  have H0 := Lib.hid (((Below.refl w.heap.size w).alloc (Nat.le_refl _) (.cells (scrA s) 53)).alloc (by simp) (.cells (scrA zeroS) 53))
  have B0 := Lib.hid (show RowS ((w.alloc (.cells (scrA s) 53)).alloc (.cells (scrA zeroS) 53)) w.heap.size s from (RowS.new w s).alloc _)
  have Z0 := Lib.hid (show RowS ((w.alloc (.cells (scrA s) 53)).alloc (.cells (scrA zeroS) 53)) (w.heap.size + 1) zeroS from by have h := RowS.new (w.alloc (.cells (scrA s) 53)) zeroS; simpa using h)
  have hone0 : One #[.int .i64 0, .int .i64 0, .int .i64 0, .int .i64 0, .slice none 0 0, .int .i64 0, .int .i64 0, .slice none 0 0, .bool false, .int .i64 0, .int .i64 0, .bool false, .int .i64 0, .int .i64 0, .bool false, .bool false, .bool false, .int .i64 0, .int .i64 0, .bool false, .bool false, .int .i64 0, .int .i64 0, .int .i64 0, .int .i64 0, .bool false, .bool false, .bool false, .slice none 0 0, .int .i64 0, .slice none 0 0] := one_scr zeroS
  have HO := Lib.hid (fun W (h : Below w.heap.size w W) => ho.below (Nat.le_refl _) h)
  have HOK := Lib.hid (fun W (h : Below w.heap.size w W) => spec_ScrOk_any s W (ho.below (Nat.le_refl _) h).rd hn)
  have HCP := Lib.hid (fun W (h : Below w.heap.size w W) => l09Copy_own s W b (ho.below (Nat.le_refl _) h) hn)
  clear ho
  have HN := Lib.hid hn
  clear hn
  cases hok : okD s.data
  · have HF := Lib.hid (okF_no (f := (fun d => runeD d z)) hok)
    go_enter Try.func29, Try.ntmps29
    go_wp2_with fail
    refine (HOK.out _ H0.out).mono ?_
    rintro e v1 ⟨rfl, hb1⟩
    rw [hok]
    have Z1 := Lib.hid (Z0.out.below hb1 Z0.out.lt)
    have H1 := Lib.hid (H0.out.trans (hb1.mono (by simp; omega)))
    have rz1 : RowZ v1 (w.heap.size + 1) 31 := RowZ.of Z1.out.row 31 rfl
    clear hb1 B0 Z0 H0 HCP HO HOK HN
    go_wp2_with fail
    refine bodyPost_ret (v := .agg (scrA zeroS)) (res55 Try.results29 _ _ (w.heap.size + 1) _ (by simp) (Z1.out.row.setRow) rfl) rfl ⟨zeroS, rfl, ?_, ?_, ?_⟩
    · exact zeroS_own _ _
    · rw [HF.out]; rfl
    · exact below_setRow H1.out (by omega) _
  · have HF := Lib.hid (okF_yes (f := (fun d => runeD d z)) hok)
    have HKY := Lib.hid hok
    go_enter Try.func29, Try.ntmps29
    go_wp2_with fail
    refine (HOK.out _ H0.out).mono ?_
    rintro e v1 ⟨rfl, hb1⟩
    rw [hok]
    have B1 := Lib.hid (B0.out.below hb1 B0.out.lt)
    have Z1 := Lib.hid (Z0.out.below hb1 Z0.out.lt)
    have H1 := Lib.hid (H0.out.trans (hb1.mono (by simp; omega)))
    have row1 := B1.out.of
    clear hb1 B0 Z0 H0 HOK hok
    go_wp2_with fail
    refine (HCP.out _ H1.out).mono ?_
    rintro e v2 ⟨t, rfl, ho2, hd2, hb2⟩
    have B2 := Lib.hid (B1.out.below hb2 B1.out.lt)
    have Z2 := Lib.hid (Z1.out.below hb2 Z1.out.lt)
    have zz1 : w.heap.size + 1 < v1.heap.size := Z1.out.lt
    have H2 := Lib.hid (H1.out.trans (hb2.mono H1.out.size))
    have O2 := Lib.hid (ho2.more (base' := w.heap.size + 2) (by omega))
    have D2 := Lib.hid hd2
    have zz2 : w.heap.size + 1 < v2.heap.size := Z2.out.lt
    have zz2' : w.heap.size < v2.heap.size := by omega
    have rz2 : RowZ v2 (w.heap.size + 1) 31 := RowZ.of Z2.out.row 31 rfl
    clear hb2 ho2 hd2 B1 Z1 H1 HCP row1
    obtain ⟨q, hq⟩ : ∃ q, q = Rune.showB z := ⟨_, rfl⟩
    have HSH := Lib.hid (fun V => show Calls Try.prog 72 #[.int .i64 z] V (fun e w' => e = .returned (.bool q) ∧ V = w') from hq ▸ Rune.spec_Shows_any z V)
    have HQ := Lib.hid hq
    clear hq
    go_upto_region 4 with fail
    obtain ⟨V, hV⟩ : ∃ V, V = v2.alloc (.cells (scrA t) 53) := ⟨_, rfl⟩
    have BT := Lib.hid (show RowS V v2.heap.size t from by rw [hV]; exact RowS.new v2 t)
    have ZV := Lib.hid (show RowS V (w.heap.size + 1) zeroS from by rw [hV]; exact Z2.out.alloc _)
    have HV := Lib.hid (show Below w.heap.size w V from by rw [hV]; exact H2.out.alloc H2.out.size _)
    have OV := Lib.hid (show OwnS V (w.heap.size + 2) t from by rw [hV]; exact O2.out.below (Nat.le_refl _) ((Below.refl v2.heap.size v2).alloc (Nat.le_refl _) _))
    have zV : w.heap.size + 1 < V.heap.size := ZV.out.lt
    have zV2 : v2.heap.size < V.heap.size := BT.out.lt
    rw [← hV]
    clear hV B2 Z2 H2 O2 rz2 HO
    have rowT : rowOf V v2.heap.size = scrA t := BT.out.of
    have rzV : RowZ V (w.heap.size + 1) 31 := RowZ.of ZV.out.row 31 rfl
    go_wp2_with fail
    refine (HSH.out _).mono ?_
    rintro e v ⟨rfl, rfl⟩
    cases q
    · have HU := Lib.hid (show runeD s.data z = s.data by unfold runeD; rw [if_neg (by rw [← HQ.out]; decide)])
      go_wp2_with fail
      refine bodyPost_ret (v := .agg (scrA t)) (res55 Try.results29 _ _ (w.heap.size + 1) _ (by simp) (ZV.out.row.setRow) rfl) rfl ⟨t, rfl, ?_, ?_, ?_⟩
      · exact ((OV.out.row_ _ _ (by omega)).more (by omega))
      · rw [HF.out, D2.out, HU.out]
      · exact below_setRow HV.out (by omega) _
    · have HU := Lib.hid (show runeD s.data z = advD (setD (wrD s.data) z) by unfold runeD; rw [if_pos HQ.out.symm])
      clear rzV
      have k11 : V.cell? ⟨v2.heap.size, 11, none⟩ = some (.bool t.wrap) := BT.out.cell 11
      go_upto_if 17 with fail
      go_cut [] (fun wx => ∃ t4, RowS wx v2.heap.size t4 ∧ OwnS wx (w.heap.size + 2) t4 ∧ t4.data = wrD s.data ∧ RowS wx (w.heap.size + 1) zeroS ∧ Below w.heap.size w wx)
      case first =>
        have f11 := BT.out.free 11
        cases hwr : t.wrap
        · clear k11
          have HD4 := Lib.hid (show t.data = wrD s.data by unfold wrD; rw [if_neg (by rw [← D2.out]; show ¬ t.wrap = true; rw [hwr]; decide), D2.out])
          clear hwr rowT
          go_wp2_with fail
          go_meet
          case rel => exact ⟨t, BT.out, OV.out, HD4.out, ZV.out, HV.out⟩
        · clear k11
          have HDN := Lib.hid (l09Down_any keepC t (w.heap.size + 2) V (by omega) OV.out (by rw [D2.out]; exact HKY.out))
          have HWD := Lib.hid (show wrD s.data = { downD s.data with x := 0 } by unfold wrD; rw [if_pos (by rw [← D2.out]; exact hwr)])
          clear hwr
          go_wp2_with fail
          refine HDN.out.mono ?_
          rintro e v3 ⟨t3, rfl, hO, hd, hon⟩
          have Z3 := Lib.hid (ZV.out.only hon (fun e => ZV.out.apart OV.out (.inr (.inr e))))
          have T3 := Lib.hid (BT.out.only hon (fun e => BT.out.apart OV.out (.inr (.inr e))))
          have O3 := Lib.hid hO
          have D3 := Lib.hid hd
          have H3 := Lib.hid (Only.below_ hon HV.out HV.out.size (fun i hi => by have := (OV.out.r.blk i hi).1; omega))
          clear hO hd hon HDN rowT f11
          have rzT3 : RowZ v3 v2.heap.size 31 := RowZ.of T3.out.row 31 rfl
          have R4 := Lib.hid (show RowS (v3.setRow v2.heap.size (scrA t3)) v2.heap.size t3 from T3.out.store)
          have c9 : (v3.setRow v2.heap.size (scrA t3)).cell? ⟨v2.heap.size, 9, none⟩ = some (.int .i64 t3.x) := R4.out.cell 9
          have f9 : (v3.setRow v2.heap.size (scrA t3)).frozen? ⟨v2.heap.size, 9, none⟩ = false := R4.out.free 9
          go_wp2_with fail
          go_meet
          case rel =>
            refine ⟨{ t3 with x := 0 }, R4.out.s_x (z := 0), ?_, ?_, ?_, ?_⟩
            · have h1 := O3.out.keepRow v2.heap.size (scrA t3) (.inr (T3.out.apart O3.out))
              have h2 := h1.only (S := fun i => i = v2.heap.size) (Only.cell_ _ v2.heap.size 9 (.int .i64 0) rfl) (fun i hi e => R4.out.apart h1 (e ▸ hi))
              exact ⟨h2.c, h2.t, h2.r⟩
            · rw [HWD.out, ← D2.out, ← D3.out]; rfl
            · exact (Z3.out.row_other (by omega)).other (by omega)
            · exact (below_setRow H3.out (by omega) _).setCell (by simp; omega) _
      case rest =>
        obtain ⟨t4, hT4, hO4, hd4, hZ4, hH4⟩ := hcut
        have T4 := Lib.hid hT4
        have O4 := Lib.hid hO4
        have D4 := Lib.hid hd4
        have Z4 := Lib.hid hZ4
        have H4 := Lib.hid hH4
        have HOK4 := Lib.hid (show okD t4.data = true by rw [hd4]; exact ok_wr HKY.out)
        clear hT4 hO4 hd4 hZ4 hH4 BT ZV HV OV rowT D2 k11
        have zc2 : v2.heap.size < wc.heap.size := T4.out.lt
        have zc1 : w.heap.size + 1 < wc.heap.size := Z4.out.lt
        have SOK := Lib.hid (fun w' (h : RowS w' v2.heap.size t4) => show rowOf w' v2.heap.size = scrA t4 ∧ w'.cell? ⟨v2.heap.size, 9, none⟩ = some (.int .i64 t4.x) ∧ w'.cell? ⟨v2.heap.size, 10, none⟩ = some (.int .i64 t4.y) ∧ w'.cell? ⟨v2.heap.size, 12, none⟩ = some (.int .i64 t4.fg) ∧ w'.cell? ⟨v2.heap.size, 13, none⟩ = some (.int .i64 t4.bg) ∧ w'.cell? ⟨v2.heap.size, 14, none⟩ = some (.bool t4.b) ∧ w'.cell? ⟨v2.heap.size, 15, none⟩ = some (.bool t4.u) ∧ w'.cell? ⟨v2.heap.size, 16, none⟩ = some (.bool t4.t) from ⟨h.of, h.cell 9, h.cell 10, h.cell 12, h.cell 13, h.cell 14, h.cell 15, h.cell 16⟩)
        obtain ⟨R, hR⟩ : ∃ R, R = fillD t4.data t4.x t4.y 1 1 (cellD t4.data z) := ⟨_, rfl⟩
        have HGF := Lib.hid (fun W (h : OwnS W (w.heap.size + 2) t4) => show Calls Try.prog 11 #[.agg #[.int .i64 (shW t4), .int .i64 (shH t4), .slice (shC t4).A (shC t4).cs.length (shC t4).c], .int .i64 t4.x, .int .i64 t4.y, .int .i64 1, .int .i64 1, .agg #[.int .i64 z, .int .i64 t4.fg, .int .i64 t4.bg, .bool t4.b, .bool t4.u, .bool t4.t]] W (fun e w' => ∃ A c, e = .returned (.agg #[.int .i64 (shW t4), .int .i64 (shH t4), .slice A R.length c]) ∧ OwnC w' W.heap.size A R.length c R ∧ Below W.heap.size W w') from by
          have hc : OwnC W (w.heap.size + 2) (shC t4).A (shC t4).cs.length (shC t4).c (shC t4).cs := by
            unfold shC
            cases t4.onAlt
            · exact h.m
            · exact h.a
          have hsz : (shC t4).cs.length ≤ 1048576 := by
            rw [sh_data]
            have h1 := ok_size HOK4.out
            unfold szD at h1; unfold shD; cases t4.data.onAlt <;> simp <;> omega
          have h2 := spec_GridFill_own (shW t4) (shH t4) t4.x t4.y 1 1 z t4.fg t4.bg t4.b t4.u t4.t hc hsz
          have h3 := fill_ok HOK4.out HQ.out.symm
          have h4 : (cellD t4.data z) = ⟨z, t4.fg, t4.bg, t4.b, t4.u, t4.t⟩ := rfl
          rw [h4] at h3
          rw [h3] at h2
          rw [hR]; exact h2)
        have HSD := Lib.hid (show putD t4.data R = setD (wrD s.data) z by rw [hR, D4.out]; unfold setD; rw [← D4.out]; rfl)
        clear hR
        go_upto_region 9 with fail
        refine wp_region_noPanic ?_
        refine HeldF.wp_region_F (lst := 13) (S := fun w' => rowOf w' v2.heap.size = scrA t4 ∧ w'.cell? ⟨v2.heap.size, 9, none⟩ = some (.int .i64 t4.x) ∧ w'.cell? ⟨v2.heap.size, 10, none⟩ = some (.int .i64 t4.y) ∧ w'.cell? ⟨v2.heap.size, 12, none⟩ = some (.int .i64 t4.fg) ∧ w'.cell? ⟨v2.heap.size, 13, none⟩ = some (.int .i64 t4.bg) ∧ w'.cell? ⟨v2.heap.size, 14, none⟩ = some (.bool t4.b) ∧ w'.cell? ⟨v2.heap.size, 15, none⟩ = some (.bool t4.u) ∧ w'.cell? ⟨v2.heap.size, 16, none⟩ = some (.bool t4.t)) (by kernel_rfl) (SOK.out _ T4.out.drew) (fun hHeld => ?_)
        refine HeldF.wpAnyF_take (i := 0) (oi := { dst := some 21, op := Op.load 53 (Operand.tmp 5), type := 53, pos := "l09_screen.go:158", after := #[], guard := none }) (v := ?v0) rfl (by kernel_rfl) (by kernel_rfl) (by kernel_rfl) (fun _ _ _ h => h) (by kernel_rfl) (Or.inl ⟨by rfl, ?hy0⟩) (by assumption) ?rest0
        case hy0 => (intro w hSw; obtain ⟨hs0, hs1, hs2, hs3, hs4, hs5, hs6, hs7⟩ := hSw; go_simp; (try with_reducible rfl))
        (try simp only [Act.put, List.setIfInBounds_toArray, List.set_cons_zero, List.set_cons_succ])
        refine HeldF.wpAnyF_take (i := 1) (oi := { dst := some 22, op := Op.load 53 (Operand.tmp 5), type := 53, pos := "l09_screen.go:158", after := #[], guard := none }) (v := ?v1) rfl (by kernel_rfl) (by kernel_rfl) (by kernel_rfl) (fun _ _ _ h => h) (by kernel_rfl) (Or.inl ⟨by rfl, ?hy1⟩) (by assumption) ?rest1
        case hy1 => (intro w hSw; obtain ⟨hs0, hs1, hs2, hs3, hs4, hs5, hs6, hs7⟩ := hSw; go_simp; (try with_reducible rfl))
        (try simp only [Act.put, List.setIfInBounds_toArray, List.set_cons_zero, List.set_cons_succ])
        refine HeldF.wpAnyF_take (i := 3) (oi := { dst := some 24, op := Op.fieldAddr 53 (Operand.tmp 5) 5, type := 0, pos := "l09_screen.go:158", after := #[], guard := none }) (v := ?v3) rfl (by kernel_rfl) (by kernel_rfl) (by kernel_rfl) (fun _ _ _ h => h) (by kernel_rfl) (Or.inl ⟨by rfl, ?hy3⟩) (by assumption) ?rest3
        case hy3 => (intro w hSw; obtain ⟨hs0, hs1, hs2, hs3, hs4, hs5, hs6, hs7⟩ := hSw; go_simp; (try with_reducible rfl))
        (try simp only [Act.put, List.setIfInBounds_toArray, List.set_cons_zero, List.set_cons_succ])
        refine HeldF.wpAnyF_take (i := 4) (oi := { dst := some 25, op := Op.load 3 (Operand.tmp 24), type := 3, pos := "l09_screen.go:158", after := #[{ on := 3, ground := Ground.data }], guard := none }) (v := ?v4) rfl (by kernel_rfl) (by kernel_rfl) (by kernel_rfl) (fun _ _ _ h => h) (by kernel_rfl) (Or.inl ⟨by rfl, ?hy4⟩) (by assumption) ?rest4
        case hy4 => (intro w hSw; obtain ⟨hs0, hs1, hs2, hs3, hs4, hs5, hs6, hs7⟩ := hSw; go_simp; (try with_reducible rfl))
        (try simp only [Act.put, List.setIfInBounds_toArray, List.set_cons_zero, List.set_cons_succ])
        refine HeldF.wpAnyF_take (i := 5) (oi := { dst := some 26, op := Op.fieldAddr 53 (Operand.tmp 5) 6, type := 0, pos := "l09_screen.go:158", after := #[], guard := none }) (v := ?v5) rfl (by kernel_rfl) (by kernel_rfl) (by kernel_rfl) (fun _ _ _ h => h) (by kernel_rfl) (Or.inl ⟨by rfl, ?hy5⟩) (by assumption) ?rest5
        case hy5 => (intro w hSw; obtain ⟨hs0, hs1, hs2, hs3, hs4, hs5, hs6, hs7⟩ := hSw; go_simp; (try with_reducible rfl))
        (try simp only [Act.put, List.setIfInBounds_toArray, List.set_cons_zero, List.set_cons_succ])
        refine HeldF.wpAnyF_take (i := 6) (oi := { dst := some 27, op := Op.load 3 (Operand.tmp 26), type := 3, pos := "l09_screen.go:158", after := #[{ on := 5, ground := Ground.data }], guard := none }) (v := ?v6) rfl (by kernel_rfl) (by kernel_rfl) (by kernel_rfl) (fun _ _ _ h => h) (by kernel_rfl) (Or.inl ⟨by rfl, ?hy6⟩) (by assumption) ?rest6
        case hy6 => (intro w hSw; obtain ⟨hs0, hs1, hs2, hs3, hs4, hs5, hs6, hs7⟩ := hSw; go_simp; (try with_reducible rfl))
        (try simp only [Act.put, List.setIfInBounds_toArray, List.set_cons_zero, List.set_cons_succ])
        refine HeldF.wpAnyF_take (i := 7) (oi := { dst := some 28, op := Op.move (Operand.tmp 1), type := 3, pos := "l09_screen.go:158", after := #[], guard := none }) (v := ?v7) rfl (by kernel_rfl) (by kernel_rfl) (by kernel_rfl) (fun _ _ _ h => h) (by kernel_rfl) (Or.inl ⟨by rfl, ?hy7⟩) (by assumption) ?rest7
        case hy7 => (intro w hSw; obtain ⟨hs0, hs1, hs2, hs3, hs4, hs5, hs6, hs7⟩ := hSw; go_simp; (try with_reducible rfl))
        (try simp only [Act.put, List.setIfInBounds_toArray, List.set_cons_zero, List.set_cons_succ])
        refine HeldF.wpAnyF_take (i := 8) (oi := { dst := some 29, op := Op.fieldAddr 53 (Operand.tmp 5) 8, type := 0, pos := "l09_screen.go:158", after := #[], guard := none }) (v := ?v8) rfl (by kernel_rfl) (by kernel_rfl) (by kernel_rfl) (fun _ _ _ h => h) (by kernel_rfl) (Or.inl ⟨by rfl, ?hy8⟩) (by assumption) ?rest8
        case hy8 => (intro w hSw; obtain ⟨hs0, hs1, hs2, hs3, hs4, hs5, hs6, hs7⟩ := hSw; go_simp; (try with_reducible rfl))
        (try simp only [Act.put, List.setIfInBounds_toArray, List.set_cons_zero, List.set_cons_succ])
        refine HeldF.wpAnyF_take (i := 9) (oi := { dst := some 30, op := Op.load 35 (Operand.tmp 29), type := 35, pos := "l09_screen.go:158", after := #[{ on := 8, ground := Ground.data }], guard := none }) (v := ?v9) rfl (by kernel_rfl) (by kernel_rfl) (by kernel_rfl) (fun _ _ _ h => h) (by kernel_rfl) (Or.inl ⟨by rfl, ?hy9⟩) (by assumption) ?rest9
        case hy9 => (intro w hSw; obtain ⟨hs0, hs1, hs2, hs3, hs4, hs5, hs6, hs7⟩ := hSw; go_simp; (try with_reducible rfl))
        (try simp only [Act.put, List.setIfInBounds_toArray, List.set_cons_zero, List.set_cons_succ])
        refine HeldF.wpAnyF_take (i := 10) (oi := { dst := some 31, op := Op.build 37 #[(0, Operand.tmp 28), (1, Operand.tmp 30)], type := 37, pos := "l09_screen.go:158", after := #[{ on := 7, ground := Ground.data }, { on := 9, ground := Ground.data }], guard := none }) (v := ?v10) rfl (by kernel_rfl) (by kernel_rfl) (by kernel_rfl) (fun _ _ _ h => h) (by kernel_rfl) (Or.inl ⟨by rfl, ?hy10⟩) (by assumption) ?rest10
        case hy10 => (intro w hSw; obtain ⟨hs0, hs1, hs2, hs3, hs4, hs5, hs6, hs7⟩ := hSw; go_simp; (try with_reducible rfl))
        (try simp only [Act.put, List.setIfInBounds_toArray, List.set_cons_zero, List.set_cons_succ])
        refine HeldF.wpAnyF_one (k := 2) (o := { dst := some 23, op := Op.call { callee := Callee.value (Operand.func 74), args := #[Operand.tmp 22], argTypes := #[53] }, type := 32, pos := "l09_screen.go:158", after := #[{ on := 1, ground := Ground.data }], guard := none }) (by kernel_rfl) rfl (fun K hK => ?_)
        go_simp
        go_at_call 74
        refine (l09Shown_any t4 _).mono ?_
        rintro e y1 ⟨rfl, hb1'⟩
        have hb1 : Below wc.heap.size wc y1 := undrew hb1'
        have T5 := Lib.hid (T4.out.below hb1 T4.out.lt)
        have O5 := Lib.hid (O4.out.below (Nat.le_refl _) hb1)
        have Z5 := Lib.hid (Z4.out.below hb1 Z4.out.lt)
        have H5 := Lib.hid (H4.out.trans (hb1.mono H4.out.size))
        clear hb1 hb1'
        go_simp
        refine hK.out _ _ (fun _ => SOK.out _ T5.out) (fun hH => ?_)
        clear hK K
        clear hHeld
        have hHeld := hH (by decide)
        clear hH
        (try simp only [Act.put, List.setIfInBounds_toArray, List.set_cons_zero, List.set_cons_succ])
        refine HeldF.wpAnyF_one (k := 11) (o := { dst := some 32, op := Op.call { callee := Callee.value (Operand.func 11), args := #[Operand.tmp 23, Operand.tmp 25, Operand.tmp 27, Operand.const (Value.int IntKind.i64 1), Operand.const (Value.int IntKind.i64 1), Operand.tmp 31], argTypes := #[32, 3, 3, 3, 3, 37] }, type := 32, pos := "l09_screen.go:158", after := #[{ on := 2, ground := Ground.data }, { on := 4, ground := Ground.data }, { on := 6, ground := Ground.data }, { on := 10, ground := Ground.data }, { on := 2, ground := Ground.chain }], guard := none }) (by kernel_rfl) rfl (fun K hK => ?_)
        go_simp
        go_at_call 11
        refine (HGF.out _ O5.out).mono ?_
        rintro e y2 ⟨A9, c9, rfl, ho9, hb2⟩
        have T6 := Lib.hid (T5.out.below hb2 T5.out.lt)
        have Z6 := Lib.hid (Z5.out.below hb2 Z5.out.lt)
        have H6 := Lib.hid (H5.out.trans (hb2.mono H5.out.size))
        have O6 := Lib.hid (own_put (gw := shW t4) (gh := shH t4) O5.out hb2 ho9 (by have := H5.out.size; have := Z5.out.lt; omega))
        clear hb2 ho9
        go_simp
        refine hK.out _ _ (fun _ => SOK.out _ T6.out) (fun hH => ?_)
        clear hK K
        clear hHeld
        have hHeld := hH (by decide)
        clear hH
        (try simp only [Act.put, List.setIfInBounds_toArray, List.set_cons_zero, List.set_cons_succ])
        refine HeldF.wpAnyF_one (k := 12) (o := { dst := some 33, op := Op.call { callee := Callee.value (Operand.func 73), args := #[Operand.tmp 21, Operand.tmp 32], argTypes := #[53, 32] }, type := 53, pos := "l09_screen.go:158", after := #[{ on := 0, ground := Ground.data }, { on := 11, ground := Ground.data }, { on := 11, ground := Ground.chain }], guard := none }) (by kernel_rfl) rfl (fun K hK => ?_)
        go_simp
        go_at_call 73
        refine (l09Put_any t4 (shW t4) (shH t4) A9 c9 R _).mono ?_
        rintro e y3 ⟨rfl, hb3⟩
        have T7 := Lib.hid (T6.out.below hb3 T6.out.lt)
        have Z7 := Lib.hid (Z6.out.below hb3 Z6.out.lt)
        have H7 := Lib.hid (H6.out.trans (hb3.mono H6.out.size))
        have O7 := Lib.hid (O6.out.below (Nat.le_refl _) hb3)
        have row7 : RowZ y3 v2.heap.size 31 := RowZ.of T7.out.row 31 rfl
        clear hb3
        go_simp
        refine hK.out _ _ (fun _ => SOK.out _ T7.out) (fun hH => ?_)
        clear hK K
        clear hHeld
        have hHeld := hH (by decide)
        clear hH
        (try simp only [Act.put, List.setIfInBounds_toArray, List.set_cons_zero, List.set_cons_succ])
        refine HeldF.wpAnyF_one (k := 13) (o := { dst := none, op := Op.store 53 (Operand.tmp 5) (Operand.tmp 33), type := 0, pos := "l09_screen.go:158", after := #[{ on := 12, ground := Ground.data }, { on := 12, ground := Ground.chain }, { on := 0, ground := Ground.phase }, { on := 1, ground := Ground.phase }, { on := 2, ground := Ground.phase }, { on := 3, ground := Ground.phase }, { on := 4, ground := Ground.phase }, { on := 5, ground := Ground.phase }, { on := 6, ground := Ground.phase }, { on := 7, ground := Ground.phase }, { on := 8, ground := Ground.phase }, { on := 9, ground := Ground.phase }, { on := 10, ground := Ground.phase }, { on := 11, ground := Ground.phase }, { on := 12, ground := Ground.phase }], guard := none }) (by kernel_rfl) rfl (fun K hK => ?_)
        go_simp
        refine hK.out _ _ (fun h => absurd rfl h) (fun hH => ?_)
        clear hK K
        clear hHeld hH
        (try simp only [Act.put, List.setIfInBounds_toArray, List.set_cons_zero, List.set_cons_succ])
        refine HeldF.wpAnyF_done (by kernel_rfl) ?_ _
        refine NoPanic.normal ?_
        rename_i _ K0 hK0
        refine hK0 _ _ ?_
        clear hK0 K0 row7
        obtain ⟨t5, ht5⟩ : ∃ t5, t5 = putS t4 (shW t4) (shH t4) ⟨A9, c9, R⟩ := ⟨_, rfl⟩
        obtain ⟨y4, hy4⟩ : ∃ x, x = y3.setRow v2.heap.size (scrA (putS t4 (shW t4) (shH t4) ⟨A9, c9, R⟩)) := ⟨_, rfl⟩
        have D8 := Lib.hid (show t5.data = setD (wrD s.data) z by rw [ht5, ← HSD.out]; exact put_data)
        have T8 := Lib.hid (show RowS y4 v2.heap.size t5 from by rw [hy4, ht5]; exact T7.out.store)
        have O8 := Lib.hid (show OwnS y4 (w.heap.size + 2) t5 from by rw [hy4, ht5]; exact O7.out.keepRow v2.heap.size _ (.inr (T7.out.apart O7.out)))
        have Z8 := Lib.hid (show RowS y4 (w.heap.size + 1) zeroS from by rw [hy4]; exact Z7.out.row_other (by omega))
        have H8 := Lib.hid (show Below w.heap.size w y4 from by rw [hy4]; exact below_setRow H7.out (by omega) _)
        have HOK8 := Lib.hid (show okD t5.data = true by rw [D8.out]; exact ok_set (ok_wr HKY.out) HQ.out.symm)
        rw [← hy4]
        clear hy4 ht5 T4 T5 T6 T7 O4 O5 O6 O7 Z4 Z5 Z6 Z7 H4 H5 H6 H7 HGF HSD SOK
        obtain ⟨Wd, Hd, X, Y, Tp, Bt, L, fit⟩ := ok_fit HOK8.out
        have ex : t5.x = (X : Int) := fit.x
        have ew : t5.w = (Wd : Int) := fit.w
        have g1 := fit.x2; have g2 := fit.w2; have g3 := fit.w1
        have k9 : y4.cell? ⟨v2.heap.size, 9, none⟩ = some (.int .i64 (X : Int)) := by rw [← ex]; exact T8.out.cell 9
        have k0 : y4.cell? ⟨v2.heap.size, 0, none⟩ = some (.int .i64 (Wd : Int)) := by rw [← ew]; exact T8.out.cell 0
        have k19 : y4.cell? ⟨v2.heap.size, 19, none⟩ = some (.bool t5.noWrap) := T8.out.cell 19
        have k11 : y4.cell? ⟨v2.heap.size, 11, none⟩ = some (.bool t5.wrap) := T8.out.cell 11
        have f9 := T8.out.free 9
        have f11 := T8.out.free 11
        have EX := Lib.hid ex
        have EW := Lib.hid ew
        have z41 : v2.heap.size < y4.heap.size := T8.out.lt
        have z42 : w.heap.size + 1 < y4.heap.size := Z8.out.lt
        clear fit ex ew
        by_cases hx : X + 1 = Wd
        · have HA := Lib.hid (show advD t5.data = ({ t5 with wrap := !t5.noWrap } : ScrS).data by
            unfold advD; rw [if_pos (by show t5.x = t5.w - 1; rw [EX.out, EW.out]; omega)]; rfl)
          have hxe : ((X : Int) == (Wd : Int) - 1) = true := by simp; omega
          have R9 := Lib.hid (show RowS (y4.setCell ⟨v2.heap.size, 11, none⟩ (.bool (!t5.noWrap))) v2.heap.size { t5 with wrap := !t5.noWrap } from T8.out.s_wrap (z := !t5.noWrap))
          have row9 : rowOf (y4.setCell ⟨v2.heap.size, 11, none⟩ (.bool (!t5.noWrap))) v2.heap.size = scrA { t5 with wrap := !t5.noWrap } := R9.out.of
          have Z9 := Lib.hid (show RowS (y4.setCell ⟨v2.heap.size, 11, none⟩ (.bool (!t5.noWrap))) (w.heap.size + 1) zeroS from Z8.out.other (by omega))
          have rz9 : RowZ (y4.setCell ⟨v2.heap.size, 11, none⟩ (.bool (!t5.noWrap))) (w.heap.size + 1) 31 := RowZ.of Z9.out.row 31 rfl
          have O9 := Lib.hid (show OwnS (y4.setCell ⟨v2.heap.size, 11, none⟩ (.bool (!t5.noWrap))) (w.heap.size + 2) { t5 with wrap := !t5.noWrap } from by
            have h := O8.out.only (S := fun i => i = v2.heap.size) (Only.cell_ y4 v2.heap.size 11 (.bool (!t5.noWrap)) rfl) (fun i hi e => T8.out.apart O8.out (e ▸ hi))
            exact ⟨h.c, h.t, h.r⟩)
          clear hx
          go_wp2_with fail
          refine bodyPost_ret (v := .agg (scrA { t5 with wrap := !t5.noWrap })) (res55 Try.results29 _ _ (w.heap.size + 1) _ (by simp) (Z9.out.row.setRow) rfl) rfl ⟨_, rfl, ?_, ?_, ?_⟩
          · exact ((O9.out.row_ _ _ (by omega)).more (by omega))
          · rw [HF.out, HU.out, ← D8.out, HA.out]
          · exact below_setRow (H8.out.setCell (by simp; omega) _) (by omega) _
        · have HA := Lib.hid (show advD t5.data = ({ t5 with x := (X : Int) + 1 } : ScrS).data by
            unfold advD; rw [if_neg (by show ¬ t5.x = t5.w - 1; rw [EX.out, EW.out]; omega)]
            show _ = ({ t5.data with x := (X : Int) + 1 } : ScrD); rw [← EX.out]; rfl)
          have hxe : ((X : Int) == (Wd : Int) - 1) = false := by simp; omega
          have R9 := Lib.hid (show RowS (y4.setCell ⟨v2.heap.size, 9, none⟩ (.int .i64 ((X : Int) + 1))) v2.heap.size { t5 with x := (X : Int) + 1 } from T8.out.s_x (z := (X : Int) + 1))
          have row9 : rowOf (y4.setCell ⟨v2.heap.size, 9, none⟩ (.int .i64 ((X : Int) + 1))) v2.heap.size = scrA { t5 with x := (X : Int) + 1 } := R9.out.of
          have Z9 := Lib.hid (show RowS (y4.setCell ⟨v2.heap.size, 9, none⟩ (.int .i64 ((X : Int) + 1))) (w.heap.size + 1) zeroS from Z8.out.other (by omega))
          have rz9 : RowZ (y4.setCell ⟨v2.heap.size, 9, none⟩ (.int .i64 ((X : Int) + 1))) (w.heap.size + 1) 31 := RowZ.of Z9.out.row 31 rfl
          have O9 := Lib.hid (show OwnS (y4.setCell ⟨v2.heap.size, 9, none⟩ (.int .i64 ((X : Int) + 1))) (w.heap.size + 2) { t5 with x := (X : Int) + 1 } from by
            have h := O8.out.only (S := fun i => i = v2.heap.size) (Only.cell_ y4 v2.heap.size 9 (.int .i64 ((X : Int) + 1)) rfl) (fun i hi e => T8.out.apart O8.out (e ▸ hi))
            exact ⟨h.c, h.t, h.r⟩)
          clear hx
          go_wp2_with fail
          refine bodyPost_ret (v := .agg (scrA { t5 with x := (X : Int) + 1 })) (res55 Try.results29 _ _ (w.heap.size + 1) _ (by simp) (Z9.out.row.setRow) rfl) rfl ⟨_, rfl, ?_, ?_, ?_⟩
          · exact ((O9.out.row_ _ _ (by omega)).more (by omega))
          · rw [HF.out, HU.out, ← D8.out, HA.out]
          · exact below_setRow (H8.out.setCell (by simp; omega) _) (by omega) _
end Go.Proofs.Ythlpchojlddnbaa.Sc
namespace Go.Proofs.Ythlpchojlddnbaa.Sc
open Go.RowKit Go.Proofs.Ythlpchojlddnbaa.Bytes Go.Proofs.Ythlpchojlddnbaa.Rows_ Go.Proofs.Ythlpchojlddnbaa.RowK Go.Proofs.Ythlpchojlddnbaa.Gr Go.Proofs.Ythlpchojlddnbaa.DOk Go.Proofs.Ythlpchojlddnbaa.Opq Go.Proofs.Ythlpchojlddnbaa.Attr
set_option linter.unusedVariables false
attribute [local go_sem ↓] Sc.exec_storeS Sc.exec_loadS
attribute [local go_sem] blkOf_ptr isHead_ptr aggN_agg setRow_alloc rowZ_at rowZ_past scrA_size nsA_size one_scr rowOf_alloc_at rowOf_alloc_past rowOf_drew ns_pre
attribute [local go_sem] sa_w sa_h sa_mw sa_mh sa_M sa_aw sa_ah sa_A sa_onAlt sa_x sa_y sa_wrap sa_fg sa_bg sa_b sa_u sa_t sa_top sa_bot sa_noWrap sa_hide sa_sx sa_sy sa_sfg sa_sbg sa_sb sa_su sa_st sa_tabs sa_lim sa_rows
attribute [local go_sem] ns_w ns_h ns_mw ns_mh ns_M ns_aw ns_ah ns_A ns_onAlt ns_x ns_y ns_wrap ns_fg ns_bg ns_b ns_u ns_t ns_top ns_bot ns_noWrap ns_hide ns_sx ns_sy ns_sfg ns_sbg ns_sb ns_su ns_st ns_tabs ns_lim ns_rows
attribute [local go_sem] ns_at0 ns_at1 ns_at2 ns_at3 ns_at4 ns_at5 ns_at6 ns_at7 ns_at8 ns_at9 ns_at10 ns_at11 ns_at12 ns_at13 ns_at14 ns_at15 ns_at16 ns_at17 ns_at18 ns_at19 ns_at20 ns_at21 ns_at22 ns_at23 ns_at24 ns_at25 ns_at26 ns_at27 ns_at28 ns_at29 ns_at30 ns_at31 ns_at32 ns_at33 ns_at34 ns_at35 ns_at36 ns_at37
attribute [local go_sem] scr_at0 scr_at1 scr_at2 scr_at3 scr_at4 scr_at5 scr_at6 scr_at7 scr_at8 scr_at9 scr_at10 scr_at11 scr_at12 scr_at13 scr_at14 scr_at15 scr_at16 scr_at17 scr_at18 scr_at19 scr_at20 scr_at21 scr_at22 scr_at23 scr_at24 scr_at25 scr_at26 scr_at27 scr_at28 scr_at29 scr_at30
set_option maxRecDepth 100000 in
set_option maxHeartbeats 3200000 in
theorem changed_Rune (s : ScrS) (w : World) (b : Nat) (F : ScrD → ScrD) (c1 : Value) (ho : OwnS w b s) (hn : szS s ≤ 1048576)
    (HM : okD s.data = true → ∀ W B g t, Below w.heap.size w W → w.heap.size + 2 ≤ B → RowN W g t → OwnS W B t → B ≤ g → t.data = s.data → Calls Try.prog 75 #[.pointer (some ⟨g, 0, none⟩), c1] W (Mth B g (F s.data) W)) :
    Calls Try.prog 63 #[.agg (scrA s), .func (.func 75) #[] #[c1]] w (AnsS (okF F s.data) w) := by
  have H0 := Lib.hid (((Below.refl w.heap.size w).alloc (Nat.le_refl _) (.cells (scrA s) 53)).alloc (by simp) (.cells (scrA zeroS) 53))
  have B0 := Lib.hid (show RowS ((w.alloc (.cells (scrA s) 53)).alloc (.cells (scrA zeroS) 53)) w.heap.size s from (RowS.new w s).alloc _)
  have Z0 := Lib.hid (show RowS ((w.alloc (.cells (scrA s) 53)).alloc (.cells (scrA zeroS) 53)) (w.heap.size + 1) zeroS from by have h := RowS.new (w.alloc (.cells (scrA s) 53)) zeroS; simpa using h)
  have hone0 : One #[.int .i64 0, .int .i64 0, .int .i64 0, .int .i64 0, .slice none 0 0, .int .i64 0, .int .i64 0, .slice none 0 0, .bool false, .int .i64 0, .int .i64 0, .bool false, .int .i64 0, .int .i64 0, .bool false, .bool false, .bool false, .int .i64 0, .int .i64 0, .bool false, .bool false, .int .i64 0, .int .i64 0, .int .i64 0, .int .i64 0, .bool false, .bool false, .bool false, .slice none 0 0, .int .i64 0, .slice none 0 0] := one_scr zeroS
  have HOK := Lib.hid (fun W (h : Below w.heap.size w W) => impl_ScrOk_any s W (ho.below (Nat.le_refl _) h).rd hn)
  have HNW := Lib.hid (fun W (h : Below w.heap.size w W) => newScreen_any s W b (ho.below (Nat.le_refl _) h) hn)
  have HMM := Lib.hid HM
  clear ho HM hn
  have hmf : ∀ (fn : Fn) (first cap : Array Value) (w : World), (Instr.makeFunc fn first cap).run Try.prog w = .ok (.func fn first cap) w := fun _ _ _ _ => rfl
  cases hok : okD s.data
  · have HF := Lib.hid (okF_no (f := F) hok)
    go_enter Try.func63, Try.ntmps63
    go_wp2_with fail
    refine (HOK.out _ H0.out).mono ?_
    rintro e v1 ⟨rfl, hb1⟩
    rw [hok]
    have Z1 := Lib.hid (Z0.out.below hb1 Z0.out.lt)
    have H1 := Lib.hid (H0.out.trans (hb1.mono (by simp; omega)))
    have rz1 : RowZ v1 (w.heap.size + 1) 31 := RowZ.of Z1.out.row 31 rfl
    clear hb1 B0 Z0 H0 HOK HNW HMM
    go_wp2_with fail
    refine bodyPost_ret (v := .agg (scrA zeroS)) (res55 Try.results63 _ _ (w.heap.size + 1) _ (by simp) (Z1.out.row.setRow) rfl) rfl ⟨zeroS, rfl, ?_, ?_, ?_⟩
    · exact zeroS_own _ _
    · rw [HF.out]; rfl
    · exact below_setRow H1.out (by omega) _
  · have HF := Lib.hid (okF_yes (f := F) hok)
    have HM2 := Lib.hid (HMM.out hok)
    clear HMM
    go_enter Try.func63, Try.ntmps63
    go_wp2_with fail
    refine (HOK.out _ H0.out).mono ?_
    rintro e v1 ⟨rfl, hb1⟩
    rw [hok]
    have B1 := Lib.hid (B0.out.below hb1 B0.out.lt)
    have Z1 := Lib.hid (Z0.out.below hb1 Z0.out.lt)
    have H1 := Lib.hid (H0.out.trans (hb1.mono (by simp; omega)))
    have row1 := B1.out.of
    clear hb1 B0 Z0 H0 HOK hok
    go_wp2_with fail
    refine (HNW.out _ H1.out).mono ?_
    rintro e v2 ⟨g, t, rfl, hN2, hO2, hD2, hg2, hb2⟩
    have zz1 : w.heap.size + 1 < v1.heap.size := Z1.out.lt
    have Z2 := Lib.hid (Z1.out.below hb2 zz1)
    have H2 := Lib.hid (H1.out.trans (hb2.mono H1.out.size))
    have HMC := Lib.hid (HM2.out v2 v1.heap.size g t H2.out (by omega) hN2 hO2 hg2 hD2)
    clear hb2 B1 Z1 H1 HNW row1 HM2 hO2 hN2 hD2
    go_wp2_with fail
    refine HMC.out.mono ?_
    rintro e v3 ⟨rfl, t3, hN3, hO3, hD3, hb3⟩
    have HN3 := Lib.hid hN3
    have HO3 := Lib.hid hO3
    have HD3 := Lib.hid hD3
    have Z3 := Lib.hid (Z2.out.below hb3 zz1)
    have H3 := Lib.hid (H2.out.trans (hb3.mono (by omega)))
    clear hb3 hN3 hO3 hD3 HMC Z2 H2
    go_wp2_with fail
    refine (closed_any t3 g _ HN3.out).mono ?_
    rintro e v4 ⟨rfl, hb4⟩
    have zz3 : w.heap.size + 1 < v3.heap.size := Z3.out.lt
    have Z4 := Lib.hid (Z3.out.below hb4 zz3)
    have HO4 := Lib.hid (HO3.out.below (Nat.le_refl _) hb4)
    have H4 := Lib.hid (H3.out.trans (hb4.mono (by omega)))
    have rz4 : RowZ v4 (w.heap.size + 1) 31 := RowZ.of Z4.out.row 31 rfl
    clear hb4 HN3 HO3 Z3 H3
    go_wp2_with fail
    refine bodyPost_ret (v := .agg (scrA t3)) (res55 Try.results63 _ _ (w.heap.size + 1) _ (by simp) (Z4.out.row.setRow) rfl) rfl ⟨t3, rfl, ?_, ?_, ?_⟩
    · exact ((HO4.out.row_ _ _ (by omega)).more (by omega))
    · rw [HF.out]; exact HD3.out
    · exact below_setRow H4.out (by omega) _
end Go.Proofs.Ythlpchojlddnbaa.Sc
namespace Go.Proofs.Ythlpchojlddnbaa.Sc
open Go.RowKit Go.Proofs.Ythlpchojlddnbaa.Bytes Go.Proofs.Ythlpchojlddnbaa.Rows_ Go.Proofs.Ythlpchojlddnbaa.RowK Go.Proofs.Ythlpchojlddnbaa.Gr Go.Proofs.Ythlpchojlddnbaa.DOk Go.Proofs.Ythlpchojlddnbaa.Opq Go.Proofs.Ythlpchojlddnbaa.Attr
set_option linter.unusedVariables false
attribute [local go_sem ↓] Sc.exec_storeS Sc.exec_loadS
attribute [local go_sem] blkOf_ptr isHead_ptr aggN_agg setRow_alloc rowZ_at rowZ_past scrA_size nsA_size one_scr rowOf_alloc_at rowOf_alloc_past rowOf_drew ns_pre
attribute [local go_sem] sa_w sa_h sa_mw sa_mh sa_M sa_aw sa_ah sa_A sa_onAlt sa_x sa_y sa_wrap sa_fg sa_bg sa_b sa_u sa_t sa_top sa_bot sa_noWrap sa_hide sa_sx sa_sy sa_sfg sa_sbg sa_sb sa_su sa_st sa_tabs sa_lim sa_rows
attribute [local go_sem] ns_w ns_h ns_mw ns_mh ns_M ns_aw ns_ah ns_A ns_onAlt ns_x ns_y ns_wrap ns_fg ns_bg ns_b ns_u ns_t ns_top ns_bot ns_noWrap ns_hide ns_sx ns_sy ns_sfg ns_sbg ns_sb ns_su ns_st ns_tabs ns_lim ns_rows
attribute [local go_sem] ns_at0 ns_at1 ns_at2 ns_at3 ns_at4 ns_at5 ns_at6 ns_at7 ns_at8 ns_at9 ns_at10 ns_at11 ns_at12 ns_at13 ns_at14 ns_at15 ns_at16 ns_at17 ns_at18 ns_at19 ns_at20 ns_at21 ns_at22 ns_at23 ns_at24 ns_at25 ns_at26 ns_at27 ns_at28 ns_at29 ns_at30 ns_at31 ns_at32 ns_at33 ns_at34 ns_at35 ns_at36 ns_at37
attribute [local go_sem] scr_at0 scr_at1 scr_at2 scr_at3 scr_at4 scr_at5 scr_at6 scr_at7 scr_at8 scr_at9 scr_at10 scr_at11 scr_at12 scr_at13 scr_at14 scr_at15 scr_at16 scr_at17 scr_at18 scr_at19 scr_at20 scr_at21 scr_at22 scr_at23 scr_at24 scr_at25 scr_at26 scr_at27 scr_at28 scr_at29 scr_at30
theorem own_set6 {W_ : World} {base q n c i o : Nat} {cs : List CellD} {z : CellD} (h : OwnC W_ base (some ⟨q, 0, none⟩) n c cs) (hi : i < cs.length) (ho : o = i * 6) :
    OwnC ((((((W_.setCell ⟨q, o, none⟩ (.int .i64 z.r)).setCell ⟨q, o + 1, none⟩ (.int .i64 z.fg)).setCell ⟨q, o + 2, none⟩ (.int .i64 z.bg)).setCell ⟨q, o + 3, none⟩ (.bool z.b)).setCell ⟨q, o + 4, none⟩ (.bool z.u)).setCell ⟨q, o + 5, none⟩ (.bool z.t)) base (some ⟨q, 0, none⟩) n c (cs.set i z) := by
  subst ho
  have e1 : cs.map cellR = (cs.take i).map cellR ++ [cellR cs[i]] ++ (cs.drop (i + 1)).map cellR := by
    rw [← List.map_singleton, ← List.map_append, ← List.map_append, List.append_assoc, List.singleton_append, ← List.drop_eq_getElem_cons hi, List.take_append_drop]
  have e2 : (cs.set i z).map cellR = (cs.take i).map cellR ++ [cellR z] ++ (cs.drop (i + 1)).map cellR := by
    rw [List.set_eq_take_append_cons_drop, if_pos hi, List.map_append, List.map_cons, List.append_assoc]; rfl
  have h1 : W_.ownsRow base 37 6 (.slice (some ⟨q, 0, none⟩) n c) n ((cs.take i).map cellR ++ [cellR cs[i]] ++ (cs.drop (i + 1)).map cellR).flatten := by rw [← e1]; exact h
  have h2 := row6 (.int .i64 z.r) (.int .i64 z.fg) (.int .i64 z.bg) (.bool z.b) (.bool z.u) (.bool z.t) (fun r hr => cell_len (cs.take i) r hr) i (by simp; omega) h1
  show World.ownsRow _ base 37 6 (.slice (some ⟨q, 0, none⟩) n c) n ((cs.set i z).map cellR).flatten
  rw [e2]; exact h2
set_option maxRecDepth 100000 in
set_option maxHeartbeats 3200000 in
theorem rowSh_any (t : ScrS) (g B : Nat) (w : World) (W H y q : Nat) (hg : RowN w g t) (ho : OwnS w B t) (r : Rol t W H) (hq : (shC t).A = some ⟨q, 0, none⟩) (hy : y < H) :
    Calls Try.prog 125 #[.pointer (some ⟨g, offS t, none⟩), .int .i64 (y : Int)] w fun e w' => e = .returned (.slice (some ⟨q, y * W * 6, none⟩) W ((shC t).c - y * W)) ∧ Below w.heap.size w w' := by
  have hyl : y * W + W ≤ (shC t).cs.length := by
    rw [r.n, Nat.mul_comm W H]
    have := Nat.mul_le_mul_right W (show y + 1 ≤ H by omega)
    rw [Nat.add_mul, Nat.one_mul] at this; exact this
  have c0 : w.cell? ⟨g, offS t, none⟩ = some (.int .i64 (W : Int)) := by
    rw [← r.w]; unfold shW offS; cases t.onAlt
    · exact hg.cell 31
    · exact hg.cell 35
  have c1 : w.cell? ⟨g, offS t + 1, none⟩ = some (.int .i64 (shH t)) := by
    unfold shH offS; cases t.onAlt
    · exact hg.cell 32
    · exact hg.cell 36
  have c2 : w.cell? ⟨g, offS t + 2, none⟩ = some (.slice (some ⟨q, 0, none⟩) (shC t).cs.length (shC t).c) := by
    rw [← hq]; unfold shC offS; cases t.onAlt
    · exact hg.cell 33
    · exact hg.cell 37
  have hcap := (sh_addr ho).cap
  have hn : (shC t).cs.length ≤ 1048576 := by rw [r.n]; have := r.wh; omega
  have hw1 := r.w1; have hh2 := r.h2
  have HC := Lib.hid (rowOf_any W (shH t) q 0 (shC t).cs.length (shC t).c y w hw1 hyl (by omega) hcap.1 (by omega) (by have := hcap.2; omega))
  rw [Nat.zero_add] at HC
  obtain ⟨k, hk⟩ : ∃ k : Nat, k = offS t := ⟨_, rfl⟩
  rw [← hk] at c0 c1 c2 ⊢
  clear hk hg ho hq hyl hcap r hn
  go_enter Try.func125, Try.ntmps125
  go_wp2_with fail
  refine HC.out.mono ?_
  rintro e v ⟨rfl, hb⟩
  have HB := Lib.hid hb
  clear hb c0 c1 c2 HC
  go_wp2_with fail
  go_ret
  exact ⟨rfl, HB.out⟩
def setCS (t : ScrS) (i : Nat) (z : CellD) : ScrS := putS t (shW t) (shH t) ⟨(shC t).A, (shC t).c, (shC t).cs.set i z⟩
set_option maxRecDepth 100000 in
set_option maxHeartbeats 3200000 in
theorem put_any (t : ScrS) (g B : Nat) (w : World) (W H X Y : Nat) (zr zf zg : Int) (zb zu zt : Bool) (hg : RowN w g t) (ho : OwnS w B t) (r : Rol t W H) (hX : X < W) (hY : Y < H) (hB : B ≤ w.heap.size) :
    Calls Try.prog 105 #[.pointer (some ⟨g, offS t, none⟩), .int .i64 (X : Int), .int .i64 (Y : Int), .agg #[.int .i64 zr, .int .i64 zf, .int .i64 zg, .bool zb, .bool zu, .bool zt]] w fun e w' => e = .returned (.tuple #[]) ∧ RowN w' g (setCS t (Y * W + X) ⟨zr, zf, zg, zb, zu, zt⟩) ∧ OwnS w' B (setCS t (Y * W + X) ⟨zr, zf, zg, zb, zu, zt⟩) ∧ Only (SS t) w w' := by
  have hlen : (shC t).cs.length = W * H := r.n
  have hi : Y * W + X < (shC t).cs.length := by
    rw [hlen, Nat.mul_comm W H]
    have := Nat.mul_le_mul_right W (show Y + 1 ≤ H by omega)
    rw [Nat.add_mul, Nat.one_mul] at this; omega
  obtain ⟨q, hq⟩ := own_addr (sh_addr ho) (by omega)
  obtain ⟨W0, hW0⟩ : ∃ V, V = w.alloc (.cells #[.int .i64 zr, .int .i64 zf, .int .i64 zg, .bool zb, .bool zu, .bool zt] 37) := ⟨_, rfl⟩
  have hb0 : Below w.heap.size w W0 := by rw [hW0]; exact (Below.refl _ _).alloc (Nat.le_refl _) _
  have HB0 := Lib.hid hb0
  have HN := Lib.hid (hg.below hb0 hg.lt)
  have HO := Lib.hid (ho.below (Nat.le_refl _) hb0)
  have HR := Lib.hid (show RowB W0 w.heap.size #[.int .i64 zr, .int .i64 zf, .int .i64 zg, .bool zb, .bool zu, .bool zt] from by rw [hW0]; exact RowB.new w _ _)
  have HROW := Lib.hid (fun V (h1 : RowN V g t) (h2 : OwnS V B t) => rowSh_any t g B V W H Y q h1 h2 r hq hY)
  have HQ := Lib.hid hq
  have hqw : q < w.heap.size := ((sh_addr ho).blk q (by rw [hq]; rfl)).2
  have HFIN := Lib.hid (fun V (hb : Below w.heap.size w V) => show RowN ((((((V.setCell ⟨q, Y * W * 6 + X * 6, none⟩ (.int .i64 zr)).setCell ⟨q, (Y * W * 6 + X * 6) + 1, none⟩ (.int .i64 zf)).setCell ⟨q, (Y * W * 6 + X * 6) + 2, none⟩ (.int .i64 zg)).setCell ⟨q, (Y * W * 6 + X * 6) + 3, none⟩ (.bool zb)).setCell ⟨q, (Y * W * 6 + X * 6) + 4, none⟩ (.bool zu)).setCell ⟨q, (Y * W * 6 + X * 6) + 5, none⟩ (.bool zt)) g (setCS t (Y * W + X) ⟨zr, zf, zg, zb, zu, zt⟩) ∧ OwnS ((((((V.setCell ⟨q, Y * W * 6 + X * 6, none⟩ (.int .i64 zr)).setCell ⟨q, (Y * W * 6 + X * 6) + 1, none⟩ (.int .i64 zf)).setCell ⟨q, (Y * W * 6 + X * 6) + 2, none⟩ (.int .i64 zg)).setCell ⟨q, (Y * W * 6 + X * 6) + 3, none⟩ (.bool zb)).setCell ⟨q, (Y * W * 6 + X * 6) + 4, none⟩ (.bool zu)).setCell ⟨q, (Y * W * 6 + X * 6) + 5, none⟩ (.bool zt)) B (setCS t (Y * W + X) ⟨zr, zf, zg, zb, zu, zt⟩) ∧ Only (SS t) w ((((((V.setCell ⟨q, Y * W * 6 + X * 6, none⟩ (.int .i64 zr)).setCell ⟨q, (Y * W * 6 + X * 6) + 1, none⟩ (.int .i64 zf)).setCell ⟨q, (Y * W * 6 + X * 6) + 2, none⟩ (.int .i64 zg)).setCell ⟨q, (Y * W * 6 + X * 6) + 3, none⟩ (.bool zb)).setCell ⟨q, (Y * W * 6 + X * 6) + 4, none⟩ (.bool zu)).setCell ⟨q, (Y * W * 6 + X * 6) + 5, none⟩ (.bool zt)) from by
    have hgV := hg.below hb hg.lt
    have hoV := ho.below (Nat.le_refl _) hb
    have hc := sh_addr hoV
    rw [hq] at hc
    have h6 := own_set6 (z := ⟨zr, zf, zg, zb, zu, zt⟩) hc hi (show Y * W * 6 + X * 6 = (Y * W + X) * 6 by rw [Nat.add_mul])
    have on6 := only6c (S := fun i => blkS (shC t) = some i) V q (by unfold blkS; rw [hq]; rfl) (Y * W * 6 + X * 6) (Y * W * 6 + X * 6 + 1) (Y * W * 6 + X * 6 + 2) (Y * W * 6 + X * 6 + 3) (Y * W * 6 + X * 6 + 4) (Y * W * 6 + X * 6 + 5) (.int .i64 zr) (.int .i64 zf) (.int .i64 zg) (.bool zb) (.bool zu) (.bool zt)
    have hl : ((shC t).cs.set (Y * W + X) ⟨zr, zf, zg, zb, zu, zt⟩).length = (shC t).cs.length := List.length_set
    have hOwn := own_shown hoV hl (by rw [hq]; exact h6) on6
    refine ⟨rowN_put (hgV.only on6 (fun e => hgV.apart hoV (sh_ss e))) hl, hOwn, ?_⟩
    have on1 : Only (SS t) w V := ⟨hb.os, hb.tape, hb.output, hb.size, fun i hi _ => hb.block i hi⟩
    exact on1.trans (on6.mono (fun i hi => sh_ss hi)))
  have b0 : W0.cell? ⟨w.heap.size, 0, none⟩ = some (.int .i64 zr) := HR.out.cell 0
  have b1 : W0.cell? ⟨w.heap.size, 1, none⟩ = some (.int .i64 zf) := HR.out.cell 1
  have b2 : W0.cell? ⟨w.heap.size, 2, none⟩ = some (.int .i64 zg) := HR.out.cell 2
  have b3 : W0.cell? ⟨w.heap.size, 3, none⟩ = some (.bool zb) := HR.out.cell 3
  have b4 : W0.cell? ⟨w.heap.size, 4, none⟩ = some (.bool zu) := HR.out.cell 4
  have b5 : W0.cell? ⟨w.heap.size, 5, none⟩ = some (.bool zt) := HR.out.cell 5
  have HQF := Lib.hid (fun V (hb : Below w.heap.size w V) (j : Nat) (hj : j < 6) => show (∃ u, V.cell? ⟨q, Y * W * 6 + X * 6 + j, none⟩ = some u) ∧ V.frozen? ⟨q, Y * W * 6 + X * 6 + j, none⟩ = false from by
    have hoV := ho.below (Nat.le_refl _) hb
    have hc := sh_addr hoV
    rw [hq] at hc
    have h3 := OwnC.len hc
    have hlt : Y * W * 6 + X * 6 + j < (shC t).cs.length * 6 := by
      have : (Y * W + X) * 6 + 6 ≤ (shC t).cs.length * 6 := by have := Nat.mul_le_mul_right 6 (show Y * W + X + 1 ≤ (shC t).cs.length by omega); rw [Nat.add_mul, Nat.one_mul] at this; exact this
      rw [Nat.add_mul] at this; omega
    refine ⟨own_there hc _ hlt, ?_⟩
    rcases hc.2 with ⟨e, _⟩ | ⟨g2, cap, cur, e, _, hg2, _⟩
    · cases e
    · injection e with e1 e2 e3; injection e1 with e1; injection e1 with e1; subst e1
      simp [World.frozen?, hg2])
  have hwl : w.heap.size < W0.heap.size := HR.out.lt
  have hcX : (X : Int) < (W : Int) := by omega
  clear hb0 hg ho hq hlen hi r
  go_enter Try.func105, Try.ntmps105
  go_upto_region 1 with fail
  rw [← hW0]
  clear hW0
  have HROW2 := Lib.hid (show Calls Try.prog 125 #[.pointer (some ⟨g, offS t, none⟩), .int .i64 (Y : Int)] W0.drew (fun e v => e = .returned (.slice (some ⟨q, Y * W * 6, none⟩) W ((shC t).c - Y * W)) ∧ Below w.heap.size w v ∧ q < v.heap.size ∧ v.cell? ⟨w.heap.size, 0, none⟩ = some (.int .i64 zr) ∧ v.cell? ⟨w.heap.size, 1, none⟩ = some (.int .i64 zf) ∧ v.cell? ⟨w.heap.size, 2, none⟩ = some (.int .i64 zg) ∧ v.cell? ⟨w.heap.size, 3, none⟩ = some (.bool zb) ∧ v.cell? ⟨w.heap.size, 4, none⟩ = some (.bool zu) ∧ v.cell? ⟨w.heap.size, 5, none⟩ = some (.bool zt) ∧ (∃ u, v.cell? ⟨q, Y * W * 6 + X * 6, none⟩ = some u) ∧ v.frozen? ⟨q, Y * W * 6 + X * 6, none⟩ = false ∧ (∃ u, v.cell? ⟨q, Y * W * 6 + X * 6 + 1, none⟩ = some u) ∧ v.frozen? ⟨q, Y * W * 6 + X * 6 + 1, none⟩ = false ∧ (∃ u, v.cell? ⟨q, Y * W * 6 + X * 6 + 2, none⟩ = some u) ∧ v.frozen? ⟨q, Y * W * 6 + X * 6 + 2, none⟩ = false ∧ (∃ u, v.cell? ⟨q, Y * W * 6 + X * 6 + 3, none⟩ = some u) ∧ v.frozen? ⟨q, Y * W * 6 + X * 6 + 3, none⟩ = false ∧ (∃ u, v.cell? ⟨q, Y * W * 6 + X * 6 + 4, none⟩ = some u) ∧ v.frozen? ⟨q, Y * W * 6 + X * 6 + 4, none⟩ = false ∧ (∃ u, v.cell? ⟨q, Y * W * 6 + X * 6 + 5, none⟩ = some u) ∧ v.frozen? ⟨q, Y * W * 6 + X * 6 + 5, none⟩ = false) from (HROW.out W0.drew HN.out.drew HO.out.drew).mono fun e v ⟨he, hb'⟩ => by
    have hb := undrew hb'
    have hV := HB0.out.trans (hb.mono (show w.heap.size ≤ W0.heap.size by omega))
    have hr := HR.out.below hb hwl
    have hq0 := HQF.out v hV 0 (by omega)
    rw [Nat.add_zero] at hq0
    exact ⟨he, hV, by have := hV.size; omega, hr.cell 0, hr.cell 1, hr.cell 2, hr.cell 3, hr.cell 4, hr.cell 5, hq0.1, hq0.2, (HQF.out v hV 1 (by omega)).1, (HQF.out v hV 1 (by omega)).2, (HQF.out v hV 2 (by omega)).1, (HQF.out v hV 2 (by omega)).2, (HQF.out v hV 3 (by omega)).1, (HQF.out v hV 3 (by omega)).2, (HQF.out v hV 4 (by omega)).1, (HQF.out v hV 4 (by omega)).2, (HQF.out v hV 5 (by omega)).1, (HQF.out v hV 5 (by omega)).2⟩)
  go_region_with ((go_at_call 125; (with_reducible refine HROW2.out.mono ?_); rintro e v ⟨rfl, hV, hqv, vb0, vb1, vb2, vb3, vb4, vb5, ⟨u0, d0⟩, e0, ⟨u1, d1⟩, e1, ⟨u2, d2⟩, e2, ⟨u3, d3⟩, e3, ⟨u4, d4⟩, e4, ⟨u5, d5⟩, e5⟩; have HV := Lib.hid hV; clear hV))
  all_goals
    go_wp2_with fail
    go_end0
    exact ⟨rfl, HFIN.out _ HV.out⟩
end Go.Proofs.Ythlpchojlddnbaa.Sc
namespace Go.Proofs.Ythlpchojlddnbaa.Sc
open Go.RowKit Go.Proofs.Ythlpchojlddnbaa.Bytes Go.Proofs.Ythlpchojlddnbaa.Rows_ Go.Proofs.Ythlpchojlddnbaa.RowK Go.Proofs.Ythlpchojlddnbaa.Gr Go.Proofs.Ythlpchojlddnbaa.DOk Go.Proofs.Ythlpchojlddnbaa.Opq Go.Proofs.Ythlpchojlddnbaa.Attr
set_option linter.unusedVariables false
attribute [local go_sem ↓] Sc.exec_storeS Sc.exec_loadS
attribute [local go_sem] blkOf_ptr isHead_ptr aggN_agg setRow_alloc rowZ_at rowZ_past scrA_size nsA_size one_scr rowOf_alloc_at rowOf_alloc_past rowOf_drew ns_pre
attribute [local go_sem] sa_w sa_h sa_mw sa_mh sa_M sa_aw sa_ah sa_A sa_onAlt sa_x sa_y sa_wrap sa_fg sa_bg sa_b sa_u sa_t sa_top sa_bot sa_noWrap sa_hide sa_sx sa_sy sa_sfg sa_sbg sa_sb sa_su sa_st sa_tabs sa_lim sa_rows
attribute [local go_sem] ns_w ns_h ns_mw ns_mh ns_M ns_aw ns_ah ns_A ns_onAlt ns_x ns_y ns_wrap ns_fg ns_bg ns_b ns_u ns_t ns_top ns_bot ns_noWrap ns_hide ns_sx ns_sy ns_sfg ns_sbg ns_sb ns_su ns_st ns_tabs ns_lim ns_rows
attribute [local go_sem] ns_at0 ns_at1 ns_at2 ns_at3 ns_at4 ns_at5 ns_at6 ns_at7 ns_at8 ns_at9 ns_at10 ns_at11 ns_at12 ns_at13 ns_at14 ns_at15 ns_at16 ns_at17 ns_at18 ns_at19 ns_at20 ns_at21 ns_at22 ns_at23 ns_at24 ns_at25 ns_at26 ns_at27 ns_at28 ns_at29 ns_at30 ns_at31 ns_at32 ns_at33 ns_at34 ns_at35 ns_at36 ns_at37
attribute [local go_sem] scr_at0 scr_at1 scr_at2 scr_at3 scr_at4 scr_at5 scr_at6 scr_at7 scr_at8 scr_at9 scr_at10 scr_at11 scr_at12 scr_at13 scr_at14 scr_at15 scr_at16 scr_at17 scr_at18 scr_at19 scr_at20 scr_at21 scr_at22 scr_at23 scr_at24 scr_at25 scr_at26 scr_at27 scr_at28 scr_at29 scr_at30
theorem setCS_data {t : ScrS} {W H X Y T Bt L : Nat} (f : Fit t.data W H X Y T Bt L) (r : Int) : (setCS t (Y * W + X) (cellD t.data r)).data = setD t.data r := by
  have e1 : fillD t.data t.data.x t.data.y 1 1 (cellD t.data r) = (shC t).cs.set (Y * W + X) (cellD t.data r) := by
    unfold fillD
    rw [f.w, f.h, f.x, f.y, Int.toNat_natCast, Int.toNat_natCast, sh_data]
    have hl : (shD t.data).length = W * H := by
      have h1 := f.ml; have h2 := f.al
      unfold shD; cases t.data.onAlt
      · exact h1
      · exact h2
    exact mix_one hl f.x2 f.y2
  unfold setCS setD
  rw [e1]; exact put_data
set_option maxRecDepth 100000 in
set_option maxHeartbeats 3200000 in
theorem write_any (t : ScrS) (g B : Nat) (w : World) (z : Int) (hg : RowN w g t) (ho : OwnS w B t) (hok : okD t.data = true) (hB : B ≤ g) :
    Calls Try.prog 76 #[.pointer (some ⟨g, 0, none⟩), .int .i64 z] w (Mth B g (runeD t.data z) w) := by
  obtain ⟨q, hq⟩ : ∃ q, q = Rune.showB z := ⟨_, rfl⟩
  have HSH := Lib.hid (fun V => show Calls Try.prog 91 #[.int .i64 z] V (fun e w' => e = .returned (.bool q) ∧ V = w') from hq ▸ Rune.impl_Shows_any z V)
  have HQ := Lib.hid hq
  clear hq
  have HN := Lib.hid hg
  have HO := Lib.hid ho
  have HKY := Lib.hid hok
  have hgl : g < w.heap.size := hg.lt
  cases q
  · have HU := Lib.hid (show runeD t.data z = t.data by unfold runeD; rw [if_neg (by rw [← HQ.out]; decide)])
    clear hg ho hok
    go_enter Try.func76, Try.ntmps76
    go_wp2_with fail
    refine (HSH.out _).mono ?_
    rintro e v ⟨rfl, rfl⟩
    go_wp2_with fail
    go_end0
    exact ⟨rfl, t, HN.out, HO.out, HU.out.symm, Below.refl _ _⟩
  · have HU := Lib.hid (show runeD t.data z = advD (setD (wrD t.data) z) by unfold runeD; rw [if_pos HQ.out.symm])
    have k11 : w.cell? ⟨g, 11, none⟩ = some (.bool t.wrap) := hg.cell 11
    have HDN := Lib.hid (down_any t g B w hg ho hok hB)
    have hwx := Lib.hid (fun (h : t.wrap = true) => show wrD t.data = { downD t.data with x := 0 } by unfold wrD; rw [if_pos (show t.data.wrap = true from h)])
    have hwn := Lib.hid (fun (h : t.wrap = false) => show wrD t.data = t.data by unfold wrD; rw [if_neg (by rw [show t.data.wrap = t.wrap from rfl, h]; decide)])
    clear hg ho hok
    go_enter Try.func76, Try.ntmps76
    go_wp2_with fail
    refine (HSH.out _).mono ?_
    rintro e v ⟨rfl, rfl⟩
    go_upto_if 11 with fail
    go_cut [] (fun wx => ∃ t4, RowN wx g t4 ∧ OwnS wx B t4 ∧ t4.data = wrD t.data ∧ Below B w wx)
    case first =>
      cases hwr : t.wrap
      · have HWN := Lib.hid (hwn.out hwr)
        clear k11 hwr
        go_wp2_with fail
        go_meet
        case rel => exact ⟨t, HN.out, HO.out, HWN.out.symm, Below.refl _ _⟩
      · have HWX := Lib.hid (hwx.out hwr)
        clear k11 hwr
        go_wp2_with fail
        refine HDN.out.mono ?_
        rintro e v ⟨rfl, t3, hR, hO, hdd, hbb⟩
        have R3 := Lib.hid hR
        have O3 := Lib.hid hO
        have D3 := Lib.hid hdd
        have B3 := Lib.hid hbb
        have c9 : v.cell? ⟨g, 9, none⟩ = some (.int .i64 t3.x) := hR.cell 9
        have f9 := hR.free 9
        clear hR hO hdd hbb HDN
        go_wp2_with fail
        go_meet
        case rel =>
          refine ⟨{ t3 with x := 0 }, R3.out.s_x (z := 0), ?_, ?_, B3.out.setCell (by simpa using hB) _⟩
          · have h := R3.out.own (j := 9) (v := .int .i64 0) O3.out
            exact ⟨h.c, h.t, h.r⟩
          · rw [HWX.out, ← D3.out]; rfl
    case rest =>
      obtain ⟨t4, hT4, hO4, hd4, hH4⟩ := hcut
      have T4 := Lib.hid hT4
      have O4 := Lib.hid hO4
      have D4 := Lib.hid hd4
      have H4 := Lib.hid hH4
      have HOK4 := Lib.hid (show okD t4.data = true by rw [hd4]; exact ok_wr HKY.out)
      obtain ⟨W, H, X, Y, Tp, Bt, L, fit⟩ := ok_fit HOK4.out
      have hbc : B ≤ wc.heap.size := by have := hT4.lt; omega
      have HFIT := Lib.hid fit
      have hr := rol_of fit
      have HR := Lib.hid hr
      have g1 := fit.x2; have g2 := fit.y2; have g3 := fit.w2; have g4 := fit.w1
      have ex : t4.x = (X : Int) := fit.x
      have ey : t4.y = (Y : Int) := fit.y
      have ew : t4.w = (W : Int) := fit.w
      have k9 : wc.cell? ⟨g, 9, none⟩ = some (.int .i64 (X : Int)) := by rw [← ex]; exact hT4.cell 9
      have k10 : wc.cell? ⟨g, 10, none⟩ = some (.int .i64 (Y : Int)) := by rw [← ey]; exact hT4.cell 10
      have k12 : wc.cell? ⟨g, 12, none⟩ = some (.int .i64 t4.fg) := hT4.cell 12
      have k13 : wc.cell? ⟨g, 13, none⟩ = some (.int .i64 t4.bg) := hT4.cell 13
      have k14 : wc.cell? ⟨g, 14, none⟩ = some (.bool t4.b) := hT4.cell 14
      have k15 : wc.cell? ⟨g, 15, none⟩ = some (.bool t4.u) := hT4.cell 15
      have k16 : wc.cell? ⟨g, 16, none⟩ = some (.bool t4.t) := hT4.cell 16
      have SP := Lib.hid (fun w' (h : RowN w' g (setCS t4 (Y * W + X) ⟨z, t4.fg, t4.bg, t4.b, t4.u, t4.t⟩)) => show w'.cell? ⟨g, 9, none⟩ = some (.int .i64 (X : Int)) ∧ w'.cell? ⟨g, 10, none⟩ = some (.int .i64 (Y : Int)) ∧ w'.cell? ⟨g, 12, none⟩ = some (.int .i64 t4.fg) ∧ w'.cell? ⟨g, 13, none⟩ = some (.int .i64 t4.bg) ∧ w'.cell? ⟨g, 14, none⟩ = some (.bool t4.b) ∧ w'.cell? ⟨g, 15, none⟩ = some (.bool t4.u) ∧ w'.cell? ⟨g, 16, none⟩ = some (.bool t4.t) from by
        rw [← ex, ← ey]
        have e : ∀ j, (j = 9 ∨ j = 10 ∨ j = 12 ∨ j = 13 ∨ j = 14 ∨ j = 15 ∨ j = 16) → (nsA (setCS t4 (Y * W + X) ⟨z, t4.fg, t4.bg, t4.b, t4.u, t4.t⟩))[j]? = (nsA t4)[j]? := fun j hj => by
          unfold setCS putS
          cases t4.onAlt <;> (rcases hj with rfl | rfl | rfl | rfl | rfl | rfl | rfl <;> rfl)
        exact ⟨(h.cell 9).trans (e 9 (by simp)), (h.cell 10).trans (e 10 (by simp)), (h.cell 12).trans (e 12 (by simp)), (h.cell 13).trans (e 13 (by simp)), (h.cell 14).trans (e 14 (by simp)), (h.cell 15).trans (e 15 (by simp)), (h.cell 16).trans (e 16 (by simp))⟩)
      clear hT4 hO4 hd4 hH4 fit ex ey ew HDN hwx hwn k11 hr
      go_upto_region 4 with fail
      go_region_held3 (fun w' => w'.cell? ⟨g, 9, none⟩ = some (.int .i64 (X : Int)) ∧ w'.cell? ⟨g, 10, none⟩ = some (.int .i64 (Y : Int)) ∧ w'.cell? ⟨g, 12, none⟩ = some (.int .i64 t4.fg) ∧ w'.cell? ⟨g, 13, none⟩ = some (.int .i64 t4.bg) ∧ w'.cell? ⟨g, 14, none⟩ = some (.bool t4.b) ∧ w'.cell? ⟨g, 15, none⟩ = some (.bool t4.u) ∧ w'.cell? ⟨g, 16, none⟩ = some (.bool t4.t)) (first | assumption | go_keep | (exact SP.out _ HR9.out)) (first
        | (go_at_call 104; (with_reducible refine (shown_any t4 g _ T4.out.drew).mono ?_); rintro e v ⟨rfl, rfl⟩)
        | (go_at_call 105; (with_reducible refine (put_any t4 g B _ W H X Y z t4.fg t4.bg t4.b t4.u t4.t T4.out.drew O4.out.drew HR.out g1 g2 (by have h := T4.out.drew.lt; omega)).mono ?_); rintro e v ⟨rfl, hR, hO', hon⟩; have HR9 := Lib.hid hR; have HO9 := Lib.hid hO'; have HON9 := Lib.hid (only_undrew hon); clear hR hO' hon))
      all_goals
        have HB9 := Lib.hid (H4.out.trans (Only.below_ HON9.out (Below.refl B _) (by omega) (fun i hi => (O4.out.blk i hi).1)))
        have D9 := Lib.hid (show (setCS t4 (Y * W + X) ⟨z, t4.fg, t4.bg, t4.b, t4.u, t4.t⟩).data = setD (wrD t.data) z by rw [← D4.out]; exact setCS_data HFIT.out z)
        obtain ⟨t5, ht5⟩ : ∃ t5, t5 = setCS t4 (Y * W + X) ⟨z, t4.fg, t4.bg, t4.b, t4.u, t4.t⟩ := ⟨_, rfl⟩
        rw [← ht5] at HR9 HO9 D9
        have e5x : t5.x = (X : Int) := by rw [ht5]; have h := HFIT.out.x; unfold setCS putS; cases t4.onAlt <;> exact h
        have e5w : t5.w = (W : Int) := by rw [ht5]; have h := HFIT.out.w; unfold setCS putS; cases t4.onAlt <;> exact h
        have q9 : v.cell? ⟨g, 9, none⟩ = some (.int .i64 (X : Int)) := by rw [← e5x]; exact HR9.out.cell 9
        have q0 : v.cell? ⟨g, 0, none⟩ = some (.int .i64 (W : Int)) := by rw [← e5w]; exact HR9.out.cell 0
        have q19 : v.cell? ⟨g, 19, none⟩ = some (.bool t5.noWrap) := HR9.out.cell 19
        have q11 : v.cell? ⟨g, 11, none⟩ = some (.bool t5.wrap) := HR9.out.cell 11
        have qf := HR9.out.free 9
        have qf1 := HR9.out.free 11
        have EX := Lib.hid e5x
        have EW := Lib.hid e5w
        have hw1 : IntKind.i64.wrap ((W : Int) - 1) = (W : Int) - 1 := IntWalk.i64_in _ (by omega)
        have hgv : g < v.heap.size := HR9.out.lt
        clear ht5 e5x e5w k9 k10 k12 k13 k14 k15 k16 SP
        by_cases hx : X + 1 = W
        · have HA := Lib.hid (show advD t5.data = ({ t5 with wrap := !t5.noWrap } : ScrS).data by
            unfold advD; rw [if_pos (by show t5.x = t5.w - 1; rw [EX.out, EW.out]; omega)]; rfl)
          have hxe : ((X : Int) == (W : Int) - 1) = true := by simp; omega
          clear hx
          go_upto_region 5 with fail
          go_region
          all_goals
            go_wp2_with fail
            go_end0
            refine ⟨rfl, { t5 with wrap := !t5.noWrap }, HR9.out.s_wrap (z := !t5.noWrap), ?_, ?_, (HB9.out.setCell (by simpa using hB) _).drew⟩
            · have h := HR9.out.own (j := 11) (v := .bool (!t5.noWrap)) HO9.out
              exact ⟨h.c, h.t, h.r⟩
            · rw [HU.out, ← D9.out, HA.out]
        · have HA := Lib.hid (show advD t5.data = ({ t5 with x := (X : Int) + 1 } : ScrS).data by
            unfold advD; rw [if_neg (by show ¬ t5.x = t5.w - 1; rw [EX.out, EW.out]; omega)]
            show _ = ({ t5.data with x := (X : Int) + 1 } : ScrD); rw [← EX.out]; rfl)
          have hxe : ((X : Int) == (W : Int) - 1) = false := by simp; omega
          clear hx
          go_upto_region 5 with fail
          go_region
          all_goals
            go_wp2_with fail
            go_end0
            refine ⟨rfl, { t5 with x := (X : Int) + 1 }, HR9.out.s_x (z := (X : Int) + 1), ?_, ?_, (HB9.out.setCell (by simpa using hB) _).drew⟩
            · have h := HR9.out.own (j := 9) (v := .int .i64 ((X : Int) + 1)) HO9.out
              exact ⟨h.c, h.t, h.r⟩
            · rw [HU.out, ← D9.out, HA.out]
end Go.Proofs.Ythlpchojlddnbaa.Sc
namespace Go.Proofs.Ythlpchojlddnbaa.Sc
open Go.RowKit Go.Proofs.Ythlpchojlddnbaa.Bytes Go.Proofs.Ythlpchojlddnbaa.Rows_ Go.Proofs.Ythlpchojlddnbaa.RowK Go.Proofs.Ythlpchojlddnbaa.Gr Go.Proofs.Ythlpchojlddnbaa.DOk Go.Proofs.Ythlpchojlddnbaa.Opq Go.Proofs.Ythlpchojlddnbaa.Attr
set_option linter.unusedVariables false
attribute [local go_sem ↓] Sc.exec_storeS Sc.exec_loadS
attribute [local go_sem] blkOf_ptr isHead_ptr aggN_agg setRow_alloc rowZ_at rowZ_past scrA_size nsA_size one_scr rowOf_alloc_at rowOf_alloc_past rowOf_drew ns_pre
attribute [local go_sem] sa_w sa_h sa_mw sa_mh sa_M sa_aw sa_ah sa_A sa_onAlt sa_x sa_y sa_wrap sa_fg sa_bg sa_b sa_u sa_t sa_top sa_bot sa_noWrap sa_hide sa_sx sa_sy sa_sfg sa_sbg sa_sb sa_su sa_st sa_tabs sa_lim sa_rows
attribute [local go_sem] ns_w ns_h ns_mw ns_mh ns_M ns_aw ns_ah ns_A ns_onAlt ns_x ns_y ns_wrap ns_fg ns_bg ns_b ns_u ns_t ns_top ns_bot ns_noWrap ns_hide ns_sx ns_sy ns_sfg ns_sbg ns_sb ns_su ns_st ns_tabs ns_lim ns_rows
attribute [local go_sem] ns_at0 ns_at1 ns_at2 ns_at3 ns_at4 ns_at5 ns_at6 ns_at7 ns_at8 ns_at9 ns_at10 ns_at11 ns_at12 ns_at13 ns_at14 ns_at15 ns_at16 ns_at17 ns_at18 ns_at19 ns_at20 ns_at21 ns_at22 ns_at23 ns_at24 ns_at25 ns_at26 ns_at27 ns_at28 ns_at29 ns_at30 ns_at31 ns_at32 ns_at33 ns_at34 ns_at35 ns_at36 ns_at37
attribute [local go_sem] scr_at0 scr_at1 scr_at2 scr_at3 scr_at4 scr_at5 scr_at6 scr_at7 scr_at8 scr_at9 scr_at10 scr_at11 scr_at12 scr_at13 scr_at14 scr_at15 scr_at16 scr_at17 scr_at18 scr_at19 scr_at20 scr_at21 scr_at22 scr_at23 scr_at24 scr_at25 scr_at26 scr_at27 scr_at28 scr_at29 scr_at30
theorem cell_alloc_newY (w : World) (v : Value) (T : TypeId) (n : Nat) (h : n = w.heap.size) : (w.alloc (.cells #[v] T)).cell? ⟨n, 0, none⟩ = some v := by subst h; exact (RowB.new w #[v] T).cell 0
set_option maxRecDepth 100000 in
set_option maxHeartbeats 3200000 in
theorem impl_ScrRune_any (s : ScrS) (w : World) (b : Nat) (z : Int) (ho : OwnS w b s) (hn : szS s ≤ 1048576) :
    Calls Try.prog 30 #[.agg (scrA s), .int .i64 z] w (AnsS (okF (fun d => runeD d z) s.data) w) := by
  obtain ⟨W, hW⟩ : ∃ W, W = ((w.alloc (.cells (scrA s) 53)).alloc (.cells #[.int .i64 z] 3)).alloc (.cells #[.int .i64 0, .int .i64 0, .int .i64 0, .int .i64 0, .slice none 0 0, .int .i64 0, .int .i64 0, .slice none 0 0, .bool false, .int .i64 0, .int .i64 0, .bool false, .int .i64 0, .int .i64 0, .bool false, .bool false, .bool false, .int .i64 0, .int .i64 0, .bool false, .bool false, .int .i64 0, .int .i64 0, .int .i64 0, .int .i64 0, .bool false, .bool false, .bool false, .slice none 0 0, .int .i64 0, .slice none 0 0] 53) := ⟨_, rfl⟩
  have H0 : Below w.heap.size w W := by rw [hW]; exact ((((Below.refl w.heap.size w).alloc (Nat.le_refl _) (.cells (scrA s) 53)).alloc (by simp <;> omega) (.cells #[.int .i64 z] 3)).alloc (by simp <;> omega) (.cells #[.int .i64 0, .int .i64 0, .int .i64 0, .int .i64 0, .slice none 0 0, .int .i64 0, .int .i64 0, .slice none 0 0, .bool false, .int .i64 0, .int .i64 0, .bool false, .int .i64 0, .int .i64 0, .bool false, .bool false, .bool false, .int .i64 0, .int .i64 0, .bool false, .bool false, .int .i64 0, .int .i64 0, .int .i64 0, .int .i64 0, .bool false, .bool false, .bool false, .slice none 0 0, .int .i64 0, .slice none 0 0] 53))
  have B0 : RowS W w.heap.size s := by
    rw [hW]; exact (RowS.below (RowS.new w s) (B := w.heap.size + 1) (by
      refine (((Below.refl (w.heap.size + 1) (w.alloc (.cells (scrA s) 53))).alloc (by simp <;> omega) (.cells #[.int .i64 z] 3)).alloc (by simp <;> omega) (.cells #[.int .i64 0, .int .i64 0, .int .i64 0, .int .i64 0, .slice none 0 0, .int .i64 0, .int .i64 0, .slice none 0 0, .bool false, .int .i64 0, .int .i64 0, .bool false, .int .i64 0, .int .i64 0, .bool false, .bool false, .bool false, .int .i64 0, .int .i64 0, .bool false, .bool false, .int .i64 0, .int .i64 0, .int .i64 0, .int .i64 0, .bool false, .bool false, .bool false, .slice none 0 0, .int .i64 0, .slice none 0 0] 53))) (by omega))
  have hsz : W.heap.size = w.heap.size + 1 + 1 + 1 := by rw [hW]; simp
  have C0 : W.cell? ⟨w.heap.size + 1, 0, none⟩ = some (.int .i64 z) := by rw [hW]; exact (World.cell?_alloc_lt _ _ _ (by simp <;> omega)).trans (cell_alloc_newY (w.alloc (.cells (scrA s) 53)) (.int .i64 z) 3 (w.heap.size + 1) (by simp))
  have Z0 : RowS W (w.heap.size + 1 + 1) zeroS := by
    rw [hW]
    have h := RowS.new ((w.alloc (.cells (scrA s) 53)).alloc (.cells #[.int .i64 z] 3)) zeroS
    have e : ((w.alloc (.cells (scrA s) 53)).alloc (.cells #[.int .i64 z] 3)).heap.size = w.heap.size + 1 + 1 := by simp
    rw [e] at h; exact h
  have hoW := ho.below (Nat.le_refl _) H0
  have HC := Lib.hid (changed_Rune s W b (fun d => runeD d z) (.pointer (some ⟨w.heap.size + 1, 0, none⟩)) hoW hn (by
    intro hok W' B g t hb hB hN hO hg hd
    obtain ⟨wd, hh, X, Y, T, Bt, L, fit⟩ := ok_fit hok
    have e0 : W'.cell? ⟨w.heap.size + 1, 0, none⟩ = some (.int .i64 z) := (hb.cell (p := ⟨w.heap.size + 1, 0, none⟩) (by show w.heap.size + 1 < W.heap.size; omega)).trans C0
    have HM := Lib.hid (write_any t g B W' z hN hO (by rw [hd]; exact hok) hg)
    have HD := Lib.hid hd
    clear hO hN hd fit hb C0 H0 B0 Z0 hoW hW ho
    go_enter Try.func75, Try.ntmps75
    go_wp2_with fail
    refine HM.out.mono ?_
    rintro e v ⟨rfl, t2, hR, hO, hdd, hbb⟩
    have K := Lib.hid (show ∃ t', RowN v g t' ∧ OwnS v B t' ∧ t'.data = (fun d => runeD d z) s.data ∧ Below B W' v from ⟨t2, hR, hO, by rw [hdd, HD.out], hbb⟩)
    clear hR hO hdd hbb HM
    go_wp2_with fail
    go_end0
    exact ⟨rfl, K.out⟩))
  have H0' := Lib.hid H0
  have HZ := Lib.hid Z0
  have hone0 : One #[.int .i64 0, .int .i64 0, .int .i64 0, .int .i64 0, .slice none 0 0, .int .i64 0, .int .i64 0, .slice none 0 0, .bool false, .int .i64 0, .int .i64 0, .bool false, .int .i64 0, .int .i64 0, .bool false, .bool false, .bool false, .int .i64 0, .int .i64 0, .bool false, .bool false, .int .i64 0, .int .i64 0, .int .i64 0, .int .i64 0, .bool false, .bool false, .bool false, .slice none 0 0, .int .i64 0, .slice none 0 0] := one_scr zeroS
  have hsz' := hsz
  have row0 : rowOf (((w.alloc (.cells (scrA s) 53)).alloc (.cells #[.int .i64 z] 3)).alloc (.cells #[.int .i64 0, .int .i64 0, .int .i64 0, .int .i64 0, .slice none 0 0, .int .i64 0, .int .i64 0, .slice none 0 0, .bool false, .int .i64 0, .int .i64 0, .bool false, .int .i64 0, .int .i64 0, .bool false, .bool false, .bool false, .int .i64 0, .int .i64 0, .bool false, .bool false, .int .i64 0, .int .i64 0, .int .i64 0, .int .i64 0, .bool false, .bool false, .bool false, .slice none 0 0, .int .i64 0, .slice none 0 0] 53)) w.heap.size = scrA s := by rw [← hW]; exact B0.of
  have hmf : ∀ (fn : Fn) (first cap : Array Value) (w : World), (Instr.makeFunc fn first cap).run Try.prog w = .ok (.func fn first cap) w := fun _ _ _ _ => rfl
  rw [hW] at HC
  clear ho hn hoW H0 Z0 B0 C0
  go_enter Try.func30, Try.ntmps30
  go_wp2_with fail
  refine HC.out.mono ?_
  rintro e v1 ⟨t1, rfl, ho1, hd1, hb1⟩
  rw [← hW] at ho1 hb1
  have H1 := Lib.hid (H0'.out.trans (hb1.mono (by omega)))
  have Z1 := Lib.hid (HZ.out.below hb1 (by omega))
  have HO1 := Lib.hid ho1
  have HD1 := Lib.hid hd1
  have rz1 : RowZ v1 (w.heap.size + 1 + 1) 31 := RowZ.of Z1.out.row 31 rfl
  clear hb1 ho1 hd1 row0 HC H0' HZ
  go_wp2_with fail
  refine bodyPost_ret (v := .agg (scrA t1)) (res55 Try.results30 _ _ (w.heap.size + 1 + 1) _ (by simp) (Z1.out.row.setRow) rfl) rfl ⟨t1, rfl, ?_, HD1.out, ?_⟩
  · exact ((HO1.out.row_ _ _ (by omega)).more (by omega))
  · exact below_setRow H1.out (by omega) _
end Go.Proofs.Ythlpchojlddnbaa.Sc
