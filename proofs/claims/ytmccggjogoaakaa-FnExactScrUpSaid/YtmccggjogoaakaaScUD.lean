/- Words and lemmas, merged (once: ScUpS, ScDownS) -/
import Derived.Test.YtmccggjogoaakaaScCopy
import Derived.Test.YtmccggjogoaakaaKiO
import Derived.Test.YtmccggjogoaakaaKiD
import Derived.Test.YtmccggjogoaakaaGrSlide
import Derived.Test.YtmccggjogoaakaaKiP
import Derived.Deep.RegionHeld3
import Derived.IntWalk
namespace Go.Proofs.Ytmccggjogoaakaa.Sc
open Go.RowKit Go.Proofs.Ytmccggjogoaakaa.Bytes Go.Proofs.Ytmccggjogoaakaa.Rows_ Go.Proofs.Ytmccggjogoaakaa.RowK Go.Proofs.Ytmccggjogoaakaa.Gr Go.Proofs.Ytmccggjogoaakaa.DOk Go.Proofs.Ytmccggjogoaakaa.Opq Go.Proofs.Ytmccggjogoaakaa.Attr
set_option linter.unusedVariables false
attribute [local go_sem ↓] Sc.exec_storeS Sc.exec_loadS
attribute [local go_sem] rowOf_drew blkOf_ptr isHead_ptr aggN_agg setRow_alloc rowZ_at rowZ_past scrA_size one_scr rowOf_alloc_at rowOf_alloc_past
attribute [local go_sem] sa_w sa_h sa_mw sa_mh sa_M sa_aw sa_ah sa_A sa_onAlt sa_x sa_y sa_wrap sa_fg sa_bg sa_b sa_u sa_t sa_top sa_bot sa_noWrap sa_hide sa_sx sa_sy sa_sfg sa_sbg sa_sb sa_su sa_st sa_tabs sa_lim sa_rows
attribute [local go_sem] scr_at0 scr_at1 scr_at2 scr_at3 scr_at4 scr_at5 scr_at6 scr_at7 scr_at8 scr_at9 scr_at10 scr_at11 scr_at12 scr_at13 scr_at14 scr_at15 scr_at16 scr_at17 scr_at18 scr_at19 scr_at20 scr_at21 scr_at22 scr_at23 scr_at24 scr_at25 scr_at26 scr_at27 scr_at28 scr_at29 scr_at30
set_option maxRecDepth 100000 in
set_option maxHeartbeats 3200000 in
theorem spec_ScrUp_any (s : ScrS) (w : World) (b : Nat) (ho : OwnS w b s) (hn : szS s ≤ 1048576) :
    Calls Try.prog 27 #[.agg (scrA s)] w (AnsS (okF upD s.data) w) := by
  have hls : (shC s).cs.length ≤ 1048576 := by unfold shC; unfold szS at hn; cases s.onAlt <;> simp <;> omega
  have HGR0 := Lib.hid (show okD s.data = true → ∀ W, Below w.heap.size w W → Calls Try.prog 10 #[.agg #[.int .i64 (shW s), .int .i64 (shH s), .slice (shC s).A (shC s).cs.length (shC s).c], .int .i64 s.top, .int .i64 s.bot, .int .i64 (-1)] W (fun e w' => ∃ A c, e = .returned (.agg #[.int .i64 (shW s), .int .i64 (shH s), .slice A (rollC s.data s.top s.bot (-1)).length c]) ∧ OwnC w' W.heap.size A (rollC s.data s.top s.bot (-1)).length c (rollC s.data s.top s.bot (-1)) ∧ Below W.heap.size W w') from fun hok W h => by
    have hs := ho.below (Nat.le_refl _) h
    have hc : OwnC W b (shC s).A (shC s).cs.length (shC s).c (shC s).cs := by
      unfold shC
      cases s.onAlt
      · exact hs.m
      · exact hs.a
    have h2 := spec_GridRoll_own (shW s) (shH s) s.top s.bot (-1) hc hls
    rw [roll_ok hok] at h2
    exact h2)
  clear hls
  have H0 := Lib.hid (((Below.refl w.heap.size w).alloc (Nat.le_refl _) (.cells (scrA s) 45)).alloc (by simp) (.cells (scrA zeroS) 45))
  have B0 := Lib.hid (show RowS ((w.alloc (.cells (scrA s) 45)).alloc (.cells (scrA zeroS) 45)) w.heap.size s from (RowS.new w s).alloc _)
  have Z0 := Lib.hid (show RowS ((w.alloc (.cells (scrA s) 45)).alloc (.cells (scrA zeroS) 45)) (w.heap.size + 1) zeroS from by have h := RowS.new (w.alloc (.cells (scrA s) 45)) zeroS; simpa using h)
  have hone0 : One #[.int .i64 0, .int .i64 0, .int .i64 0, .int .i64 0, .slice none 0 0, .int .i64 0, .int .i64 0, .slice none 0 0, .bool false, .int .i64 0, .int .i64 0, .bool false, .int .i64 0, .int .i64 0, .bool false, .bool false, .bool false, .int .i64 0, .int .i64 0, .bool false, .bool false, .int .i64 0, .int .i64 0, .int .i64 0, .int .i64 0, .bool false, .bool false, .bool false, .slice none 0 0, .int .i64 0, .slice none 0 0] := one_scr zeroS
  have HO := Lib.hid (fun W (h : Below w.heap.size w W) => ho.below (Nat.le_refl _) h)
  have HOK := Lib.hid (fun W (h : Below w.heap.size w W) => spec_ScrOk_any s W (ho.below (Nat.le_refl _) h).rd hn)
  have HCP := Lib.hid (fun W (h : Below w.heap.size w W) => l09Copy_own s W b (ho.below (Nat.le_refl _) h) hn)
  clear ho
  have HN := Lib.hid hn
  clear hn
  cases hok : okD s.data
  · have HF := Lib.hid (okF_no (f := upD) hok)
    go_enter Try.func27, Try.ntmps27
    go_wp2_with fail
    refine (HOK.out _ H0.out).mono ?_
    rintro e v1 ⟨rfl, hb1⟩
    rw [hok]
    have Z1 := Lib.hid (Z0.out.below hb1 Z0.out.lt)
    have H1 := Lib.hid (H0.out.trans (hb1.mono (by simp; omega)))
    have rz1 : RowZ v1 (w.heap.size + 1) 31 := RowZ.of Z1.out.row 31 rfl
    clear hb1 B0 Z0 H0 HCP HO HOK
    go_wp2_with fail
    refine bodyPost_ret (v := .agg (scrA zeroS)) (res55 Try.results27 _ _ (w.heap.size + 1) _ (by simp) (Z1.out.row.setRow) rfl) rfl ⟨zeroS, rfl, ?_, ?_, ?_⟩
    · exact zeroS_own _ _
    · rw [HF.out]; rfl
    · exact below_setRow H1.out (by omega) _
  · have HF := Lib.hid (okF_yes (f := upD) hok)
    have HFIT := Lib.hid (ok_fit hok)
    have HGR := Lib.hid (HGR0.out hok)
    clear HGR0
    go_enter Try.func27, Try.ntmps27
    go_wp2_with fail
    refine (HOK.out _ H0.out).mono ?_
    rintro e v1 ⟨rfl, hb1⟩
    rw [hok]
    have B1 := Lib.hid (B0.out.below hb1 B0.out.lt)
    have Z1 := Lib.hid (Z0.out.below hb1 Z0.out.lt)
    have H1 := Lib.hid (H0.out.trans (hb1.mono (by simp; omega)))
    have row1 := B1.out.of
    clear hb1 B0 Z0 H0 HOK hok
    go_wp2_with fail
    refine (HCP.out _ H1.out).mono ?_
    rintro e v2 ⟨t, rfl, ho2, hd2, hb2⟩
    have B2 := Lib.hid (B1.out.below hb2 B1.out.lt)
    have Z2 := Lib.hid (Z1.out.below hb2 Z1.out.lt)
    have zz1 : w.heap.size + 1 < v1.heap.size := Z1.out.lt
    have H2 := Lib.hid (H1.out.trans (hb2.mono H1.out.size))
    have O2 := Lib.hid (ho2.more (base' := w.heap.size + 2) (by omega))
    have D2 := Lib.hid hd2
    have zz2 : w.heap.size + 1 < v2.heap.size := Z2.out.lt
    have zz2' : w.heap.size < v2.heap.size := by omega
    have rz2 : RowZ v2 (w.heap.size + 1) 31 := RowZ.of Z2.out.row 31 rfl
    clear hb2 ho2 hd2 B1 Z1 H1 HCP row1
    obtain ⟨W, H, X, Y, T, Bt, L, fit⟩ := HFIT.out
    have ey : s.y = (Y : Int) := fit.y
    have et : s.top = (T : Int) := fit.top
    have hy2 := fit.y2; have hh2 := fit.h2; have hh1 := fit.h1
    clear fit HFIT
    have k10 : v2.cell? ⟨w.heap.size, 10, none⟩ = some (.int .i64 s.y) := B2.out.cell 10
    have k17 : v2.cell? ⟨w.heap.size, 17, none⟩ = some (.int .i64 s.top) := B2.out.cell 17
    by_cases hyt : s.y = s.top
    · have HU := Lib.hid (show upD s.data = putD { s.data with wrap := false } (rollC s.data s.top s.bot (-1)) from by unfold upD; rw [if_pos (show s.data.y = s.data.top from hyt)]; rfl)
      obtain ⟨R, hR⟩ : ∃ R, R = rollC s.data s.top s.bot (-1) := ⟨_, rfl⟩
      have HRR := Lib.hid hR
      rw [← hR] at HGR HU
      clear hR ey et
      rw [hyt] at k10
      go_upto_region 6 with fail
      obtain ⟨w3, hw3⟩ : ∃ v, v = v2.alloc (.cells (scrA { t with wrap := false }) 45) := ⟨_, rfl⟩
      have HA := Lib.hid (show Below v2.heap.size v2 w3 from by rw [hw3]; exact (Below.refl _ _).alloc (Nat.le_refl _) _)
      have RO := Lib.hid (show RowS w3 v2.heap.size { t with wrap := false } from by rw [hw3]; exact RowS.new _ _)
      rw [← hw3]
      clear hw3 k10 k17
      have RS := Lib.hid (B2.out.below HA.out zz2')
      have Z3 := Lib.hid (Z2.out.below HA.out zz2)
      have H3 := Lib.hid (H2.out.trans (HA.out.mono H2.out.size))
      have O3 := Lib.hid (show OwnS w3 (w.heap.size + 2) { t with wrap := false } from by have h := O2.out.below (Nat.le_refl _) HA.out; exact ⟨h.c, h.t, h.r⟩)
      have z3 : v2.heap.size < w3.heap.size := RO.out.lt
      clear HA rz2 B2 Z2 H2 O2
      go_region_held3 (fun w' => rowOf w' w.heap.size = scrA s ∧ rowOf w' v2.heap.size = scrA { t with wrap := false } ∧ (w'.cell? ⟨w.heap.size, 17, none⟩ = some (.int .i64 s.top) ∧ w'.cell? ⟨w.heap.size, 18, none⟩ = some (.int .i64 s.bot))) (first | assumption | (exact ⟨RS.out.of, RO.out.of, RS.out.cell 17, RS.out.cell 18⟩) | (exact ⟨RS1.out.of, RO1.out.of, RS1.out.cell 17, RS1.out.cell 18⟩) | (exact ⟨RS2.out.of, RO2.out.of, RS2.out.cell 17, RS2.out.cell 18⟩) | (exact ⟨RS3.out.of, RO3.out.of, RS3.out.cell 17, RS3.out.cell 18⟩) | (exact ⟨(RS3.out.row_other (by omega)).of, (RO3.out.row_other (by omega)).of, (RS3.out.row_other (by omega)).cell 17, (RS3.out.row_other (by omega)).cell 18⟩) | go_keep) (first
        | (go_at_call 67; (with_reducible refine (l09Shown_any s _).mono ?_); rintro e y1 ⟨rfl, hb1'⟩; have hb1 : Below w3.heap.size w3 y1 := undrew hb1'; have z31 : v2.heap.size < y1.heap.size := Nat.lt_of_lt_of_le z3 hb1.size; have RS1 := Lib.hid (RS.out.below hb1 RS.out.lt); have RO1 := Lib.hid (RO.out.below hb1 RO.out.lt); have Z31 := Lib.hid (Z3.out.below hb1 Z3.out.lt); have H31 := Lib.hid (H3.out.trans (hb1.mono H3.out.size)); have O31 := Lib.hid (O3.out.below (Nat.le_refl _) hb1); clear hb1 hb1')
        | (go_at_call 10; (with_reducible refine (HGR.out _ H31.out).mono ?_); rintro e y2 ⟨A9, c9, rfl, ho9, hb2⟩; have z32 : v2.heap.size < y2.heap.size := Nat.lt_of_lt_of_le z31 hb2.size; have RS2 := Lib.hid (RS1.out.below hb2 RS1.out.lt); have RO2 := Lib.hid (RO1.out.below hb2 RO1.out.lt); have Z32 := Lib.hid (Z31.out.below hb2 Z31.out.lt); have H32 := Lib.hid (H31.out.trans (hb2.mono H31.out.size)); have O32 := Lib.hid (own_put (gw := shW s) (gh := shH s) O31.out hb2 ho9 (by omega)); clear hb2 ho9)
        | (go_at_call 71; (with_reducible refine (l09Put_any { t with wrap := false } (shW s) (shH s) A9 c9 R _).mono ?_); rintro e y3 ⟨rfl, hb3⟩; have RS3 := Lib.hid (RS2.out.below hb3 RS2.out.lt); have RO3 := Lib.hid (RO2.out.below hb3 RO2.out.lt); have Z33 := Lib.hid (Z32.out.below hb3 Z32.out.lt); have H33 := Lib.hid (H32.out.trans (hb3.mono H32.out.size)); have O33 := Lib.hid (O32.out.below (Nat.le_refl _) hb3); have rz33 : RowZ y3 (w.heap.size + 1) 31 := RowZ.of Z33.out.row 31 rfl; clear hb3))
      all_goals
        go_wp2_with fail
        refine bodyPost_ret (v := .agg (scrA (putS { t with wrap := false } (shW s) (shH s) ⟨A9, c9, R⟩))) (res55 Try.results27 _ _ (w.heap.size + 1) _ (by simp) (Z33.out.row.setRow) rfl) rfl ⟨_, rfl, ?_, ?_, ?_⟩
        · exact ((O33.out.row_ _ _ (by omega)).more (by omega))
        · rw [HF.out, HU.out, ← D2.out]
          exact put_data' D2.out
        · exact below_setRow H33.out (by omega) _
    · clear HGR
      by_cases hp : 0 < s.y
      · have HU := Lib.hid (show upD s.data = { s.data with wrap := false, y := (Y : Int) - 1 } from by unfold upD; rw [if_neg (show ¬ s.data.y = s.data.top from hyt)]; congr 1; show max (s.y - 1) 0 = _; rw [ey]; omega)
        have ety : t.y = (Y : Int) := (congrArg ScrD.y D2.out).trans ey
        rw [ey] at k10
        rw [et] at k17
        rw [ey, et] at hyt
        rw [ey] at hp
        clear ey et
        go_wp2_with fail
        refine bodyPost_ret (v := .agg (scrA { t with y := (Y : Int) - 1, wrap := false })) (res55 Try.results27 _ _ (w.heap.size + 1) _ (by simp) ((Z2.out.alloc _).row.setRow) rfl) rfl ⟨{ t with y := (Y : Int) - 1, wrap := false }, rfl, ?_, ?_, ?_⟩
        · have h := ((O2.out.below (Nat.le_refl _) ((Below.refl v2.heap.size v2).alloc (Nat.le_refl _) (.cells (scrA { t with y := (Y : Int) - 1, wrap := false }) 45))).row_ (w.heap.size + 1) (scrA { t with y := (Y : Int) - 1, wrap := false }) (by omega)).more (base' := w.heap.size) (by omega)
          exact ⟨h.c, h.t, h.r⟩
        · rw [HF.out, HU.out, ← D2.out]; rfl
        · exact below_setRow (H2.out.alloc H2.out.size _) (by omega) _
      · have HU := Lib.hid (show upD s.data = { s.data with wrap := false, y := s.data.y } from by unfold upD; rw [if_neg (show ¬ s.data.y = s.data.top from hyt)]; congr 1; show max (s.y - 1) 0 = _; show _ = s.y; omega)
        rw [ey] at k10
        rw [et] at k17
        rw [ey, et] at hyt
        rw [ey] at hp
        clear ey et
        go_wp2_with fail
        refine bodyPost_ret (v := .agg (scrA { t with wrap := false })) (res55 Try.results27 _ _ (w.heap.size + 1) _ (by simp) ((Z2.out.alloc _).row.setRow) rfl) rfl ⟨{ t with wrap := false }, rfl, ?_, ?_, ?_⟩
        · have h := ((O2.out.below (Nat.le_refl _) ((Below.refl v2.heap.size v2).alloc (Nat.le_refl _) (.cells (scrA { t with wrap := false }) 45))).row_ (w.heap.size + 1) (scrA { t with wrap := false }) (by omega)).more (base' := w.heap.size) (by omega)
          exact ⟨h.c, h.t, h.r⟩
        · rw [HF.out, HU.out, ← D2.out]; rfl
        · exact below_setRow (H2.out.alloc H2.out.size _) (by omega) _
end Go.Proofs.Ytmccggjogoaakaa.Sc
namespace Go.Proofs.Ytmccggjogoaakaa.Sc
open Go.RowKit Go.Proofs.Ytmccggjogoaakaa.Bytes Go.Proofs.Ytmccggjogoaakaa.Rows_ Go.Proofs.Ytmccggjogoaakaa.RowK Go.Proofs.Ytmccggjogoaakaa.Gr Go.Proofs.Ytmccggjogoaakaa.DOk Go.Proofs.Ytmccggjogoaakaa.Opq Go.Proofs.Ytmccggjogoaakaa.Attr
set_option linter.unusedVariables false
attribute [local go_sem ↓] Sc.exec_storeS Sc.exec_loadS
attribute [local go_sem] rowOf_drew blkOf_ptr isHead_ptr aggN_agg setRow_alloc rowZ_at rowZ_past scrA_size one_scr rowOf_alloc_at rowOf_alloc_past
attribute [local go_sem] sa_w sa_h sa_mw sa_mh sa_M sa_aw sa_ah sa_A sa_onAlt sa_x sa_y sa_wrap sa_fg sa_bg sa_b sa_u sa_t sa_top sa_bot sa_noWrap sa_hide sa_sx sa_sy sa_sfg sa_sbg sa_sb sa_su sa_st sa_tabs sa_lim sa_rows
attribute [local go_sem] scr_at0 scr_at1 scr_at2 scr_at3 scr_at4 scr_at5 scr_at6 scr_at7 scr_at8 scr_at9 scr_at10 scr_at11 scr_at12 scr_at13 scr_at14 scr_at15 scr_at16 scr_at17 scr_at18 scr_at19 scr_at20 scr_at21 scr_at22 scr_at23 scr_at24 scr_at25 scr_at26 scr_at27 scr_at28 scr_at29 scr_at30
/-- what a function leaves that answers a screen out of its argument's memory -/
theorem RowS.ne {w : World} {b base K n : Nat} {s : ScrS} {E : TypeId} {v : Value} {xs : List Value} (h : RowS w b s) (h' : w.ownsRow base E K v n xs) (hE : E ≠ 45) : v.ownBlock ≠ some b := by
  intro e
  rcases h'.2 with ⟨rfl, _⟩ | ⟨g, cap, cur, rfl, _, hg, _⟩
  · cases e
  · simp [Value.ownBlock] at e; subst e
    unfold RowS at h; rw [hg] at h; injection h with h; injection h with h1 h2; exact hE h2
theorem RowS.apart {w : World} {b base : Nat} {s t : ScrS} (h : RowS w b s) (h' : OwnS w base t) : ¬ SS t b := by
  rintro (⟨r, hr, hi⟩ | hi | hi)
  · exact h.ne (h'.c.1 r hr) (by decide) hi
  · exact h.ne h'.t (by decide) hi
  · rcases h'.r.2 with ⟨e, _⟩ | ⟨g, p, cur, e, _, hg, _⟩
    · rw [e] at hi; cases hi
    · rw [e] at hi
      simp [Value.ownBlock] at hi; subst hi
      unfold RowS at h; rw [hg] at h; injection h with h; injection h with h1 h2; exact absurd h2 (by decide)
end Go.Proofs.Ytmccggjogoaakaa.Sc

