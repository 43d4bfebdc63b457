/- spec.ScrGo: the cursor moved, in the model. -/
import Derived.Test.YthlpchojlddnbaaScCopy
import Derived.Test.YthlpchojlddnbaaKiO
import Derived.Test.YthlpchojlddnbaaKiD
import Derived.Test.YthlpchojlddnbaaGrSlide
namespace Go.Proofs.Ythlpchojlddnbaa.Sc
open Go.RowKit Go.Proofs.Ythlpchojlddnbaa.Bytes Go.Proofs.Ythlpchojlddnbaa.Rows_ Go.Proofs.Ythlpchojlddnbaa.RowK Go.Proofs.Ythlpchojlddnbaa.Gr Go.Proofs.Ythlpchojlddnbaa.DOk Go.Proofs.Ythlpchojlddnbaa.Opq Go.Proofs.Ythlpchojlddnbaa.Attr
set_option linter.unusedVariables false
attribute [local go_sem ↓] Sc.exec_storeS Sc.exec_loadS
attribute [local go_sem] blkOf_ptr isHead_ptr aggN_agg setRow_alloc rowZ_at rowZ_past scrA_size one_scr rowOf_alloc_at rowOf_alloc_past
attribute [local go_sem] sa_w sa_h sa_mw sa_mh sa_M sa_aw sa_ah sa_A sa_onAlt sa_x sa_y sa_wrap sa_fg sa_bg sa_b sa_u sa_t sa_top sa_bot sa_noWrap sa_hide sa_sx sa_sy sa_sfg sa_sbg sa_sb sa_su sa_st sa_tabs sa_lim sa_rows
attribute [local go_sem] scr_at0 scr_at1 scr_at2 scr_at3 scr_at4 scr_at5 scr_at6 scr_at7 scr_at8 scr_at9 scr_at10 scr_at11 scr_at12 scr_at13 scr_at14 scr_at15 scr_at16 scr_at17 scr_at18 scr_at19 scr_at20 scr_at21 scr_at22 scr_at23 scr_at24 scr_at25 scr_at26 scr_at27 scr_at28 scr_at29 scr_at30
theorem l02Clamp_anyS (k m : Int) (hm : 0 ≤ m) (w : World) : Calls Try.prog 82 #[.int .i64 k, .int .i64 m] w fun e w' => e = .returned (.int .i64 (clampD k m)) ∧ w = w' := by
  by_cases h1 : k < 0
  · have HE := Lib.hid (show clampD k m = 0 by unfold clampD clampV; rw [if_pos h1])
    go_enter Try.func82, Try.ntmps82
    go_wp2_with fail
    go_ret
    exact ⟨ret_int HE.out.symm, rfl⟩
  · by_cases h2 : m < k
    · have HE := Lib.hid (show clampD k m = m by unfold clampD clampV; rw [if_neg h1, if_pos h2])
      go_enter Try.func82, Try.ntmps82
      go_wp2_with fail
      go_ret
      exact ⟨ret_int HE.out.symm, rfl⟩
    · have HE := Lib.hid (show clampD k m = k by unfold clampD clampV; rw [if_neg h1, if_neg h2])
      go_enter Try.func82, Try.ntmps82
      go_wp2_with fail
      go_ret
      exact ⟨ret_int HE.out.symm, rfl⟩
theorem go_data {t : ScrS} {W H x y : Int} (hw : t.w = W) (hh : t.h = H) : ({ t with x := clampD x (W - 1), y := clampD y (H - 1), wrap := false } : ScrS).data = goD t.data x y := by subst hw hh; rfl
theorem l09Copy_own (s : ScrS) (w : World) (b : Nat) (ho : OwnS w b s) (hn : szS s ≤ 1048576) : Calls Try.prog 60 #[.agg (scrA s)] w (AnsS s.data w) :=
  l09Copy_any s w ho.rd hn ⟨own_noneK ho.m, own_noneK ho.a, own_noneK ho.t, fun r hr => own_noneK (ho.rows.1 r hr)⟩
set_option maxRecDepth 100000 in
set_option maxHeartbeats 3200000 in
theorem spec_ScrGo_any (s : ScrS) (w : World) (b : Nat) (x y : Int) (ho : OwnS w b s) (hn : szS s ≤ 1048576) :
    Calls Try.prog 77 #[.agg (scrA s), .int .i64 x, .int .i64 y] w (AnsS (okF (fun d => goD d x y) s.data) w) := by
  have H0 := Lib.hid (((Below.refl w.heap.size w).alloc (Nat.le_refl _) (.cells (scrA s) 53)).alloc (by simp) (.cells (scrA zeroS) 53))
  have B0 := Lib.hid (show RowS ((w.alloc (.cells (scrA s) 53)).alloc (.cells (scrA zeroS) 53)) w.heap.size s from (RowS.new w s).alloc _)
  have Z0 := Lib.hid (show RowS ((w.alloc (.cells (scrA s) 53)).alloc (.cells (scrA zeroS) 53)) (w.heap.size + 1) zeroS from by have h := RowS.new (w.alloc (.cells (scrA s) 53)) zeroS; simpa using h)
  have hone0 : One #[.int .i64 0, .int .i64 0, .int .i64 0, .int .i64 0, .slice none 0 0, .int .i64 0, .int .i64 0, .slice none 0 0, .bool false, .int .i64 0, .int .i64 0, .bool false, .int .i64 0, .int .i64 0, .bool false, .bool false, .bool false, .int .i64 0, .int .i64 0, .bool false, .bool false, .int .i64 0, .int .i64 0, .int .i64 0, .int .i64 0, .bool false, .bool false, .bool false, .slice none 0 0, .int .i64 0, .slice none 0 0] := one_scr zeroS
  have HO := Lib.hid (fun W (h : Below w.heap.size w W) => ho.below (Nat.le_refl _) h)
  have HOK := Lib.hid (fun W (h : Below w.heap.size w W) => spec_ScrOk_any s W (ho.below (Nat.le_refl _) h).rd hn)
  have HCP := Lib.hid (fun W (h : Below w.heap.size w W) => l09Copy_own s W b (ho.below (Nat.le_refl _) h) hn)
  clear ho
  have HN := Lib.hid hn
  clear hn
  cases hok : okD s.data
  · have HF := Lib.hid (okF_no (f := (fun d => goD d x y)) hok)
    go_enter Try.func77, Try.ntmps77
    go_wp2_with fail
    refine (HOK.out _ H0.out).mono ?_
    rintro e v1 ⟨rfl, hb1⟩
    rw [hok]
    have Z1 := Lib.hid (Z0.out.below hb1 Z0.out.lt)
    have H1 := Lib.hid (H0.out.trans (hb1.mono (by simp; omega)))
    have rz1 : RowZ v1 (w.heap.size + 1) 31 := RowZ.of Z1.out.row 31 rfl
    clear hb1 B0 Z0 H0 HCP HO HOK
    go_wp2_with fail
    refine bodyPost_ret (v := .agg (scrA zeroS)) (res55 Try.results77 _ _ (w.heap.size + 1) _ (by simp) (Z1.out.row.setRow) rfl) rfl ⟨zeroS, rfl, ?_, ?_, ?_⟩
    · exact zeroS_own _ _
    · rw [HF.out]; rfl
    · exact below_setRow H1.out (by omega) _
  · have HF := Lib.hid (okF_yes (f := (fun d => goD d x y)) hok)
    have HFIT := Lib.hid (ok_fit hok)
    go_enter Try.func77, Try.ntmps77
    go_wp2_with fail
    refine (HOK.out _ H0.out).mono ?_
    rintro e v1 ⟨rfl, hb1⟩
    rw [hok]
    have B1 := Lib.hid (B0.out.below hb1 B0.out.lt)
    have Z1 := Lib.hid (Z0.out.below hb1 Z0.out.lt)
    have H1 := Lib.hid (H0.out.trans (hb1.mono (by simp; omega)))
    have row1 := B1.out.of
    clear hb1 B0 Z0 H0 HOK hok
    go_wp2_with fail
    refine (HCP.out _ H1.out).mono ?_
    rintro e v2 ⟨t, rfl, ho2, hd2, hb2⟩
    have B2 := Lib.hid (B1.out.below hb2 B1.out.lt)
    have Z2 := Lib.hid (Z1.out.below hb2 Z1.out.lt)
    have zz1 : w.heap.size + 1 < v1.heap.size := Z1.out.lt
    have H2 := Lib.hid (H1.out.trans (hb2.mono H1.out.size))
    have O2 := Lib.hid (ho2.more (base' := w.heap.size + 2) (by omega))
    have D2 := Lib.hid hd2
    have zz2 : w.heap.size + 1 < v2.heap.size := Z2.out.lt
    have zz2' : w.heap.size < v2.heap.size := by omega
    have rz2 : RowZ v2 (w.heap.size + 1) 31 := RowZ.of Z2.out.row 31 rfl
    clear hb2 ho2 hd2 B1 Z1 H1 HCP row1
    obtain ⟨W, H, X, Y, T, Bt, L, fit⟩ := HFIT.out
    have ew : s.w = (W : Int) := fit.w
    have eh : s.h = (H : Int) := fit.h
    have hw1 := fit.w1; have hw2 := fit.w2; have hh1 := fit.h1; have hh2 := fit.h2
    clear fit HFIT
    have k0 : v2.cell? ⟨w.heap.size, 0, none⟩ = some (.int .i64 (W : Int)) := by rw [← ew]; exact B2.out.cell 0
    have k1 : v2.cell? ⟨w.heap.size, 1, none⟩ = some (.int .i64 (H : Int)) := by rw [← eh]; exact B2.out.cell 1
    go_wp2_with fail
    refine (l02Clamp_anyS x ((W : Int) - 1) (by omega) _).mono ?_
    rintro e v3 ⟨rfl, rfl⟩
    go_wp2_with fail
    refine (l02Clamp_anyS y ((H : Int) - 1) (by omega) _).mono ?_
    rintro e v3 ⟨rfl, rfl⟩
    go_wp2_with fail
    refine bodyPost_ret (v := .agg (scrA { t with x := clampD x ((W : Int) - 1), y := clampD y ((H : Int) - 1), wrap := false })) (res55 Try.results77 _ _ (w.heap.size + 1) _ (by simp) ((Z2.out.alloc _).row.setRow) rfl) rfl ⟨_, rfl, ?_, ?_, ?_⟩
    · have h := ((O2.out.below (Nat.le_refl _) ((Below.refl v2.heap.size v2).alloc (Nat.le_refl _) (.cells (scrA { t with x := clampD x ((W : Int) - 1), y := clampD y ((H : Int) - 1), wrap := false }) 53))).row_ (w.heap.size + 1) (scrA { t with x := clampD x ((W : Int) - 1), y := clampD y ((H : Int) - 1), wrap := false }) (by omega)).more (base' := w.heap.size) (by omega)
      exact ⟨h.c, h.t, h.r⟩
    · rw [HF.out, ← D2.out]
      exact go_data (by rw [← ew]; exact congrArg ScrD.w D2.out) (by rw [← eh]; exact congrArg ScrD.h D2.out)
    · exact below_setRow (H2.out.alloc H2.out.size _) (by omega) _
end Go.Proofs.Ythlpchojlddnbaa.Sc

