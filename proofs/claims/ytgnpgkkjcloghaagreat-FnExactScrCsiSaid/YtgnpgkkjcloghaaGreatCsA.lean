/- The arguments of a control sequence, and the sequences that move the cursor, in the program. -/
import Derived.Test.YtgnpgkkjcloghaaGreatCsD
set_option maxRecDepth 100000
set_option maxHeartbeats 3200000
set_option linter.unusedVariables false
namespace Go.Proofs.YtgnpgkkjcloghaaGreat.Sc
open Lib
open Go.RowKit Bytes Rows_ RowK Gr DOk Opq Attr
attribute [local go_sem ↓] Sc.exec_storeS Sc.exec_loadS
attribute [local go_sem] blkOf_ptr isHead_ptr aggN_agg setRow_alloc rowZ_at rowZ_past scrA_size nsA_size one_scr rowOf_alloc_at rowOf_alloc_past rowOf_drew ns_pre
attribute [local go_sem] sa_w sa_h sa_mw sa_mh sa_M sa_aw sa_ah sa_A sa_onAlt sa_x sa_y sa_wrap sa_fg sa_bg sa_b sa_u sa_t sa_top sa_bot sa_noWrap sa_hide sa_sx sa_sy sa_sfg sa_sbg sa_sb sa_su sa_st sa_tabs sa_lim sa_rows
attribute [local go_sem] ns_w ns_h ns_mw ns_mh ns_M ns_aw ns_ah ns_A ns_onAlt ns_x ns_y ns_wrap ns_fg ns_bg ns_b ns_u ns_t ns_top ns_bot ns_noWrap ns_hide ns_sx ns_sy ns_sfg ns_sbg ns_sb ns_su ns_st ns_tabs ns_lim ns_rows
attribute [local go_sem] ns_at0 ns_at1 ns_at2 ns_at3 ns_at4 ns_at5 ns_at6 ns_at7 ns_at8 ns_at9 ns_at10 ns_at11 ns_at12 ns_at13 ns_at14 ns_at15 ns_at16 ns_at17 ns_at18 ns_at19 ns_at20 ns_at21 ns_at22 ns_at23 ns_at24 ns_at25 ns_at26 ns_at27 ns_at28 ns_at29 ns_at30 ns_at31 ns_at32 ns_at33 ns_at34 ns_at35 ns_at36 ns_at37
attribute [local go_sem] scr_at0 scr_at1 scr_at2 scr_at3 scr_at4 scr_at5 scr_at6 scr_at7 scr_at8 scr_at9 scr_at10 scr_at11 scr_at12 scr_at13 scr_at14 scr_at15 scr_at16 scr_at17 scr_at18 scr_at19 scr_at20 scr_at21 scr_at22 scr_at23 scr_at24 scr_at25 scr_at26 scr_at27 scr_at28 scr_at29 scr_at30
theorem at_any (A : Option Addr) (n c : Nat) (zs : List Int) (i : Nat) (o : Int) (w : World) (hr : RdI w w.heap.size A zs) (hl : zs.length = n) (hn : n ≤ 8) (hi : i ≤ 1) :
    Calls Tryz.prog 155 #[.slice A n c, .int .i64 (i : Int), .int .i64 o] w fun e w' => e = .returned (.int .i64 (argV zs i o)) ∧ w = w' := by
  by_cases hlt : i < n
  · have hlf : i < zs.length := by omega
    obtain ⟨b, off, rfl, hB, hc⟩ := hr.at_ hlf
    have hlt' : (i : Int) < (n : Int) := by omega
    have hge : ¬ (n : Int) ≤ (i : Int) := by omega
    have hgd : decide ((n : Int) ≤ (i : Int)) = false := decide_eq_false hge
    have HV := hid (show argV zs i o = if zs[i] = 0 then o else zs[i] by unfold argV; rw [List.getElem?_eq_getElem hlf])
    generalize zs[i] = z at *
    clear hr hl hlf
    by_cases hz : z = 0
    · subst hz
      have HE := hid (show argV zs i o = o by rw [HV.out, if_pos rfl])
      clear HV
      go_enter Tryz.func155, Tryz.ntmps155
      go_wp2_with fail
      go_ret
      exact ⟨ret_int HE.out.symm, rfl⟩
    · have HE := hid (show argV zs i o = z by rw [HV.out, if_neg hz])
      have hzb : (z == 0) = false := by simpa using hz
      clear HV hz
      go_enter Tryz.func155, Tryz.ntmps155
      go_wp2_with fail
      go_ret
      exact ⟨ret_int HE.out.symm, rfl⟩
  · have hge : (n : Int) ≤ (i : Int) := by omega
    have hgd : decide ((n : Int) ≤ (i : Int)) = true := decide_eq_true hge
    have HE := hid (show argV zs i o = o by unfold argV; rw [List.getElem?_eq_none (by omega)])
    clear hr hl
    go_enter Tryz.func155, Tryz.ntmps155
    go_wp2_with fail
    go_ret
    exact ⟨ret_int HE.out.symm, rfl⟩
theorem first_any (A : Option Addr) (n c : Nat) (zs : List Int) (o : Int) (w : World) (hr : RdI w w.heap.size A zs) (hl : zs.length = n) (hn : n ≤ 8) :
    Calls Tryz.prog 116 #[.slice A n c, .int .i64 o] w fun e w' => e = .returned (.int .i64 (argV zs 0 o)) ∧ w = w' := by
  have HA := hid (show Calls Tryz.prog 155 #[.slice A n c, .int .i64 0, .int .i64 o] w fun e w' => e = .returned (.int .i64 (argV zs 0 o)) ∧ w = w' from at_any A n c zs 0 o w hr hl hn (by omega))
  clear hr hl
  go_enter Tryz.func116, Tryz.ntmps116
  go_wp2_with fail
  refine HA.out.mono ?_
  rintro e v ⟨rfl, rfl⟩
  go_wp2_with fail
  go_ret
  exact ⟨rfl, rfl⟩
theorem second_any (A : Option Addr) (n c : Nat) (zs : List Int) (o : Int) (w : World) (hr : RdI w w.heap.size A zs) (hl : zs.length = n) (hn : n ≤ 8) :
    Calls Tryz.prog 156 #[.slice A n c, .int .i64 o] w fun e w' => e = .returned (.int .i64 (argV zs 1 o)) ∧ w = w' := by
  have HA := hid (show Calls Tryz.prog 155 #[.slice A n c, .int .i64 1, .int .i64 o] w fun e w' => e = .returned (.int .i64 (argV zs 1 o)) ∧ w = w' from at_any A n c zs 1 o w hr hl hn (by omega))
  clear hr hl
  go_enter Tryz.func156, Tryz.ntmps156
  go_wp2_with fail
  refine HA.out.mono ?_
  rintro e v ⟨rfl, rfl⟩
  go_wp2_with fail
  go_ret
  exact ⟨rfl, rfl⟩
structure SqIn (t : ScrS) (g B : Nat) (A : Option Addr) (n c : Nat) (zs : List Int) (w : World) : Prop where
  r : RowN w g t
  o : OwnS w B t
  k : okD t.data = true
  B : B ≤ g
  a : RdI w w.heap.size A zs
  l : zs.length = n
  z : argB zs = true
theorem SqIn.n {t : ScrS} {g B n c : Nat} {A : Option Addr} {zs : List Int} {w : World} (h : SqIn t g B A n c zs w) : n ≤ 8 := by have := (argB_t h.z).1; have := h.l; omega
theorem move_end {t : ScrS} {g B : Nat} {w v : World} {x y : Int} {d : ScrD} (hg : RowN w g t) (ho : OwnS w B t) (hB : B ≤ g) (hR : RowN v g { t with x := clampD x (t.w - 1), y := clampD y (t.h - 1), wrap := false }) (hon : Only (fun i => i = g) w v) (hd : d = goD t.data x y) :
    ∃ t', RowN v g t' ∧ OwnS v B t' ∧ t'.data = d ∧ Below B w v := by
  have h := ho.only hon (fun i hi e => hg.apart ho (e ▸ hi))
  exact ⟨_, hR, ⟨h.c, h.t, h.r⟩, hd.symm ▸ rfl, Only.below_ hon (Below.refl B _) (by have := hg.lt; omega) (fun i hi => by subst hi; exact hB)⟩
theorem seq1_any (t : ScrS) (g B : Nat) (A : Option Addr) (n c : Nat) (zs : List Int) (w : World) (h : SqIn t g B A n c zs w) :
    Calls Tryz.prog 115 #[.pointer (some ⟨g, 0, none⟩), .slice A n c] w (Mth B g (goD t.data (t.x) (t.y - argV zs 0 1)) w) := by
  have HN := hid h.r
  have HO := hid h.o
  have hB := h.B
  obtain ⟨W, H, X, Y, T, Bt, L, fit⟩ := ok_fit h.k
  have ew : t.w = (W : Int) := fit.w
  have eh : t.h = (H : Int) := fit.h
  have ex : t.x = (X : Int) := fit.x
  have ey : t.y = (Y : Int) := fit.y
  have q1 := fit.w1; have q2 := fit.w2; have q3 := fit.h1; have q4 := fit.h2; have q5 := fit.x2; have q6 := fit.y2
  have hk1 := argV_bd h.z 0 (o := 1) (lo := 1) (hi := 9999) (by omega) (by omega) (by omega) (by omega)
  have hfi := first_any A n c zs 1 w.drew h.a h.l h.n
  obtain ⟨k1, hk⟩ : ∃ k1, k1 = argV zs 0 1 := ⟨_, rfl⟩
  rw [← hk] at hk1 hfi
  have HF := hid hfi
  have k9 : w.cell? ⟨g, 9, none⟩ = some (.int .i64 (X : Int)) := by rw [← ex]; exact h.r.cell 9
  have k10 : w.cell? ⟨g, 10, none⟩ = some (.int .i64 (Y : Int)) := by rw [← ey]; exact h.r.cell 10
  have e0 : IntKind.i64.wrap ((Y : Int) - k1) = (Y : Int) - k1 := IntWalk.i64_in _ (by omega)
  have HM := hid (fun V (h : RowN V g t) => moveTo_any t g ((X : Int)) ((Y : Int) - k1) V h (by omega) (by omega) (by omega) (by omega))
  have HD := hid (show goD t.data (t.x) (t.y - argV zs 0 1) = goD t.data ((X : Int)) ((Y : Int) - k1) by rw [hk]; (try rw [ex]); (try rw [ey]))
  clear h ew eh ex ey fit hk hfi
  go_enter Tryz.func115, Tryz.ntmps115
  go_upto_region 0 with fail
  go_region_law (first
    | (go_simp; go_at_call 116; (with_reducible refine HF.out.mono ?_); rintro e v0 ⟨rfl, rfl⟩)
    | (go_simp; go_at_call 96; (with_reducible refine (HM.out _ HN.out.drew).mono ?_); rintro e v ⟨rfl, hR, hon⟩; have HR := hid hR; have HON := hid (only_undrew hon); clear hR hon))
  all_goals
    clear HM HF
    go_wp2_with fail
    go_end0
    exact ⟨rfl, move_end HN.out HO.out hB HR.out HON.out HD.out⟩
theorem seq2_any (t : ScrS) (g B : Nat) (A : Option Addr) (n c : Nat) (zs : List Int) (w : World) (h : SqIn t g B A n c zs w) :
    Calls Tryz.prog 117 #[.pointer (some ⟨g, 0, none⟩), .slice A n c] w (Mth B g (goD t.data (t.x) (t.y + argV zs 0 1)) w) := by
  have HN := hid h.r
  have HO := hid h.o
  have hB := h.B
  obtain ⟨W, H, X, Y, T, Bt, L, fit⟩ := ok_fit h.k
  have ew : t.w = (W : Int) := fit.w
  have eh : t.h = (H : Int) := fit.h
  have ex : t.x = (X : Int) := fit.x
  have ey : t.y = (Y : Int) := fit.y
  have q1 := fit.w1; have q2 := fit.w2; have q3 := fit.h1; have q4 := fit.h2; have q5 := fit.x2; have q6 := fit.y2
  have hk1 := argV_bd h.z 0 (o := 1) (lo := 1) (hi := 9999) (by omega) (by omega) (by omega) (by omega)
  have hfi := first_any A n c zs 1 w.drew h.a h.l h.n
  obtain ⟨k1, hk⟩ : ∃ k1, k1 = argV zs 0 1 := ⟨_, rfl⟩
  rw [← hk] at hk1 hfi
  have HF := hid hfi
  have k9 : w.cell? ⟨g, 9, none⟩ = some (.int .i64 (X : Int)) := by rw [← ex]; exact h.r.cell 9
  have k10 : w.cell? ⟨g, 10, none⟩ = some (.int .i64 (Y : Int)) := by rw [← ey]; exact h.r.cell 10
  have e0 : IntKind.i64.wrap ((Y : Int) + k1) = (Y : Int) + k1 := IntWalk.i64_in _ (by omega)
  have HM := hid (fun V (h : RowN V g t) => moveTo_any t g ((X : Int)) ((Y : Int) + k1) V h (by omega) (by omega) (by omega) (by omega))
  have HD := hid (show goD t.data (t.x) (t.y + argV zs 0 1) = goD t.data ((X : Int)) ((Y : Int) + k1) by rw [hk]; (try rw [ex]); (try rw [ey]))
  clear h ew eh ex ey fit hk hfi
  go_enter Tryz.func117, Tryz.ntmps117
  go_upto_region 0 with fail
  go_region_law (first
    | (go_simp; go_at_call 116; (with_reducible refine HF.out.mono ?_); rintro e v0 ⟨rfl, rfl⟩)
    | (go_simp; go_at_call 96; (with_reducible refine (HM.out _ HN.out.drew).mono ?_); rintro e v ⟨rfl, hR, hon⟩; have HR := hid hR; have HON := hid (only_undrew hon); clear hR hon))
  all_goals
    clear HM HF
    go_wp2_with fail
    go_end0
    exact ⟨rfl, move_end HN.out HO.out hB HR.out HON.out HD.out⟩
theorem seq3_any (t : ScrS) (g B : Nat) (A : Option Addr) (n c : Nat) (zs : List Int) (w : World) (h : SqIn t g B A n c zs w) :
    Calls Tryz.prog 118 #[.pointer (some ⟨g, 0, none⟩), .slice A n c] w (Mth B g (goD t.data (t.x + argV zs 0 1) (t.y)) w) := by
  have HN := hid h.r
  have HO := hid h.o
  have hB := h.B
  obtain ⟨W, H, X, Y, T, Bt, L, fit⟩ := ok_fit h.k
  have ew : t.w = (W : Int) := fit.w
  have eh : t.h = (H : Int) := fit.h
  have ex : t.x = (X : Int) := fit.x
  have ey : t.y = (Y : Int) := fit.y
  have q1 := fit.w1; have q2 := fit.w2; have q3 := fit.h1; have q4 := fit.h2; have q5 := fit.x2; have q6 := fit.y2
  have hk1 := argV_bd h.z 0 (o := 1) (lo := 1) (hi := 9999) (by omega) (by omega) (by omega) (by omega)
  have hfi := first_any A n c zs 1 w.drew h.a h.l h.n
  obtain ⟨k1, hk⟩ : ∃ k1, k1 = argV zs 0 1 := ⟨_, rfl⟩
  rw [← hk] at hk1 hfi
  have HF := hid hfi
  have k9 : w.cell? ⟨g, 9, none⟩ = some (.int .i64 (X : Int)) := by rw [← ex]; exact h.r.cell 9
  have k10 : w.cell? ⟨g, 10, none⟩ = some (.int .i64 (Y : Int)) := by rw [← ey]; exact h.r.cell 10
  have e0 : IntKind.i64.wrap ((X : Int) + k1) = (X : Int) + k1 := IntWalk.i64_in _ (by omega)
  have HM := hid (fun V (h : RowN V g t) => moveTo_any t g ((X : Int) + k1) ((Y : Int)) V h (by omega) (by omega) (by omega) (by omega))
  have HD := hid (show goD t.data (t.x + argV zs 0 1) (t.y) = goD t.data ((X : Int) + k1) ((Y : Int)) by rw [hk]; (try rw [ex]); (try rw [ey]))
  clear h ew eh ex ey fit hk hfi
  go_enter Tryz.func118, Tryz.ntmps118
  go_upto_region 0 with fail
  go_region_law (first
    | (go_simp; go_at_call 116; (with_reducible refine HF.out.mono ?_); rintro e v0 ⟨rfl, rfl⟩)
    | (go_simp; go_at_call 96; (with_reducible refine (HM.out _ HN.out.drew).mono ?_); rintro e v ⟨rfl, hR, hon⟩; have HR := hid hR; have HON := hid (only_undrew hon); clear hR hon))
  all_goals
    clear HM HF
    go_wp2_with fail
    go_end0
    exact ⟨rfl, move_end HN.out HO.out hB HR.out HON.out HD.out⟩
theorem seq4_any (t : ScrS) (g B : Nat) (A : Option Addr) (n c : Nat) (zs : List Int) (w : World) (h : SqIn t g B A n c zs w) :
    Calls Tryz.prog 119 #[.pointer (some ⟨g, 0, none⟩), .slice A n c] w (Mth B g (goD t.data (t.x - argV zs 0 1) (t.y)) w) := by
  have HN := hid h.r
  have HO := hid h.o
  have hB := h.B
  obtain ⟨W, H, X, Y, T, Bt, L, fit⟩ := ok_fit h.k
  have ew : t.w = (W : Int) := fit.w
  have eh : t.h = (H : Int) := fit.h
  have ex : t.x = (X : Int) := fit.x
  have ey : t.y = (Y : Int) := fit.y
  have q1 := fit.w1; have q2 := fit.w2; have q3 := fit.h1; have q4 := fit.h2; have q5 := fit.x2; have q6 := fit.y2
  have hk1 := argV_bd h.z 0 (o := 1) (lo := 1) (hi := 9999) (by omega) (by omega) (by omega) (by omega)
  have hfi := first_any A n c zs 1 w.drew h.a h.l h.n
  obtain ⟨k1, hk⟩ : ∃ k1, k1 = argV zs 0 1 := ⟨_, rfl⟩
  rw [← hk] at hk1 hfi
  have HF := hid hfi
  have k9 : w.cell? ⟨g, 9, none⟩ = some (.int .i64 (X : Int)) := by rw [← ex]; exact h.r.cell 9
  have k10 : w.cell? ⟨g, 10, none⟩ = some (.int .i64 (Y : Int)) := by rw [← ey]; exact h.r.cell 10
  have e0 : IntKind.i64.wrap ((X : Int) - k1) = (X : Int) - k1 := IntWalk.i64_in _ (by omega)
  have HM := hid (fun V (h : RowN V g t) => moveTo_any t g ((X : Int) - k1) ((Y : Int)) V h (by omega) (by omega) (by omega) (by omega))
  have HD := hid (show goD t.data (t.x - argV zs 0 1) (t.y) = goD t.data ((X : Int) - k1) ((Y : Int)) by rw [hk]; (try rw [ex]); (try rw [ey]))
  clear h ew eh ex ey fit hk hfi
  go_enter Tryz.func119, Tryz.ntmps119
  go_upto_region 0 with fail
  go_region_law (first
    | (go_simp; go_at_call 116; (with_reducible refine HF.out.mono ?_); rintro e v0 ⟨rfl, rfl⟩)
    | (go_simp; go_at_call 96; (with_reducible refine (HM.out _ HN.out.drew).mono ?_); rintro e v ⟨rfl, hR, hon⟩; have HR := hid hR; have HON := hid (only_undrew hon); clear hR hon))
  all_goals
    clear HM HF
    go_wp2_with fail
    go_end0
    exact ⟨rfl, move_end HN.out HO.out hB HR.out HON.out HD.out⟩
theorem seq5_any (t : ScrS) (g B : Nat) (A : Option Addr) (n c : Nat) (zs : List Int) (w : World) (h : SqIn t g B A n c zs w) :
    Calls Tryz.prog 120 #[.pointer (some ⟨g, 0, none⟩), .slice A n c] w (Mth B g (goD t.data (argV zs 0 1 - 1) (t.y)) w) := by
  have HN := hid h.r
  have HO := hid h.o
  have hB := h.B
  obtain ⟨W, H, X, Y, T, Bt, L, fit⟩ := ok_fit h.k
  have ew : t.w = (W : Int) := fit.w
  have eh : t.h = (H : Int) := fit.h
  have ex : t.x = (X : Int) := fit.x
  have ey : t.y = (Y : Int) := fit.y
  have q1 := fit.w1; have q2 := fit.w2; have q3 := fit.h1; have q4 := fit.h2; have q5 := fit.x2; have q6 := fit.y2
  have hk1 := argV_bd h.z 0 (o := 1) (lo := 1) (hi := 9999) (by omega) (by omega) (by omega) (by omega)
  have hfi := first_any A n c zs 1 w.drew h.a h.l h.n
  obtain ⟨k1, hk⟩ : ∃ k1, k1 = argV zs 0 1 := ⟨_, rfl⟩
  rw [← hk] at hk1 hfi
  have HF := hid hfi
  have k9 : w.cell? ⟨g, 9, none⟩ = some (.int .i64 (X : Int)) := by rw [← ex]; exact h.r.cell 9
  have k10 : w.cell? ⟨g, 10, none⟩ = some (.int .i64 (Y : Int)) := by rw [← ey]; exact h.r.cell 10
  have e0 : IntKind.i64.wrap (k1 - 1) = k1 - 1 := IntWalk.i64_in _ (by omega)
  have HM := hid (fun V (h : RowN V g t) => moveTo_any t g (k1 - 1) ((Y : Int)) V h (by omega) (by omega) (by omega) (by omega))
  have HD := hid (show goD t.data (argV zs 0 1 - 1) (t.y) = goD t.data (k1 - 1) ((Y : Int)) by rw [hk]; (try rw [ex]); (try rw [ey]))
  clear h ew eh ex ey fit hk hfi
  go_enter Tryz.func120, Tryz.ntmps120
  go_upto_region 0 with fail
  go_region_law (first
    | (go_simp; go_at_call 116; (with_reducible refine HF.out.mono ?_); rintro e v0 ⟨rfl, rfl⟩)
    | (go_simp; go_at_call 96; (with_reducible refine (HM.out _ HN.out.drew).mono ?_); rintro e v ⟨rfl, hR, hon⟩; have HR := hid hR; have HON := hid (only_undrew hon); clear hR hon))
  all_goals
    clear HM HF
    go_wp2_with fail
    go_end0
    exact ⟨rfl, move_end HN.out HO.out hB HR.out HON.out HD.out⟩
theorem seq6_any (t : ScrS) (g B : Nat) (A : Option Addr) (n c : Nat) (zs : List Int) (w : World) (h : SqIn t g B A n c zs w) :
    Calls Tryz.prog 121 #[.pointer (some ⟨g, 0, none⟩), .slice A n c] w (Mth B g (goD t.data (t.x) (argV zs 0 1 - 1)) w) := by
  have HN := hid h.r
  have HO := hid h.o
  have hB := h.B
  obtain ⟨W, H, X, Y, T, Bt, L, fit⟩ := ok_fit h.k
  have ew : t.w = (W : Int) := fit.w
  have eh : t.h = (H : Int) := fit.h
  have ex : t.x = (X : Int) := fit.x
  have ey : t.y = (Y : Int) := fit.y
  have q1 := fit.w1; have q2 := fit.w2; have q3 := fit.h1; have q4 := fit.h2; have q5 := fit.x2; have q6 := fit.y2
  have hk1 := argV_bd h.z 0 (o := 1) (lo := 1) (hi := 9999) (by omega) (by omega) (by omega) (by omega)
  have hfi := first_any A n c zs 1 w.drew h.a h.l h.n
  obtain ⟨k1, hk⟩ : ∃ k1, k1 = argV zs 0 1 := ⟨_, rfl⟩
  rw [← hk] at hk1 hfi
  have HF := hid hfi
  have k9 : w.cell? ⟨g, 9, none⟩ = some (.int .i64 (X : Int)) := by rw [← ex]; exact h.r.cell 9
  have k10 : w.cell? ⟨g, 10, none⟩ = some (.int .i64 (Y : Int)) := by rw [← ey]; exact h.r.cell 10
  have e0 : IntKind.i64.wrap (k1 - 1) = k1 - 1 := IntWalk.i64_in _ (by omega)
  have HM := hid (fun V (h : RowN V g t) => moveTo_any t g ((X : Int)) (k1 - 1) V h (by omega) (by omega) (by omega) (by omega))
  have HD := hid (show goD t.data (t.x) (argV zs 0 1 - 1) = goD t.data ((X : Int)) (k1 - 1) by rw [hk]; (try rw [ex]); (try rw [ey]))
  clear h ew eh ex ey fit hk hfi
  go_enter Tryz.func121, Tryz.ntmps121
  go_upto_region 0 with fail
  go_region_law (first
    | (go_simp; go_at_call 116; (with_reducible refine HF.out.mono ?_); rintro e v0 ⟨rfl, rfl⟩)
    | (go_simp; go_at_call 96; (with_reducible refine (HM.out _ HN.out.drew).mono ?_); rintro e v ⟨rfl, hR, hon⟩; have HR := hid hR; have HON := hid (only_undrew hon); clear hR hon))
  all_goals
    clear HM HF
    go_wp2_with fail
    go_end0
    exact ⟨rfl, move_end HN.out HO.out hB HR.out HON.out HD.out⟩
theorem moveToPlace_any (t : ScrS) (g B : Nat) (A : Option Addr) (n c : Nat) (zs : List Int) (w : World) (h : SqIn t g B A n c zs w) :
    Calls Tryz.prog 122 #[.pointer (some ⟨g, 0, none⟩), .slice A n c] w (Mth B g (goD t.data (argV zs 1 1 - 1) (argV zs 0 1 - 1)) w) := by
  have HN := hid h.r
  have HO := hid h.o
  have hB := h.B
  obtain ⟨W, H, X, Y, T, Bt, L, fit⟩ := ok_fit h.k
  have ew : t.w = (W : Int) := fit.w
  have eh : t.h = (H : Int) := fit.h
  have q1 := fit.w1; have q2 := fit.w2; have q3 := fit.h1; have q4 := fit.h2
  have hk1 := argV_bd h.z 0 (o := 1) (lo := 1) (hi := 9999) (by omega) (by omega) (by omega) (by omega)
  have hk2 := argV_bd h.z 1 (o := 1) (lo := 1) (hi := 9999) (by omega) (by omega) (by omega) (by omega)
  have hfi := first_any A n c zs 1 w h.a h.l h.n
  have hse := second_any A n c zs 1 w h.a h.l h.n
  obtain ⟨k1, hk⟩ : ∃ k1, k1 = argV zs 0 1 := ⟨_, rfl⟩
  obtain ⟨k2, hkk⟩ : ∃ k2, k2 = argV zs 1 1 := ⟨_, rfl⟩
  rw [← hk] at hk1 hfi
  rw [← hkk] at hk2 hse
  have HF := hid hfi
  have HS := hid hse
  have e0 : IntKind.i64.wrap (k1 - 1) = k1 - 1 := IntWalk.i64_in _ (by omega)
  have e1 : IntKind.i64.wrap (k2 - 1) = k2 - 1 := IntWalk.i64_in _ (by omega)
  have HM := hid (fun V (h : RowN V g t) => moveTo_any t g (k2 - 1) (k1 - 1) V h (by omega) (by omega) (by omega) (by omega))
  have HD := hid (show goD t.data (argV zs 1 1 - 1) (argV zs 0 1 - 1) = goD t.data (k2 - 1) (k1 - 1) by rw [hk, hkk])
  clear h ew eh fit hk hfi hkk hse
  go_enter Tryz.func122, Tryz.ntmps122
  go_wp2_with fail
  refine HS.out.mono ?_
  rintro e v0 ⟨rfl, rfl⟩
  go_wp2_with fail
  refine HF.out.mono ?_
  rintro e v0 ⟨rfl, rfl⟩
  go_wp2_with fail
  refine (HM.out _ HN.out).mono ?_
  rintro e v ⟨rfl, hR, hon⟩
  have HR := hid hR
  have HON := hid hon
  clear hR hon HM HF HS
  go_wp2_with fail
  go_end0
  exact ⟨rfl, move_end HN.out HO.out hB HR.out HON.out HD.out⟩
end Go.Proofs.YtgnpgkkjcloghaaGreat.Sc
