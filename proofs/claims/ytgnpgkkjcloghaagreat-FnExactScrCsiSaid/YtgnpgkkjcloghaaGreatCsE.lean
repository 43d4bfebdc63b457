/- The control sequences L, M, S, T and r, in the program. -/
import Derived.Test.YtgnpgkkjcloghaaGreatCsA
import Derived.Test.YtgnpgkkjcloghaaGreatKm12
set_option maxRecDepth 100000
set_option maxHeartbeats 3200000
set_option linter.unusedVariables false
namespace Go.Proofs.YtgnpgkkjcloghaaGreat.Sc
open Lib
open Go.RowKit Bytes Rows_ RowK Gr DOk Opq Attr
attribute [local go_sem ↓] Sc.exec_storeS Sc.exec_loadS
attribute [local go_sem] blkOf_ptr isHead_ptr aggN_agg setRow_alloc rowZ_at rowZ_past scrA_size nsA_size one_scr rowOf_alloc_at rowOf_alloc_past rowOf_drew ns_pre
attribute [local go_sem] sa_w sa_h sa_mw sa_mh sa_M sa_aw sa_ah sa_A sa_onAlt sa_x sa_y sa_wrap sa_fg sa_bg sa_b sa_u sa_t sa_top sa_bot sa_noWrap sa_hide sa_sx sa_sy sa_sfg sa_sbg sa_sb sa_su sa_st sa_tabs sa_lim sa_rows
attribute [local go_sem] ns_w ns_h ns_mw ns_mh ns_M ns_aw ns_ah ns_A ns_onAlt ns_x ns_y ns_wrap ns_fg ns_bg ns_b ns_u ns_t ns_top ns_bot ns_noWrap ns_hide ns_sx ns_sy ns_sfg ns_sbg ns_sb ns_su ns_st ns_tabs ns_lim ns_rows
attribute [local go_sem] ns_at0 ns_at1 ns_at2 ns_at3 ns_at4 ns_at5 ns_at6 ns_at7 ns_at8 ns_at9 ns_at10 ns_at11 ns_at12 ns_at13 ns_at14 ns_at15 ns_at16 ns_at17 ns_at18 ns_at19 ns_at20 ns_at21 ns_at22 ns_at23 ns_at24 ns_at25 ns_at26 ns_at27 ns_at28 ns_at29 ns_at30 ns_at31 ns_at32 ns_at33 ns_at34 ns_at35 ns_at36 ns_at37
attribute [local go_sem] scr_at0 scr_at1 scr_at2 scr_at3 scr_at4 scr_at5 scr_at6 scr_at7 scr_at8 scr_at9 scr_at10 scr_at11 scr_at12 scr_at13 scr_at14 scr_at15 scr_at16 scr_at17 scr_at18 scr_at19 scr_at20 scr_at21 scr_at22 scr_at23 scr_at24 scr_at25 scr_at26 scr_at27 scr_at28 scr_at29 scr_at30
theorem rowN_dn {w : World} {g : Nat} {t : ScrS} (h : RowN w g t) (j : Nat) : RowN (w.drewN j) g t := h
theorem ownS_dn {w : World} {B : Nat} {t : ScrS} (h : OwnS w B t) (j : Nat) : OwnS (w.drewN j) B t := ⟨h.c, h.t, h.r⟩
theorem below_dn {B : Nat} {a w : World} (h : Below B a w) (j : Nat) : Below B a (w.drewN j) := ⟨h.os, h.tape, h.output, h.size, h.block⟩
theorem go_x0W {d : ScrD} (h1 : 1 ≤ d.w) (h2 : 0 ≤ d.y) (h3 : d.y ≤ d.h - 1) : goD d 0 d.y = x0W d := by
  unfold goD x0W
  rw [clampD_in (by omega) (by omega), clampD_in h2 h3]
theorem fld_end {t t' : ScrS} {g B : Nat} {w v : World} {d : ScrD} (hg : RowN w g t) (ho : OwnS w B t) (hB : B ≤ g) (hR : RowN v g t') (hon : Only (fun i => i = g) w v) (hf : OwnS v B t → OwnS v B t') (hd : t'.data = d) :
    ∃ t', RowN v g t' ∧ OwnS v B t' ∧ t'.data = d ∧ Below B w v :=
  ⟨_, hR, hf (ho.only hon (fun i hi e => hg.apart ho (e ▸ hi))), hd, Only.below_ hon (Below.refl B _) (by have := hg.lt; omega) (fun i hi => by subst hi; exact hB)⟩
theorem fld_mid {t : ScrS} {g B : Nat} {w v : World} (hg : RowN w g t) (ho : OwnS w B t) (hB : B ≤ g) (hon : Only (fun i => i = g) w v) : OwnS v B t ∧ Below B w v :=
  ⟨ho.only hon (fun i hi e => hg.apart ho (e ▸ hi)), Only.below_ hon (Below.refl B _) (by have := hg.lt; omega) (fun i hi => by subst hi; exact hB)⟩
theorem lines_any (t : ScrS) (g B : Nat) (n : Int) (w : World) {W H X Y T Bt L : Nat} (fit : Fit t.data W H X Y T Bt L) (hg : RowN w g t) (ho : OwnS w B t) (hB : B ≤ g) :
    Calls Tryz.prog 133 #[.pointer (some ⟨g, 0, none⟩), .int .i64 n] w (Mth B g (linesD t.data n) w) := by
  have HN := hid hg
  have HO := hid ho
  have HRL := hid (rol_of fit)
  have ew : t.w = (W : Int) := fit.w
  have eh : t.h = (H : Int) := fit.h
  have ey : t.y = (Y : Int) := fit.y
  have et : t.top = (T : Int) := fit.top
  have eb : t.bot = (Bt : Int) := fit.bot
  have q1 := fit.w1; have q2 := fit.w2; have q3 := fit.h1; have q4 := fit.h2; have q6 := fit.y2; have q7 := fit.bh
  have hgl := hg.lt
  have k10 : w.cell? ⟨g, 10, none⟩ = some (.int .i64 (Y : Int)) := by rw [← ey]; exact hg.cell 10
  have k17 : w.cell? ⟨g, 17, none⟩ = some (.int .i64 (T : Int)) := by rw [← et]; exact hg.cell 17
  have k18 : w.cell? ⟨g, 18, none⟩ = some (.int .i64 (Bt : Int)) := by rw [← eb]; exact hg.cell 18
  by_cases hT : (Y : Int) < (T : Int)
  · have HD := hid (show linesD t.data n = t.data from by unfold linesD; rw [if_pos (Or.inl (by rw [fit.y, fit.top]; exact hT))])
    have hd : decide ((Y : Int) < (T : Int)) = true := decide_eq_true hT
    have hgt : ((T : Int) > (Y : Int)) := hT
    clear hg ho fit ew eh ey et eb
    go_enter Tryz.func133, Tryz.ntmps133
    go_upto_region 0 with fail
    go_quiet (fail)
    go_wp2_with fail
    go_end0
    exact ⟨rfl, _, rowN_dn HN.out _, ownS_dn HO.out _, HD.out.symm, below_dn (Below.refl B w) _⟩
  have hd : decide ((Y : Int) < (T : Int)) = false := decide_eq_false hT
  by_cases hb : (Bt : Int) < (Y : Int)
  · have HD := hid (show linesD t.data n = t.data from by unfold linesD; rw [if_pos (Or.inr (by rw [fit.y, fit.bot]; exact hb))])
    have hd2 : decide ((Bt : Int) < (Y : Int)) = true := decide_eq_true hb
    clear hg ho fit ew eh ey et eb
    go_enter Tryz.func133, Tryz.ntmps133
    go_upto_region 0 with fail
    go_quiet (fail)
    go_wp2_with fail
    go_end0
    exact ⟨rfl, _, rowN_dn HN.out _, ownS_dn HO.out _, HD.out.symm, below_dn (Below.refl B w) _⟩
  have hd2 : decide ((Bt : Int) < (Y : Int)) = false := decide_eq_false hb
  have h1 : Y ≤ Bt := by omega
  have c10 := hid (show (nsA (rolS t (Y : Int) (Bt : Int) n))[10]? = some (.int .i64 (Y : Int)) from by rw [← ey]; unfold rolS putS; cases t.onAlt <;> rfl)
  have c18 := hid (show (nsA (rolS t (Y : Int) (Bt : Int) n))[18]? = some (.int .i64 (Bt : Int)) from by rw [← eb]; unfold rolS putS; cases t.onAlt <;> rfl)
  have fw : (rolS t (Y : Int) (Bt : Int) n).w = (W : Int) := by rw [← ew]; unfold rolS putS; cases t.onAlt <;> rfl
  have fh : (rolS t (Y : Int) (Bt : Int) n).h = (H : Int) := by rw [← eh]; unfold rolS putS; cases t.onAlt <;> rfl
  have fy : (rolS t (Y : Int) (Bt : Int) n).y = (Y : Int) := by rw [← ey]; unfold rolS putS; cases t.onAlt <;> rfl
  have HM := hid (fun V (h : RowN V g (rolS t (Y : Int) (Bt : Int) n)) => moveTo_any (rolS t (Y : Int) (Bt : Int) n) g 0 (Y : Int) V h (by omega) (by omega) (by omega) (by omega))
  have HD := hid (show linesD t.data n = goD (rolS t (Y : Int) (Bt : Int) n).data 0 (Y : Int) from by
    have e1 : shW t = (W : Int) := HRL.out.w
    have e2 : shH t = (H : Int) := HRL.out.h
    have hr : rolC t (Y : Int) (Bt : Int) n = rollC t.data t.data.y t.data.bot n := by
      unfold rolC rollC
      rw [e1, e2, fit.y, fit.bot, sh_data, fit.w, fit.h]
    have e3 : (rolS t (Y : Int) (Bt : Int) n).data = putD t.data (rollC t.data t.data.y t.data.bot n) := by rw [← hr]; exact put_data
    have g1 : (rolS t (Y : Int) (Bt : Int) n).data.w = (W : Int) := fw
    have g2 : (rolS t (Y : Int) (Bt : Int) n).data.h = (H : Int) := fh
    have g3 : (rolS t (Y : Int) (Bt : Int) n).data.y = (Y : Int) := fy
    have e4 := go_x0W (d := (rolS t (Y : Int) (Bt : Int) n).data) (by omega) (by omega) (by omega)
    rw [g3] at e4
    rw [e4, e3]
    unfold linesD
    rw [if_neg (by rw [fit.y, fit.top, fit.bot]; omega)])
  clear hg ho fit ew eh ey et eb fw fh fy
  go_enter Tryz.func133, Tryz.ntmps133
  go_upto_region 0 with fail
  go_quiet (fail)
  go_upto_region 1 with fail
  clear k17 hd hd2 hT hb
  go_region_held3 (fun w' => w'.cell? ⟨g, 10, none⟩ = some (.int .i64 (Y : Int)) ∧ w'.cell? ⟨g, 18, none⟩ = some (.int .i64 (Bt : Int))) (first | assumption | (exact ⟨k10, k18⟩) | (exact ⟨(HR9.out.cell 10).trans c10.out, (HR9.out.cell 18).trans c18.out⟩)) (first
    | (go_at_call 94; (with_reducible refine (shown_any t g _ ?_).mono ?_); exact HN.out; rintro e v ⟨rfl, rfl⟩)
    | (go_at_call 147; (with_reducible refine (roll_any t g B _ W H Y Bt n ?_ ?_ HRL.out h1 q7).mono ?_); exact HN.out; exact ⟨HO.out.c, HO.out.t, HO.out.r⟩; rintro e v ⟨rfl, hR, hO', hon⟩; have HR9 := hid hR; have HO9 := hid hO'; have HON9 := hid (show Only (SS t) w v from ⟨hon.os, hon.tape, hon.output, hon.size, hon.block⟩); clear hR hO' hon))
  all_goals
    have k10 : v.cell? ⟨g, 10, none⟩ = some (.int .i64 (Y : Int)) := (HR9.out.cell 10).trans c10.out
    have HBL := hid (Only.below_ HON9.out (Below.refl B _) (by omega) (fun i hi => (HO.out.blk i hi).1))
    go_wp2_with fail
    refine (HM.out _ HR9.out).mono ?_
    rintro e v2 ⟨rfl, hR, hon⟩
    have HR := hid hR
    have HON := hid hon
    clear hR hon HM
    go_wp2_with fail
    go_end0
    obtain ⟨t2, h1, h2, h3, h4⟩ := move_end HR9.out HO9.out hB HR.out HON.out HD.out
    exact ⟨rfl, t2, h1, h2, h3, HBL.out.trans h4⟩
theorem seq12_any (t : ScrS) (g B : Nat) (A : Option Addr) (n c : Nat) (zs : List Int) (w : World) (h : SqIn t g B A n c zs w) :
    Calls Tryz.prog 132 #[.pointer (some ⟨g, 0, none⟩), .slice A n c] w (Mth B g (linesD t.data (-argV zs 0 1)) w) := by
  obtain ⟨W, H, X, Y, T, Bt, L, fit⟩ := ok_fit h.k
  have hk1 := argV_bd h.z 0 (o := 1) (lo := 1) (hi := 9999) (by omega) (by omega) (by omega) (by omega)
  have hfi := first_any A n c zs 1 w h.a h.l h.n
  obtain ⟨k1, hk⟩ : ∃ k1, k1 = argV zs 0 1 := ⟨_, rfl⟩
  rw [← hk] at hk1 hfi
  have HF := hid hfi
  have HD := hid (show linesD t.data (-argV zs 0 1) = linesD t.data (-k1) from by rw [hk])
  have HL := hid (lines_any t g B (-k1) w fit h.r h.o h.B)
  have e1 : IntKind.i64.wrap (-k1) = -k1 := IntWalk.i64_in _ (by omega)
  clear h fit hk hfi
  go_enter Tryz.func132, Tryz.ntmps132
  go_wp2_with fail
  refine HF.out.mono ?_
  rintro e v0 ⟨rfl, rfl⟩
  go_wp2_with fail
  refine HL.out.mono ?_
  rintro e v ⟨rfl, hK⟩
  rw [← HD.out] at hK
  have K := hid hK
  clear hK HL HF
  go_wp2_with fail
  go_end0
  exact ⟨rfl, K.out⟩
theorem seq13_any (t : ScrS) (g B : Nat) (A : Option Addr) (n c : Nat) (zs : List Int) (w : World) (h : SqIn t g B A n c zs w) :
    Calls Tryz.prog 134 #[.pointer (some ⟨g, 0, none⟩), .slice A n c] w (Mth B g (linesD t.data (argV zs 0 1)) w) := by
  obtain ⟨W, H, X, Y, T, Bt, L, fit⟩ := ok_fit h.k
  have hk1 := argV_bd h.z 0 (o := 1) (lo := 1) (hi := 9999) (by omega) (by omega) (by omega) (by omega)
  have hfi := first_any A n c zs 1 w h.a h.l h.n
  obtain ⟨k1, hk⟩ : ∃ k1, k1 = argV zs 0 1 := ⟨_, rfl⟩
  rw [← hk] at hk1 hfi
  have HF := hid hfi
  have HD := hid (show linesD t.data (argV zs 0 1) = linesD t.data k1 from by rw [hk])
  have HL := hid (lines_any t g B k1 w fit h.r h.o h.B)
  clear h fit hk hfi
  go_enter Tryz.func134, Tryz.ntmps134
  go_wp2_with fail
  refine HF.out.mono ?_
  rintro e v0 ⟨rfl, rfl⟩
  go_wp2_with fail
  refine HL.out.mono ?_
  rintro e v ⟨rfl, hK⟩
  rw [← HD.out] at hK
  have K := hid hK
  clear hK HL HF
  go_wp2_with fail
  go_end0
  exact ⟨rfl, K.out⟩
theorem seq14_any (t : ScrS) (g B : Nat) (A : Option Addr) (n c : Nat) (zs : List Int) (w : World) (h : SqIn t g B A n c zs w) :
    Calls Tryz.prog 135 #[.pointer (some ⟨g, 0, none⟩), .slice A n c] w (Mth B g (scrollD t.data (argV zs 0 1)) w) := by
  obtain ⟨W, H, X, Y, T, Bt, L, fit⟩ := ok_fit h.k
  have hk1 := argV_bd h.z 0 (o := 1) (lo := 1) (hi := 9999) (by omega) (by omega) (by omega) (by omega)
  have hfi := first_any A n c zs 1 w h.a h.l h.n
  obtain ⟨k1, hk⟩ : ∃ k1, k1 = argV zs 0 1 := ⟨_, rfl⟩
  rw [← hk] at hk1 hfi
  have HF := hid hfi
  have HD := hid (show scrollD t.data (argV zs 0 1) = scrollD t.data k1 from by rw [hk])
  have HL := hid (scroll_any t g B w k1 fit h.r h.o h.B)
  clear h fit hk hfi
  go_enter Tryz.func135, Tryz.ntmps135
  go_wp2_with fail
  refine HF.out.mono ?_
  rintro e v0 ⟨rfl, rfl⟩
  go_wp2_with fail
  refine HL.out.mono ?_
  rintro e v ⟨rfl, hK⟩
  rw [← HD.out] at hK
  have K := hid hK
  clear hK HL HF
  go_wp2_with fail
  go_end0
  exact ⟨rfl, K.out⟩
theorem seq15_any (t : ScrS) (g B : Nat) (A : Option Addr) (n c : Nat) (zs : List Int) (w : World) (h : SqIn t g B A n c zs w) :
    Calls Tryz.prog 136 #[.pointer (some ⟨g, 0, none⟩), .slice A n c] w (Mth B g (scrollD t.data (-argV zs 0 1)) w) := by
  obtain ⟨W, H, X, Y, T, Bt, L, fit⟩ := ok_fit h.k
  have hk1 := argV_bd h.z 0 (o := 1) (lo := 1) (hi := 9999) (by omega) (by omega) (by omega) (by omega)
  have hfi := first_any A n c zs 1 w h.a h.l h.n
  obtain ⟨k1, hk⟩ : ∃ k1, k1 = argV zs 0 1 := ⟨_, rfl⟩
  rw [← hk] at hk1 hfi
  have HF := hid hfi
  have HD := hid (show scrollD t.data (-argV zs 0 1) = scrollD t.data (-k1) from by rw [hk])
  have HL := hid (scroll_any t g B w (-k1) fit h.r h.o h.B)
  have e1 : IntKind.i64.wrap (-k1) = -k1 := IntWalk.i64_in _ (by omega)
  clear h fit hk hfi
  go_enter Tryz.func136, Tryz.ntmps136
  go_wp2_with fail
  refine HF.out.mono ?_
  rintro e v0 ⟨rfl, rfl⟩
  go_wp2_with fail
  refine HL.out.mono ?_
  rintro e v ⟨rfl, hK⟩
  rw [← HD.out] at hK
  have K := hid hK
  clear hK HL HF
  go_wp2_with fail
  go_end0
  exact ⟨rfl, K.out⟩
theorem setRegion_any (t : ScrS) (g B : Nat) (A : Option Addr) (n c : Nat) (zs : List Int) (w : World) (h : SqIn t g B A n c zs w) :
    Calls Tryz.prog 139 #[.pointer (some ⟨g, 0, none⟩), .slice A n c] w (Mth B g (regionD t.data zs) w) := by
  have HN := hid h.r
  have HO := hid h.o
  have hB := h.B
  obtain ⟨W, H, X, Y, T, Bt, L, fit⟩ := ok_fit h.k
  have ew : t.w = (W : Int) := fit.w
  have eh : t.h = (H : Int) := fit.h
  have q1 := fit.w1; have q2 := fit.w2; have q3 := fit.h1; have q4 := fit.h2
  have hgl := h.r.lt
  have hk1 := argV_bd h.z 0 (o := 1) (lo := 1) (hi := 9999) (by omega) (by omega) (by omega) (by omega)
  have hk2 := argV_bd h.z 1 (o := (H : Int)) (lo := 1) (hi := 9999) (by omega) (by omega) (by omega) (by omega)
  obtain ⟨k1, hk⟩ : ∃ k1, k1 = argV zs 0 1 := ⟨_, rfl⟩
  obtain ⟨k2, hkk⟩ : ∃ k2, k2 = argV zs 1 (H : Int) := ⟨_, rfl⟩
  rw [← hk] at hk1
  rw [← hkk] at hk2
  obtain ⟨a1, ha1⟩ : ∃ a1, a1 = k1 - 1 := ⟨_, rfl⟩
  obtain ⟨a2, ha2⟩ : ∃ a2, a2 = k2 - 1 := ⟨_, rfl⟩
  have HFI := hid (fun V o (hb : Below w.heap.size w V) => first_any A n c zs o V ((h.a.below (Nat.le_refl _) hb).more hb.size) h.l h.n)
  have HSI := hid (fun V o (hb : Below w.heap.size w V) => second_any A n c zs o V ((h.a.below (Nat.le_refl _) hb).more hb.size) h.l h.n)
  have HF := hid (fun V (hb : Below w.heap.size w V) => show Calls Tryz.prog 116 #[.slice A n c, .int .i64 1] V fun e w' => e = .returned (.int .i64 k1) ∧ V = w' from by rw [hk]; exact HFI.out V 1 hb)
  have HS := hid (fun V (hb : Below w.heap.size w V) => show Calls Tryz.prog 156 #[.slice A n c, .int .i64 (H : Int)] V fun e w' => e = .returned (.int .i64 k2) ∧ V = w' from by rw [hkk]; exact HSI.out V (H : Int) hb)
  have k1_ : w.cell? ⟨g, 1, none⟩ = some (.int .i64 (H : Int)) := by rw [← eh]; exact h.r.cell 1
  have e0 : IntKind.i64.wrap (k1 - 1) = a1 := by rw [ha1]; exact IntWalk.i64_in _ (by omega)
  have e1 : IntKind.i64.wrap (k2 - 1) = a2 := by rw [ha2]; exact IntWalk.i64_in _ (by omega)
  have hRD : regionD t.data zs = if a2 ≤ a1 ∨ (H : Int) ≤ a2 then t.data else edgeD t.data a1 a2 := by
    unfold regionD
    rw [show t.data.h = (H : Int) from fit.h, ← hk, ← hkk, ← ha1, ← ha2]
  by_cases c1 : a2 ≤ a1
  · have HD := hid (show t.data = regionD t.data zs from by rw [hRD, if_pos (Or.inl c1)])
    clear hRD
    clear h fit eh ew hk hkk ha1 ha2 HFI HSI
    go_enter Tryz.func139, Tryz.ntmps139
    go_upto_region 0 with fail
    go_region_with (first
      | (go_at_call 116; (with_reducible refine (HF.out _ ?_).mono ?_); (first | exact ⟨rfl, rfl, rfl, Nat.le_refl _, fun _ _ => rfl⟩); rintro e v0 ⟨rfl, rfl⟩)
      | (go_at_call 156; (with_reducible refine (HS.out _ ?_).mono ?_); (first | exact ⟨rfl, rfl, rfl, Nat.le_refl _, fun _ _ => rfl⟩); rintro e v0 ⟨rfl, rfl⟩))
    all_goals
      clear HF HS
      go_wp2_with fail
      go_end0
      exact ⟨rfl, _, HN.out.drew, HO.out.drew, HD.out, (Below.refl B w).drew⟩
  by_cases c2 : (H : Int) ≤ a2
  · have HD := hid (show t.data = regionD t.data zs from by rw [hRD, if_pos (Or.inr c2)])
    clear hRD
    clear h fit eh ew hk hkk ha1 ha2 HFI HSI
    go_enter Tryz.func139, Tryz.ntmps139
    go_upto_region 0 with fail
    go_region_with (first
      | (go_at_call 116; (with_reducible refine (HF.out _ ?_).mono ?_); (first | exact ⟨rfl, rfl, rfl, Nat.le_refl _, fun _ _ => rfl⟩); rintro e v0 ⟨rfl, rfl⟩)
      | (go_at_call 156; (with_reducible refine (HS.out _ ?_).mono ?_); (first | exact ⟨rfl, rfl, rfl, Nat.le_refl _, fun _ _ => rfl⟩); rintro e v0 ⟨rfl, rfl⟩))
    all_goals
      clear HF HS
      go_wp2_with fail
      go_end0
      exact ⟨rfl, _, HN.out.drew, HO.out.drew, HD.out, (Below.refl B w).drew⟩
  · have HD := hid (show regionD t.data zs = goD { t with top := a1, bot := a2 }.data 0 0 from by rw [hRD, if_neg (by omega)]; rfl)
    have HM := hid (fun V (h : RowN V g { t with top := a1, bot := a2 }) => moveTo_any { t with top := a1, bot := a2 } g 0 0 V h (by show 1 ≤ t.w; omega) (by show t.w ≤ 120; omega) (by show 1 ≤ t.h; omega) (by show t.h ≤ 120; omega))
    have j17 : w.cell? ⟨g, 17, none⟩ = some (.int .i64 t.top) := h.r.cell 17
    have j18 : w.cell? ⟨g, 18, none⟩ = some (.int .i64 t.bot) := h.r.cell 18
    have hf := h.r.free
    clear hRD
    clear h fit eh ew hk hkk ha1 ha2 HFI HSI
    go_enter Tryz.func139, Tryz.ntmps139
    go_upto_region 0 with fail
    go_region_with (first
      | (go_at_call 116; (with_reducible refine (HF.out _ ?_).mono ?_); (first | exact ⟨rfl, rfl, rfl, Nat.le_refl _, fun _ _ => rfl⟩); rintro e v0 ⟨rfl, rfl⟩)
      | (go_at_call 156; (with_reducible refine (HS.out _ ?_).mono ?_); (first | exact ⟨rfl, rfl, rfl, Nat.le_refl _, fun _ _ => rfl⟩); rintro e v0 ⟨rfl, rfl⟩))
    all_goals
      clear HF HS
      go_wp2_with fail
      refine (HM.out _ (RowN.drew (RowN.s_bot (z := a2) (RowN.s_top (z := a1) HN.out)))).mono ?_
      rintro e v ⟨rfl, hR, hon⟩
      have HR := hid hR
      have HON := hid ((only_drew_ ((Only.cell_ (S := fun i => i = g) w g 17 (.int .i64 a1) rfl).trans (Only.cell_ (S := fun i => i = g) _ g 18 (.int .i64 a2) rfl))).trans hon)
      clear hR hon HM j17 j18 hf
      go_wp2_with fail
      go_end0
      exact ⟨rfl, fld_end HN.out HO.out hB HR.out HON.out (fun h => ⟨h.c, h.t, h.r⟩) HD.out.symm⟩
end Go.Proofs.YtgnpgkkjcloghaaGreat.Sc
