/- Texts that lay in modules of their own: ScDownI, ScCtlI, ScImCtl. -/
import Derived.Test.YtkhihppoimgjcaaKitD
import Derived.Deep.RegionHeld3
import Derived.IntWalk
import Derived.Deep.Cut
import Derived.Deep.CutRange
import Derived.Deep.DeepCutAuto
import Derived.Test.YtkhihppoimgjcaaScCopy
import Derived.Test.YtkhihppoimgjcaaKitF
import Derived.Test.YtkhihppoimgjcaaScChgCtl
import Derived.Test.YtkhihppoimgjcaaScGoS
namespace Go.Proofs.Ytkhihppoimgjcaa.Sc
open Go.RowKit Go.Proofs.Ytkhihppoimgjcaa.Bytes Go.Proofs.Ytkhihppoimgjcaa.Rows_ Go.Proofs.Ytkhihppoimgjcaa.RowK Go.Proofs.Ytkhihppoimgjcaa.Gr Go.Proofs.Ytkhihppoimgjcaa.DOk Go.Proofs.Ytkhihppoimgjcaa.Opq Go.Proofs.Ytkhihppoimgjcaa.Attr
set_option linter.unusedVariables false
attribute [local go_sem ↓] Sc.exec_storeS Sc.exec_loadS
attribute [local go_sem] blkOf_ptr isHead_ptr aggN_agg setRow_alloc rowZ_at rowZ_past scrA_size nsA_size one_scr rowOf_alloc_at rowOf_alloc_past rowOf_drew ns_pre
attribute [local go_sem] sa_w sa_h sa_mw sa_mh sa_M sa_aw sa_ah sa_A sa_onAlt sa_x sa_y sa_wrap sa_fg sa_bg sa_b sa_u sa_t sa_top sa_bot sa_noWrap sa_hide sa_sx sa_sy sa_sfg sa_sbg sa_sb sa_su sa_st sa_tabs sa_lim sa_rows
attribute [local go_sem] ns_w ns_h ns_mw ns_mh ns_M ns_aw ns_ah ns_A ns_onAlt ns_x ns_y ns_wrap ns_fg ns_bg ns_b ns_u ns_t ns_top ns_bot ns_noWrap ns_hide ns_sx ns_sy ns_sfg ns_sbg ns_sb ns_su ns_st ns_tabs ns_lim ns_rows
attribute [local go_sem] ns_at0 ns_at1 ns_at2 ns_at3 ns_at4 ns_at5 ns_at6 ns_at7 ns_at8 ns_at9 ns_at10 ns_at11 ns_at12 ns_at13 ns_at14 ns_at15 ns_at16 ns_at17 ns_at18 ns_at19 ns_at20 ns_at21 ns_at22 ns_at23 ns_at24 ns_at25 ns_at26 ns_at27 ns_at28 ns_at29 ns_at30 ns_at31 ns_at32 ns_at33 ns_at34 ns_at35 ns_at36 ns_at37
attribute [local go_sem] scr_at0 scr_at1 scr_at2 scr_at3 scr_at4 scr_at5 scr_at6 scr_at7 scr_at8 scr_at9 scr_at10 scr_at11 scr_at12 scr_at13 scr_at14 scr_at15 scr_at16 scr_at17 scr_at18 scr_at19 scr_at20 scr_at21 scr_at22 scr_at23 scr_at24 scr_at25 scr_at26 scr_at27 scr_at28 scr_at29 scr_at30
set_option maxRecDepth 100000 in
set_option maxHeartbeats 3200000 in
theorem scroll_no (t : ScrS) (g B : Nat) (w : World) (W H T Bt : Nat) (hg : RowN w g t) (ho : OwnS w B t) (hr : Rol t W H) (et : t.top = T) (eb : t.bot = Bt) (h1 : T ≤ Bt) (h2 : Bt < H) (hk : keepsB t.data = false) :
    Calls Try.prog 89 #[.pointer (some ⟨g, 0, none⟩), .int .i64 1] w (RolM t g B T Bt 1 w) := by
  have hh := hr.h2
  have HN := Lib.hid hg
  have HO := Lib.hid ho
  have k8 : w.cell? ⟨g, 8, none⟩ = some (.bool t.onAlt) := hg.cell 8
  have k17 : w.cell? ⟨g, 17, none⟩ = some (.int .i64 (T : Int)) := by rw [← et]; exact hg.cell 17
  have k18 : w.cell? ⟨g, 18, none⟩ = some (.int .i64 (Bt : Int)) := by rw [← eb]; exact hg.cell 18
  have c17 := Lib.hid (show (nsA (rolS t T Bt 1))[17]? = some (.int .i64 (T : Int)) from by rw [← et]; unfold rolS putS; cases t.onAlt <;> rfl)
  have c18 := Lib.hid (show (nsA (rolS t T Bt 1))[18]? = some (.int .i64 (Bt : Int)) from by rw [← eb]; unfold rolS putS; cases t.onAlt <;> rfl)
  cases hal : t.onAlt
  · have hT0 : ¬ (T : Int) = 0 := by
      unfold keepsB at hk
      rw [show t.data.onAlt = t.onAlt from rfl, hal, show t.data.top = (T : Int) from et] at hk
      simpa using hk
    rw [hal] at k8
    clear hg ho et eb hk
    go_enter Try.func89, Try.ntmps89
    go_upto_region 6 with fail
    clear k8
    go_region_held3 (fun w' => w'.cell? ⟨g, 17, none⟩ = some (.int .i64 (T : Int)) ∧ w'.cell? ⟨g, 18, none⟩ = some (.int .i64 (Bt : Int))) (first | assumption | go_keep | (exact ⟨(HR9.out.cell 17).trans c17.out, (HR9.out.cell 18).trans c18.out⟩)) (first
      | (go_at_call 41; (with_reducible refine (shown_any t g _ HN.out.drew).mono ?_); rintro e v ⟨rfl, rfl⟩)
      | (go_at_call 105; (with_reducible refine (roll_any t g B _ W H T Bt 1 HN.out.drew HO.out.drew hr h1 h2).mono ?_); rintro e v ⟨rfl, hR, hO', hon⟩; have HR9 := Lib.hid hR; have HO9 := Lib.hid hO'; have HON9 := Lib.hid (only_undrew hon); clear hR hO' hon))
    all_goals
      go_wp2_with fail
      go_end0
      exact ⟨rfl, HR9.out, HO9.out, HON9.out⟩
  · rw [hal] at k8
    clear hg ho et eb hk
    go_enter Try.func89, Try.ntmps89
    go_upto_region 6 with fail
    clear k8
    go_region_held3 (fun w' => w'.cell? ⟨g, 17, none⟩ = some (.int .i64 (T : Int)) ∧ w'.cell? ⟨g, 18, none⟩ = some (.int .i64 (Bt : Int))) (first | assumption | go_keep | (exact ⟨(HR9.out.cell 17).trans c17.out, (HR9.out.cell 18).trans c18.out⟩)) (first
      | (go_at_call 41; (with_reducible refine (shown_any t g _ HN.out.drew).mono ?_); rintro e v ⟨rfl, rfl⟩)
      | (go_at_call 105; (with_reducible refine (roll_any t g B _ W H T Bt 1 HN.out.drew HO.out.drew hr h1 h2).mono ?_); rintro e v ⟨rfl, hR, hO', hon⟩; have HR9 := Lib.hid hR; have HO9 := Lib.hid hO'; have HON9 := Lib.hid (only_undrew hon); clear hR hO' hon))
    all_goals
      go_wp2_with fail
      go_end0
      exact ⟨rfl, HR9.out, HO9.out, HON9.out⟩
set_option maxRecDepth 100000 in
set_option maxHeartbeats 3200000 in
theorem scroll_keep (t : ScrS) (g B : Nat) (w : World) (W H T Bt L : Nat) (hg : RowN w g t) (ho : OwnS w B t) (hr : Rol t W H) (et : t.top = T) (eb : t.bot = Bt) (h1 : T ≤ Bt) (h2 : Bt < H) (hk : keepsB t.data = true) (el : t.lim = L) (hL : L ≤ 100) (hrl : t.rows.length ≤ L) (hB : B ≤ g) :
    Calls Try.prog 89 #[.pointer (some ⟨g, 0, none⟩), .int .i64 1] w fun e w' => e = .returned (.tuple #[]) ∧ ∃ A c gs, RowN w' g (rolS { t with bA := A, bk := c, rows := gs } T Bt 1) ∧ OwnS w' B (rolS { t with bA := A, bk := c, rows := gs } T Bt 1) ∧ gs.map (·.cs) = keepL L (t.rows.map (·.cs)) ((t.M.cs.drop (0 * W)).take W) ∧ Below B w w' := by
  have hh := hr.h2
  have HN := Lib.hid hg
  have HO := Lib.hid ho
  have k8 : w.cell? ⟨g, 8, none⟩ = some (.bool t.onAlt) := hg.cell 8
  have k17 : w.cell? ⟨g, 17, none⟩ = some (.int .i64 (T : Int)) := by rw [← et]; exact hg.cell 17
  have k18 : w.cell? ⟨g, 18, none⟩ = some (.int .i64 (Bt : Int)) := by rw [← eb]; exact hg.cell 18
  have k29 : w.cell? ⟨g, 29, none⟩ = some (.int .i64 (L : Int)) := by rw [← el]; exact hg.cell 29
  unfold keepsB at hk
  rw [Bool.and_eq_true] at hk
  have hal : t.onAlt = false := by have h := hk.1; rw [show t.data.onAlt = t.onAlt from rfl] at h; simpa using h
  have hT : T = 0 := by have h := of_decide_eq_true hk.2; have h' : t.top = 0 := h; omega
  have hW : (shC t).cs.length = W * H := hr.n
  have e3 : shC t = t.M := by unfold shC; rw [hal]; rfl
  have e4 : shW t = t.mw := by unfold shW; rw [hal]; rfl
  rw [e3] at hW
  have hmw : t.mw = (W : Int) := by rw [← e4]; exact hr.w
  have hy : 0 * W + W ≤ t.M.cs.length := by rw [hW, Nat.zero_mul, Nat.zero_add]; exact Nat.le_mul_of_pos_right _ (by have := hr.h1; omega)
  have hmn : t.M.cs.length ≤ 1048576 := by rw [hW]; have := hr.wh; omega
  have HKP := Lib.hid (show Calls Try.prog 104 #[.pointer (some ⟨g, 31, none⟩), .int .i64 0, .int .i64 (L : Int)] w.drew _ from keep_any t g B w.drew W 0 L HN.out.drew HO.out.drew hmw hr.w1 hy (by omega) hmn hL hrl hB)
  have HRR := Lib.hid (fun (A : Option Addr) (c : Nat) (gs : List SlC) => show Rol { t with bA := A, bk := c, rows := gs } W H from ⟨hr.w, hr.h, hr.w1, hr.w2, hr.h1, hr.h2, hr.n, hr.wh⟩)
  have C17 := Lib.hid (fun (A : Option Addr) (c : Nat) (gs : List SlC) => show (nsA (rolS { t with bA := A, bk := c, rows := gs } T Bt 1))[17]? = some (.int .i64 (T : Int)) from by rw [← et]; unfold rolS putS; cases t.onAlt <;> rfl)
  have C18 := Lib.hid (fun (A : Option Addr) (c : Nat) (gs : List SlC) => show (nsA (rolS { t with bA := A, bk := c, rows := gs } T Bt 1))[18]? = some (.int .i64 (Bt : Int)) from by rw [← eb]; unfold rolS putS; cases t.onAlt <;> rfl)
  have hT0 : (T : Int) = 0 := by omega
  have hm : min (1 : Int) ((Bt : Int) + 1) = 1 := by omega
  have hgl : g < w.heap.size := hg.lt
  have HET := Lib.hid et
  have HEB := Lib.hid eb
  have HEL := Lib.hid el
  rw [hal] at k8
  clear hg ho et eb el hk hT hW e3 e4 hmw hy hmn hr
  go_enter Try.func89, Try.ntmps89
  go_upto_region 1 with fail
  clear hT0
  go_wp2_with fail
  refine wp_loop_rounds 2 ?_
  rw [rounds_succ]
  go_wp2_with fail
  go_region_held3 (fun w' => w'.cell? ⟨g, 29, none⟩ = some (.int .i64 (L : Int))) (first | assumption | go_keep) ((go_at_call 104; (with_reducible refine HKP.out.mono ?_); rintro e v ⟨rfl, A, c, gs, hN, hO, hmp, hb'⟩; have hb : Below B w v := undrew hb'; have HN5 := Lib.hid hN; have HO5 := Lib.hid hO; have HMP := Lib.hid hmp; have HB5 := Lib.hid hb; have j8 : v.cell? ⟨g, 8, none⟩ = some (.bool t.onAlt) := hN.cell 8; have j17 : v.cell? ⟨g, 17, none⟩ = some (.int .i64 (T : Int)) := (hN.cell 17).trans (by rw [← HET.out]; rfl); have j18 : v.cell? ⟨g, 18, none⟩ = some (.int .i64 (Bt : Int)) := (hN.cell 18).trans (by rw [← HEB.out]; rfl); have j29 : v.cell? ⟨g, 29, none⟩ = some (.int .i64 (L : Int)) := (hN.cell 29).trans (by rw [← HEL.out]; rfl); clear hN hO hmp hb hb'))
  all_goals
    rw [hal] at j8
    clear hal
    have c17 := Lib.hid (C17.out A c gs)
    have c18 := Lib.hid (C18.out A c gs)
    have hgv : B ≤ v.heap.size := by have := HN5.out.lt; omega
    go_wp2_with fail
    rw [rounds_succ]
    go_wp2_with fail
    clear k8
    go_region_held3 (fun w' => w'.cell? ⟨g, 17, none⟩ = some (.int .i64 (T : Int)) ∧ w'.cell? ⟨g, 18, none⟩ = some (.int .i64 (Bt : Int))) (first | assumption | go_keep | (exact ⟨(HR9.out.cell 17).trans c17.out, (HR9.out.cell 18).trans c18.out⟩)) (first
      | (go_at_call 41; (with_reducible refine (shown_any { t with bA := A, bk := c, rows := gs } g _ HN5.out.drew).mono ?_); rintro e v ⟨rfl, rfl⟩)
      | (go_at_call 105; (with_reducible refine (roll_any { t with bA := A, bk := c, rows := gs } g B _ W H T Bt 1 HN5.out.drew HO5.out.drew (HRR.out A c gs) h1 h2).mono ?_); rintro e v ⟨rfl, hR, hO', hon⟩; have HR9 := Lib.hid hR; have HO9 := Lib.hid hO'; have HON9 := Lib.hid (only_undrew hon); clear hR hO' hon))
    all_goals
      go_wp2_with fail
      go_end0
      exact ⟨rfl, A, c, gs, HR9.out, HO9.out, HMP.out, HB5.out.trans (Only.below_ HON9.out (Below.refl B _) hgv (fun i hi => (HO5.out.blk i hi).1))⟩
set_option maxRecDepth 100000 in
set_option maxHeartbeats 3200000 in
theorem down_any (t : ScrS) (g B : Nat) (w : World) (hg : RowN w g t) (ho : OwnS w B t) (hok : okD t.data = true) (hB : B ≤ g) : Calls Try.prog 53 #[.pointer (some ⟨g, 0, none⟩)] w (Mth B g (downD t.data) w) := by
  obtain ⟨W, H, X, Y, T, Bt, L, fit⟩ := ok_fit hok
  have et : t.top = (T : Int) := fit.top
  have eb : t.bot = (Bt : Int) := fit.bot
  have ey : t.y = (Y : Int) := fit.y
  have ehh : t.h = (H : Int) := fit.h
  have hr : Rol { t with wrap := false } W H := rol_of (t := { t with wrap := false }) ⟨fit.w, fit.h, fit.mw, fit.mh, fit.aw, fit.ah, fit.w1, fit.w2, fit.h1, fit.h2, fit.wh, fit.ml, fit.al, fit.x, fit.x2, fit.y, fit.y2, fit.top, fit.bot, fit.tb, fit.bh, fit.lim, fit.l2, fit.rl⟩
  have hh := fit.h2
  have hh1 := fit.h1
  have hy2 := fit.y2
  have hbh := fit.bh
  have HN1 := Lib.hid (show RowN (w.setCell ⟨g, 11, none⟩ (.bool false)) g { t with wrap := false } from hg.s_wrap (z := false))
  have HO1 := Lib.hid (show OwnS (w.setCell ⟨g, 11, none⟩ (.bool false)) B { t with wrap := false } from by have h := hg.own (j := 11) (v := .bool false) ho; exact ⟨h.c, h.t, h.r⟩)
  have HB1 := Lib.hid (show Below B w (w.setCell ⟨g, 11, none⟩ (.bool false)) from (Below.refl _ _).setCell (by simpa using hB) _)
  have hgl : g < w.heap.size := hg.lt
  have hbl : B ≤ w.heap.size := by omega
  have k10 : w.cell? ⟨g, 10, none⟩ = some (.int .i64 (Y : Int)) := by rw [← ey]; exact hg.cell 10
  have k18 : w.cell? ⟨g, 18, none⟩ = some (.int .i64 (Bt : Int)) := by rw [← eb]; exact hg.cell 18
  have k1 : w.cell? ⟨g, 1, none⟩ = some (.int .i64 (H : Int)) := by rw [← ehh]; exact hg.cell 1
  have k11 : w.cell? ⟨g, 11, none⟩ = some (.bool t.wrap) := hg.cell 11
  have hf := hg.free
  by_cases hyt : Y = Bt
  · have HU := Lib.hid (show downD t.data = roll1D { t.data with wrap := false } from by unfold downD; rw [if_pos (show t.data.y = t.data.bot from by show t.y = t.bot; rw [ey, eb, hyt])])
    have HRC := Lib.hid (fun (A : Option Addr) (c : Nat) (gs : List SlC) => show rolC { t with wrap := false, bA := A, bk := c, rows := gs } (T : Int) (Bt : Int) 1 = rollC t.data t.top t.bot 1 from by
      have e1 : shW { t with wrap := false, bA := A, bk := c, rows := gs } = (W : Int) := hr.w
      have e2 : shH { t with wrap := false, bA := A, bk := c, rows := gs } = (H : Int) := hr.h
      have e3 : (shC { t with wrap := false, bA := A, bk := c, rows := gs }).cs = (shC t).cs := rfl
      unfold rolC rollC
      rw [e1, e2, e3, et, eb, sh_data, show t.data.w = (W : Int) from fit.w, show t.data.h = (H : Int) from fit.h])
    have HW := Lib.hid (show t.data.w.toNat = W from by rw [fit.w]; rfl)
    have HL := Lib.hid (show t.data.lim.toNat = L from by rw [fit.lim]; rfl)
    cases hk : keepsB t.data
    · have HS := Lib.hid (scroll_no { t with wrap := false } g B _ W H T Bt HN1.out.drew HO1.out.drew hr et eb fit.tb fit.bh hk)
      have HK := Lib.hid hk
      subst hyt
      clear hg ho hok fit hr ey et eb ehh hk
      go_enter Try.func53, Try.ntmps53
      go_upto_region 1 with fail
      go_region
      all_goals
        go_wp2_with fail
        refine HS.out.mono ?_
        rintro e v ⟨rfl, hR, hO, hon⟩
        have HR := Lib.hid hR
        have HO := Lib.hid hO
        have HON := Lib.hid (only_undrew hon)
        clear hR hO hon HS
        go_wp2_with fail
        go_end0
        refine ⟨rfl, _, HR.out, HO.out, ?_, HB1.out.trans (Only.below_ HON.out (Below.refl B _) (by simp; omega) (fun i hi => (HO1.out.blk i hi).1))⟩
        rw [HU.out]
        unfold roll1D
        rw [show keepsB { t.data with wrap := false } = false from HK.out, if_neg (by decide)]
        have h := HRC.out t.bA t.bk t.rows
        show (rolS { t with wrap := false } _ _ 1).data = putD { t.data with wrap := false } (rollC t.data t.top t.bot 1)
        rw [← h]
        exact put_data
    · have HS := Lib.hid (scroll_keep { t with wrap := false } g B _ W H T Bt L HN1.out.drew HO1.out.drew hr et eb fit.tb fit.bh hk fit.lim fit.l2 (by have h := fit.rl; rw [show t.data.rows.length = t.rows.length from List.length_map _] at h; exact h) hB)
      have HK := Lib.hid hk
      subst hyt
      clear hg ho hok fit hr ey et eb ehh hk
      go_enter Try.func53, Try.ntmps53
      go_upto_region 1 with fail
      go_region
      all_goals
        go_wp2_with fail
        refine HS.out.mono ?_
        rintro e v ⟨rfl, A, c, gs, hR, hO, hm, hb⟩
        have HR := Lib.hid hR
        have HO := Lib.hid hO
        have HM := Lib.hid hm
        have HBB := Lib.hid (undrew hb)
        clear hR hO hm hb HS
        go_wp2_with fail
        go_end0
        refine ⟨rfl, _, HR.out, HO.out, ?_, HB1.out.trans HBB.out⟩
        rw [HU.out]
        unfold roll1D
        rw [show keepsB { t.data with wrap := false } = true from HK.out, if_pos rfl]
        have h := HRC.out A c gs
        have h2 := put_data (t := { t with wrap := false, bA := A, bk := c, rows := gs }) (A := (shC { t with wrap := false, bA := A, bk := c, rows := gs }).A) (c := (shC { t with wrap := false, bA := A, bk := c, rows := gs }).c) (cs := rolC { t with wrap := false, bA := A, bk := c, rows := gs } (T : Int) (Y : Int) 1)
        refine h2.trans ?_
        rw [h]
        have e5 : ({ t with wrap := false, bA := A, bk := c, rows := gs } : ScrS).data = keepD { t.data with wrap := false } 0 := by
          unfold keepD rowD
          rw [show ({ t.data with wrap := false } : ScrD).w.toNat = W from HW.out, show ({ t.data with wrap := false } : ScrD).lim.toNat = L from HL.out]
          have hm := HM.out
          unfold ScrS.data
          rw [hm]
        rw [e5]; rfl
  · have hyt' : ¬ (Y : Int) = (Bt : Int) := by omega
    have HU := Lib.hid (show downD t.data = { t.data with wrap := false, y := min ((Y : Int) + 1) ((H : Int) - 1) } from by
      unfold downD
      rw [if_neg (show ¬ t.data.y = t.data.bot from by show ¬ t.y = t.bot; rw [ey, eb]; exact hyt')]
      have e1 : min (t.data.y + 1) (t.data.h - 1) = min ((Y : Int) + 1) ((H : Int) - 1) := by rw [show t.data.y = (Y : Int) from ey, show t.data.h = (H : Int) from ehh]
      rw [e1])
    clear hg ho hok fit hr ey et eb ehh
    have hmn : min ((Y : Int) + 1) ((H : Int) - 1) = if (Y : Int) + 1 < (H : Int) then (Y : Int) + 1 else (H : Int) - 1 := by split <;> omega
    have hw1 : IntKind.i64.wrap ((Y : Int) + 1) = (Y : Int) + 1 := IntWalk.i64_in _ (by omega)
    have hw2 : IntKind.i64.wrap ((H : Int) - 1) = (H : Int) - 1 := IntWalk.i64_in _ (by omega)
    obtain ⟨Z, hZ⟩ : ∃ Z, Z = min ((Y : Int) + 1) ((H : Int) - 1) := ⟨_, rfl⟩
    have HZ := Lib.hid hZ
    rw [← hZ] at HU
    clear hmn hZ
    go_enter Try.func53, Try.ntmps53
    go_upto_region 1 with fail
    go_region
    all_goals
      go_upto_region 2 with fail
      go_region
    all_goals
      go_wp2_with fail
      all_goals
        first
          | (have hz : Z = (Y : Int) + 1 := by have := HZ.out; omega
             refine bodyPost_ret (v := .tuple #[]) (results_none rfl _ _ _) rfl ⟨rfl, { t with wrap := false, y := (Y : Int) + 1 }, (HN1.out.s_y (z := (Y : Int) + 1)).drew.drew, ?_, ?_, ((HB1.out.setCell (by simpa using hB) _)).drew.drew⟩
             · have h := (HN1.out.own (j := 10) (v := .int .i64 ((Y : Int) + 1)) HO1.out).drew.drew
               exact ⟨h.c, h.t, h.r⟩
             · rw [HU.out, hz]; rfl)
          | (have hz : Z = (H : Int) - 1 := by have := HZ.out; omega
             refine bodyPost_ret (v := .tuple #[]) (results_none rfl _ _ _) rfl ⟨rfl, { t with wrap := false, y := (H : Int) - 1 }, (HN1.out.s_y (z := (H : Int) - 1)).drew.drew, ?_, ?_, ((HB1.out.setCell (by simpa using hB) _)).drew.drew⟩
             · have h := (HN1.out.own (j := 10) (v := .int .i64 ((H : Int) - 1)) HO1.out).drew.drew
               exact ⟨h.c, h.t, h.r⟩
             · rw [HU.out, hz]; rfl)
end Go.Proofs.Ytkhihppoimgjcaa.Sc
namespace Go.Proofs.Ytkhihppoimgjcaa.Sc
open Go.RowKit Go.Proofs.Ytkhihppoimgjcaa.Bytes Go.Proofs.Ytkhihppoimgjcaa.Rows_ Go.Proofs.Ytkhihppoimgjcaa.RowK Go.Proofs.Ytkhihppoimgjcaa.Gr Go.Proofs.Ytkhihppoimgjcaa.DOk Go.Proofs.Ytkhihppoimgjcaa.Opq Go.Proofs.Ytkhihppoimgjcaa.Attr
set_option linter.unusedVariables false
attribute [local go_sem ↓] Sc.exec_storeS Sc.exec_loadS
attribute [local go_sem] blkOf_ptr isHead_ptr aggN_agg setRow_alloc rowZ_at rowZ_past scrA_size nsA_size one_scr rowOf_alloc_at rowOf_alloc_past rowOf_drew ns_pre
attribute [local go_sem] sa_w sa_h sa_mw sa_mh sa_M sa_aw sa_ah sa_A sa_onAlt sa_x sa_y sa_wrap sa_fg sa_bg sa_b sa_u sa_t sa_top sa_bot sa_noWrap sa_hide sa_sx sa_sy sa_sfg sa_sbg sa_sb sa_su sa_st sa_tabs sa_lim sa_rows
attribute [local go_sem] ns_w ns_h ns_mw ns_mh ns_M ns_aw ns_ah ns_A ns_onAlt ns_x ns_y ns_wrap ns_fg ns_bg ns_b ns_u ns_t ns_top ns_bot ns_noWrap ns_hide ns_sx ns_sy ns_sfg ns_sbg ns_sb ns_su ns_st ns_tabs ns_lim ns_rows
attribute [local go_sem] ns_at0 ns_at1 ns_at2 ns_at3 ns_at4 ns_at5 ns_at6 ns_at7 ns_at8 ns_at9 ns_at10 ns_at11 ns_at12 ns_at13 ns_at14 ns_at15 ns_at16 ns_at17 ns_at18 ns_at19 ns_at20 ns_at21 ns_at22 ns_at23 ns_at24 ns_at25 ns_at26 ns_at27 ns_at28 ns_at29 ns_at30 ns_at31 ns_at32 ns_at33 ns_at34 ns_at35 ns_at36 ns_at37
attribute [local go_sem] scr_at0 scr_at1 scr_at2 scr_at3 scr_at4 scr_at5 scr_at6 scr_at7 scr_at8 scr_at9 scr_at10 scr_at11 scr_at12 scr_at13 scr_at14 scr_at15 scr_at16 scr_at17 scr_at18 scr_at19 scr_at20 scr_at21 scr_at22 scr_at23 scr_at24 scr_at25 scr_at26 scr_at27 scr_at28 scr_at29 scr_at30
set_option maxRecDepth 100000 in
set_option maxHeartbeats 3200000 in
theorem nextTab_any (t : ScrS) (g W X : Nat) (w : World) (hg : RowN w g t) (hr : RdI w w.heap.size t.tA t.tabs) (hn : t.tabs.length ≤ 1048576) (hw : t.w = (W : Int)) (hx : t.x = (X : Int)) (h1 : 1 ≤ W) (h2 : W ≤ 120) :
    Calls Try.prog 95 #[.pointer (some ⟨g, 0, none⟩)] w fun e w' => e = .returned (.int .i64 (tabN (X : Int) ((W : Int) - 1) t.tabs)) ∧ w = w' := by
  have HR := Lib.hid hr
  obtain ⟨n, hl⟩ : ∃ n, n = t.tabs.length := ⟨_, rfl⟩
  have HL := Lib.hid hl.symm
  have k0 : w.cell? ⟨g, 0, none⟩ = some (.int .i64 (W : Int)) := by rw [← hw]; exact hg.cell 0
  have k9 : w.cell? ⟨g, 9, none⟩ = some (.int .i64 (X : Int)) := by rw [← hx]; exact hg.cell 9
  have k28 : w.cell? ⟨g, 28, none⟩ = some (.slice t.tA n t.tk) := by rw [hl]; exact hg.cell 28
  generalize t.tabs = zs at *
  generalize t.tA = A at *
  generalize t.tk = c at *
  rw [← hl] at hn
  clear hr hg hw hx hl
  go_enter Try.func95, Try.ntmps95
  go_wp2_with fail
  go_loopw [11] (fun i wr => ∃ k : Nat, k ≤ n ∧ i = .int .i64 k ∧ tabN (X : Int) ((W : Int) - 1) zs = tabN (X : Int) ((W : Int) - 1) (zs.drop k) ∧ w = wr) (fun i _ => n - (intOf i).toNat)
  case atStart => exact ⟨0, Nat.zero_le _, rfl, rfl, rfl⟩
  case round =>
    obtain ⟨k, hk, rfl, ha, rfl⟩ := hrel
    have HA := Lib.hid ha
    clear ha
    by_cases hlt : k < n
    · have hlf : k < zs.length := by rw [HL.out]; exact hlt
      obtain ⟨b, o, rfl, hB, hc⟩ := HR.out.at_ hlf
      have HST := Lib.hid (tabN_drop (x := (X : Int)) (d := (W : Int) - 1) hlf)
      generalize zs[k] = z at *
      by_cases h1 : (X : Int) < z
      · have N := Lib.hid (show tabN (X : Int) ((W : Int) - 1) zs = z by rw [HA.out, HST.out, if_pos h1])
        clear HST HA
        go_wp2_with fail
        go_ret
        exact ⟨ret_int N.out.symm, rfl⟩
      · have N := Lib.hid (show tabN (X : Int) ((W : Int) - 1) zs = tabN (X : Int) ((W : Int) - 1) (zs.drop (k + 1)) by rw [HA.out, HST.out, if_neg h1])
        clear HST HA
        go_wp2_with fail
        exact ⟨⟨k + 1, by omega, by go_num, N.out, trivial⟩, by simp [intOf]; omega⟩
    · obtain rfl : n = k := by omega
      have HF := Lib.hid (show tabN (X : Int) ((W : Int) - 1) zs = (W : Int) - 1 by rw [HA.out, ← HL.out, List.drop_length]; rfl)
      go_wp2_with fail
      go_ret
      exact ⟨ret_int HF.out.symm, rfl⟩
set_option maxRecDepth 100000 in
set_option maxHeartbeats 3200000 in
theorem control_any (t : ScrS) (g B : Nat) (w : World) (z : Int) (hg : RowN w g t) (ho : OwnS w B t) (hok : okD t.data = true) (hB : B ≤ g) :
    Calls Try.prog 64 #[.pointer (some ⟨g, 0, none⟩), .int .i64 z] w (Mth B g (ctlD t.data z) w) := by
  have HDN := Lib.hid (down_any t g B w hg ho hok hB)
  obtain ⟨W, H, X, Y, T, Bt, L, fit⟩ := ok_fit hok
  have ew : t.w = (W : Int) := fit.w
  have eh : t.h = (H : Int) := fit.h
  have ex : t.x = (X : Int) := fit.x
  have ey : t.y = (Y : Int) := fit.y
  have q1 := fit.w1; have q2 := fit.w2; have q3 := fit.h1; have q4 := fit.h2; have q5 := fit.x2; have q6 := fit.y2
  have ht : t.tabs.length ≤ 1048576 := Nat.le_trans (ok_tabs hok) (by decide)
  have HN := Lib.hid hg
  have HO := Lib.hid ho
  have k9 : w.cell? ⟨g, 9, none⟩ = some (.int .i64 (X : Int)) := by rw [← ex]; exact hg.cell 9
  have k10 : w.cell? ⟨g, 10, none⟩ = some (.int .i64 (Y : Int)) := by rw [← ey]; exact hg.cell 10
  have hgl : g < w.heap.size := hg.lt
  have hbl : B ≤ w.heap.size := by omega
  have HNT := Lib.hid (nextTab_any t g W X w.drew hg.drew ho.rd.t ht ew ex q1 q2)
  have HX := Lib.hid (show t.data.x = (X : Int) from ex)
  have HY := Lib.hid (show t.data.y = (Y : Int) from ey)
  have HW := Lib.hid (show t.data.w = (W : Int) from ew)
  clear fit hok ht
  by_cases h8 : z = 8
  · subst h8
    have HU := Lib.hid (show ctlD t.data 8 = goD t.data ((X : Int) - 1) (Y : Int) by unfold ctlD; rw [if_pos rfl, HX.out, HY.out])
    have e1 : IntKind.i64.wrap ((X : Int) - 1) = (X : Int) - 1 := IntWalk.i64_in _ (by omega)
    clear HNT HDN
    have HM := Lib.hid (fun V (h : RowN V g t) => moveTo_any t g ((X : Int) - 1) (Y : Int) V h (by omega) (by omega) (by omega) (by omega))
    clear hg ho ew eh ex ey
    go_enter Try.func64, Try.ntmps64
    go_upto_region 2 with fail
    go_region_law (first
      | (go_simp; go_at_call 67; (with_reducible refine (HM.out _ HN.out.drew).mono ?_); rintro e v ⟨rfl, hR, hon⟩; have HR := Lib.hid hR; have HON := Lib.hid (only_undrew hon); clear hR hon))
    all_goals
      go_wp2_with fail
      go_end0
      have h := HO.out.only HON.out (fun i hi e => HN.out.apart HO.out (e ▸ hi))
      exact ⟨rfl, _, HR.out, ⟨h.c, h.t, h.r⟩, by rw [HU.out]; rfl, Only.below_ HON.out (Below.refl B _) (by have := HN.out.lt; omega) (fun i hi => by subst hi; exact hB)⟩
  by_cases h9 : z = 9
  · subst h9
    obtain ⟨nx, hnx⟩ : ∃ m, m = tabN (X : Int) ((W : Int) - 1) t.tabs := ⟨_, rfl⟩
    have HU := Lib.hid (show ctlD t.data 9 = goD t.data nx (Y : Int) by
      unfold ctlD; rw [if_neg (by decide), if_pos rfl, HX.out, HY.out, HW.out, hnx]; rfl)
    rw [← hnx] at HNT
    clear hnx HDN
    have HM := Lib.hid (fun V (h : RowN V g t) => moveTo_any t g (nx) (Y : Int) V h (by omega) (by omega) (by omega) (by omega))
    clear hg ho ew eh ex ey
    go_enter Try.func64, Try.ntmps64
    go_upto_region 4 with fail
    go_region_law (first
      | (go_simp; go_at_call 95; (with_reducible refine HNT.out.mono ?_); rintro e v0 ⟨rfl, rfl⟩)
      | (go_simp; go_at_call 67; (with_reducible refine (HM.out _ HN.out.drew).mono ?_); rintro e v ⟨rfl, hR, hon⟩; have HR := Lib.hid hR; have HON := Lib.hid (only_undrew hon); clear hR hon))
    all_goals
      go_wp2_with fail
      go_end0
      have h := HO.out.only HON.out (fun i hi e => HN.out.apart HO.out (e ▸ hi))
      exact ⟨rfl, _, HR.out, ⟨h.c, h.t, h.r⟩, by rw [HU.out]; rfl, Only.below_ HON.out (Below.refl B _) (by have := HN.out.lt; omega) (fun i hi => by subst hi; exact hB)⟩
  have HNT := trivial
  by_cases hd : z = 10 ∨ z = 11 ∨ z = 12
  · have HU := Lib.hid (show ctlD t.data z = downD t.data by unfold ctlD; rw [if_neg h8, if_neg h9, if_pos hd])
    clear hg ho ew eh ex ey k9 k10
    rcases hd with rfl | rfl | rfl
    all_goals
      go_enter Try.func64, Try.ntmps64
      go_wp2_with fail
      refine HDN.out.mono ?_
      rintro e v ⟨rfl, t2, hR, hO, hdd, hb⟩
      have K := Lib.hid (show ∃ t', RowN v g t' ∧ OwnS v B t' ∧ t'.data = ctlD t.data _ ∧ Below B w v from ⟨t2, hR, hO, hdd.trans HU.out.symm, hb⟩)
      clear hR hO hdd hb HDN
      go_wp2_with fail
      go_end0
      exact ⟨rfl, K.out⟩
  have n10 : ¬ z = 10 := fun h => hd (.inl h)
  have n11 : ¬ z = 11 := fun h => hd (.inr (.inl h))
  have n12 : ¬ z = 12 := fun h => hd (.inr (.inr h))
  by_cases h13 : z = 13
  · subst h13
    have HU := Lib.hid (show ctlD t.data 13 = goD t.data 0 (Y : Int) by unfold ctlD; rw [if_neg h8, if_neg h9, if_neg hd, if_pos rfl, HY.out])
    clear HDN hd n10 n11 n12 h8 h9
    have HM := Lib.hid (fun V (h : RowN V g t) => moveTo_any t g (0) (Y : Int) V h (by omega) (by omega) (by omega) (by omega))
    clear hg ho ew eh ex ey
    go_enter Try.func64, Try.ntmps64
    go_wp2_with fail
    refine (HM.out _ HN.out).mono ?_
    rintro e v ⟨rfl, hR, hon⟩
    have HR := Lib.hid hR
    have HON := Lib.hid hon
    clear hR hon HM
    all_goals
      go_wp2_with fail
      go_end0
      have h := HO.out.only HON.out (fun i hi e => HN.out.apart HO.out (e ▸ hi))
      exact ⟨rfl, _, HR.out, ⟨h.c, h.t, h.r⟩, by rw [HU.out]; rfl, Only.below_ HON.out (Below.refl B _) (by have := HN.out.lt; omega) (fun i hi => by subst hi; exact hB)⟩
  have HU := Lib.hid (show ctlD t.data z = t.data by unfold ctlD; rw [if_neg h8, if_neg h9, if_neg hd, if_neg h13])
  clear hg ho ew eh ex ey k9 k10 HDN hd
  go_enter Try.func64, Try.ntmps64
  go_wp2_with fail
  go_end0
  exact ⟨rfl, t, HN.out, HO.out, HU.out.symm, Below.refl _ _⟩
end Go.Proofs.Ytkhihppoimgjcaa.Sc
namespace Go.Proofs.Ytkhihppoimgjcaa.Sc
open Go.RowKit Go.Proofs.Ytkhihppoimgjcaa.Bytes Go.Proofs.Ytkhihppoimgjcaa.Rows_ Go.Proofs.Ytkhihppoimgjcaa.RowK Go.Proofs.Ytkhihppoimgjcaa.Gr Go.Proofs.Ytkhihppoimgjcaa.DOk Go.Proofs.Ytkhihppoimgjcaa.Opq Go.Proofs.Ytkhihppoimgjcaa.Attr
set_option linter.unusedVariables false
attribute [local go_sem ↓] Sc.exec_storeS Sc.exec_loadS
attribute [local go_sem] blkOf_ptr isHead_ptr aggN_agg setRow_alloc rowZ_at rowZ_past scrA_size nsA_size one_scr rowOf_alloc_at rowOf_alloc_past rowOf_drew ns_pre
attribute [local go_sem] sa_w sa_h sa_mw sa_mh sa_M sa_aw sa_ah sa_A sa_onAlt sa_x sa_y sa_wrap sa_fg sa_bg sa_b sa_u sa_t sa_top sa_bot sa_noWrap sa_hide sa_sx sa_sy sa_sfg sa_sbg sa_sb sa_su sa_st sa_tabs sa_lim sa_rows
attribute [local go_sem] ns_w ns_h ns_mw ns_mh ns_M ns_aw ns_ah ns_A ns_onAlt ns_x ns_y ns_wrap ns_fg ns_bg ns_b ns_u ns_t ns_top ns_bot ns_noWrap ns_hide ns_sx ns_sy ns_sfg ns_sbg ns_sb ns_su ns_st ns_tabs ns_lim ns_rows
attribute [local go_sem] ns_at0 ns_at1 ns_at2 ns_at3 ns_at4 ns_at5 ns_at6 ns_at7 ns_at8 ns_at9 ns_at10 ns_at11 ns_at12 ns_at13 ns_at14 ns_at15 ns_at16 ns_at17 ns_at18 ns_at19 ns_at20 ns_at21 ns_at22 ns_at23 ns_at24 ns_at25 ns_at26 ns_at27 ns_at28 ns_at29 ns_at30 ns_at31 ns_at32 ns_at33 ns_at34 ns_at35 ns_at36 ns_at37
attribute [local go_sem] scr_at0 scr_at1 scr_at2 scr_at3 scr_at4 scr_at5 scr_at6 scr_at7 scr_at8 scr_at9 scr_at10 scr_at11 scr_at12 scr_at13 scr_at14 scr_at15 scr_at16 scr_at17 scr_at18 scr_at19 scr_at20 scr_at21 scr_at22 scr_at23 scr_at24 scr_at25 scr_at26 scr_at27 scr_at28 scr_at29 scr_at30
theorem cell_alloc_newZ (w : World) (v : Value) (T : TypeId) (n : Nat) (h : n = w.heap.size) : (w.alloc (.cells #[v] T)).cell? ⟨n, 0, none⟩ = some v := by subst h; exact (RowB.new w #[v] T).cell 0
set_option maxRecDepth 100000 in
set_option maxHeartbeats 3200000 in
theorem impl_ScrCtl_any (s : ScrS) (w : World) (b : Nat) (z : Int) (ho : OwnS w b s) (hn : szS s ≤ 1048576) :
    Calls Try.prog 26 #[.agg (scrA s), .int .i64 z] w (AnsS (okF (fun d => ctlD d z) s.data) w) := by
  obtain ⟨W, hW⟩ : ∃ W, W = ((w.alloc (.cells (scrA s) 39)).alloc (.cells #[.int .i64 z] 3)).alloc (.cells #[.int .i64 0, .int .i64 0, .int .i64 0, .int .i64 0, .slice none 0 0, .int .i64 0, .int .i64 0, .slice none 0 0, .bool false, .int .i64 0, .int .i64 0, .bool false, .int .i64 0, .int .i64 0, .bool false, .bool false, .bool false, .int .i64 0, .int .i64 0, .bool false, .bool false, .int .i64 0, .int .i64 0, .int .i64 0, .int .i64 0, .bool false, .bool false, .bool false, .slice none 0 0, .int .i64 0, .slice none 0 0] 39) := ⟨_, rfl⟩
  have H0 : Below w.heap.size w W := by rw [hW]; exact ((((Below.refl w.heap.size w).alloc (Nat.le_refl _) (.cells (scrA s) 39)).alloc (by simp <;> omega) (.cells #[.int .i64 z] 3)).alloc (by simp <;> omega) (.cells #[.int .i64 0, .int .i64 0, .int .i64 0, .int .i64 0, .slice none 0 0, .int .i64 0, .int .i64 0, .slice none 0 0, .bool false, .int .i64 0, .int .i64 0, .bool false, .int .i64 0, .int .i64 0, .bool false, .bool false, .bool false, .int .i64 0, .int .i64 0, .bool false, .bool false, .int .i64 0, .int .i64 0, .int .i64 0, .int .i64 0, .bool false, .bool false, .bool false, .slice none 0 0, .int .i64 0, .slice none 0 0] 39))
  have B0 : RowS W w.heap.size s := by
    rw [hW]; exact (RowS.below (RowS.new w s) (B := w.heap.size + 1) (by
      refine (((Below.refl (w.heap.size + 1) (w.alloc (.cells (scrA s) 39))).alloc (by simp <;> omega) (.cells #[.int .i64 z] 3)).alloc (by simp <;> omega) (.cells #[.int .i64 0, .int .i64 0, .int .i64 0, .int .i64 0, .slice none 0 0, .int .i64 0, .int .i64 0, .slice none 0 0, .bool false, .int .i64 0, .int .i64 0, .bool false, .int .i64 0, .int .i64 0, .bool false, .bool false, .bool false, .int .i64 0, .int .i64 0, .bool false, .bool false, .int .i64 0, .int .i64 0, .int .i64 0, .int .i64 0, .bool false, .bool false, .bool false, .slice none 0 0, .int .i64 0, .slice none 0 0] 39))) (by omega))
  have hsz : W.heap.size = w.heap.size + 1 + 1 + 1 := by rw [hW]; simp
  have C0 : W.cell? ⟨w.heap.size + 1, 0, none⟩ = some (.int .i64 z) := by rw [hW]; exact (World.cell?_alloc_lt _ _ _ (by simp <;> omega)).trans (cell_alloc_newZ (w.alloc (.cells (scrA s) 39)) (.int .i64 z) 3 (w.heap.size + 1) (by simp))
  have Z0 : RowS W (w.heap.size + 1 + 1) zeroS := by
    rw [hW]
    have h := RowS.new ((w.alloc (.cells (scrA s) 39)).alloc (.cells #[.int .i64 z] 3)) zeroS
    have e : ((w.alloc (.cells (scrA s) 39)).alloc (.cells #[.int .i64 z] 3)).heap.size = w.heap.size + 1 + 1 := by simp
    rw [e] at h; exact h
  have hoW := ho.below (Nat.le_refl _) H0
  have HC := Lib.hid (changed_Ctl s W b (fun d => ctlD d z) (.pointer (some ⟨w.heap.size + 1, 0, none⟩)) hoW hn (by
    intro hok W' B g t hb hB hN hO hg hd
    obtain ⟨wd, hh, X, Y, T, Bt, L, fit⟩ := ok_fit hok
    have e0 : W'.cell? ⟨w.heap.size + 1, 0, none⟩ = some (.int .i64 z) := (hb.cell (p := ⟨w.heap.size + 1, 0, none⟩) (by show w.heap.size + 1 < W.heap.size; omega)).trans C0
    have HM := Lib.hid (control_any t g B W' z hN hO (by rw [hd]; exact hok) hg)
    have HD := Lib.hid hd
    clear hO hN hd fit hb C0 H0 B0 Z0 hoW hW ho
    go_enter Try.func63, Try.ntmps63
    go_wp2_with fail
    refine HM.out.mono ?_
    rintro e v ⟨rfl, t2, hR, hO, hdd, hbb⟩
    have K := Lib.hid (show ∃ t', RowN v g t' ∧ OwnS v B t' ∧ t'.data = (fun d => ctlD d z) s.data ∧ Below B W' v from ⟨t2, hR, hO, by rw [hdd, HD.out], hbb⟩)
    clear hR hO hdd hbb HM
    go_wp2_with fail
    go_end0
    exact ⟨rfl, K.out⟩))
  have H0' := Lib.hid H0
  have HZ := Lib.hid Z0
  have hone0 : One #[.int .i64 0, .int .i64 0, .int .i64 0, .int .i64 0, .slice none 0 0, .int .i64 0, .int .i64 0, .slice none 0 0, .bool false, .int .i64 0, .int .i64 0, .bool false, .int .i64 0, .int .i64 0, .bool false, .bool false, .bool false, .int .i64 0, .int .i64 0, .bool false, .bool false, .int .i64 0, .int .i64 0, .int .i64 0, .int .i64 0, .bool false, .bool false, .bool false, .slice none 0 0, .int .i64 0, .slice none 0 0] := one_scr zeroS
  have hsz' := hsz
  have row0 : rowOf (((w.alloc (.cells (scrA s) 39)).alloc (.cells #[.int .i64 z] 3)).alloc (.cells #[.int .i64 0, .int .i64 0, .int .i64 0, .int .i64 0, .slice none 0 0, .int .i64 0, .int .i64 0, .slice none 0 0, .bool false, .int .i64 0, .int .i64 0, .bool false, .int .i64 0, .int .i64 0, .bool false, .bool false, .bool false, .int .i64 0, .int .i64 0, .bool false, .bool false, .int .i64 0, .int .i64 0, .int .i64 0, .int .i64 0, .bool false, .bool false, .bool false, .slice none 0 0, .int .i64 0, .slice none 0 0] 39)) w.heap.size = scrA s := by rw [← hW]; exact B0.of
  have hmf : ∀ (fn : Fn) (first cap : Array Value) (w : World), (Instr.makeFunc fn first cap).run Try.prog w = .ok (.func fn first cap) w := fun _ _ _ _ => rfl
  rw [hW] at HC
  clear ho hn hoW H0 Z0 B0 C0
  go_enter Try.func26, Try.ntmps26
  go_wp2_with fail
  refine HC.out.mono ?_
  rintro e v1 ⟨t1, rfl, ho1, hd1, hb1⟩
  rw [← hW] at ho1 hb1
  have H1 := Lib.hid (H0'.out.trans (hb1.mono (by omega)))
  have Z1 := Lib.hid (HZ.out.below hb1 (by omega))
  have HO1 := Lib.hid ho1
  have HD1 := Lib.hid hd1
  have rz1 : RowZ v1 (w.heap.size + 1 + 1) 31 := RowZ.of Z1.out.row 31 rfl
  clear hb1 ho1 hd1 row0 HC H0' HZ
  go_wp2_with fail
  refine bodyPost_ret (v := .agg (scrA t1)) (res55 Try.results26 _ _ (w.heap.size + 1 + 1) _ (by simp) (Z1.out.row.setRow) rfl) rfl ⟨t1, rfl, ?_, HD1.out, ?_⟩
  · exact ((HO1.out.row_ _ _ (by omega)).more (by omega))
  · exact below_setRow H1.out (by omega) _
end Go.Proofs.Ytkhihppoimgjcaa.Sc
