/- Words and lemmas, merged (once: ScScroll, ScUpI, ScDownI) -/
import Derived.Test.YthlpchojlddnbaaKiVW
import Derived.Deep.RegionHeld3
import Derived.IntWalk
import Derived.Deep.Cut
import Derived.Deep.CutRange
import Derived.Deep.DeepCutAuto
namespace Go.Proofs.Ythlpchojlddnbaa.Sc
open Go.RowKit Go.Proofs.Ythlpchojlddnbaa.Bytes Go.Proofs.Ythlpchojlddnbaa.Rows_ Go.Proofs.Ythlpchojlddnbaa.RowK Go.Proofs.Ythlpchojlddnbaa.Gr Go.Proofs.Ythlpchojlddnbaa.DOk Go.Proofs.Ythlpchojlddnbaa.Opq Go.Proofs.Ythlpchojlddnbaa.Attr
set_option linter.unusedVariables false
attribute [local go_sem ↓] Sc.exec_storeS Sc.exec_loadS
attribute [local go_sem] blkOf_ptr isHead_ptr aggN_agg setRow_alloc rowZ_at rowZ_past scrA_size nsA_size one_scr rowOf_alloc_at rowOf_alloc_past rowOf_drew ns_pre
attribute [local go_sem] sa_w sa_h sa_mw sa_mh sa_M sa_aw sa_ah sa_A sa_onAlt sa_x sa_y sa_wrap sa_fg sa_bg sa_b sa_u sa_t sa_top sa_bot sa_noWrap sa_hide sa_sx sa_sy sa_sfg sa_sbg sa_sb sa_su sa_st sa_tabs sa_lim sa_rows
attribute [local go_sem] ns_w ns_h ns_mw ns_mh ns_M ns_aw ns_ah ns_A ns_onAlt ns_x ns_y ns_wrap ns_fg ns_bg ns_b ns_u ns_t ns_top ns_bot ns_noWrap ns_hide ns_sx ns_sy ns_sfg ns_sbg ns_sb ns_su ns_st ns_tabs ns_lim ns_rows
attribute [local go_sem] ns_at0 ns_at1 ns_at2 ns_at3 ns_at4 ns_at5 ns_at6 ns_at7 ns_at8 ns_at9 ns_at10 ns_at11 ns_at12 ns_at13 ns_at14 ns_at15 ns_at16 ns_at17 ns_at18 ns_at19 ns_at20 ns_at21 ns_at22 ns_at23 ns_at24 ns_at25 ns_at26 ns_at27 ns_at28 ns_at29 ns_at30 ns_at31 ns_at32 ns_at33 ns_at34 ns_at35 ns_at36 ns_at37
attribute [local go_sem] scr_at0 scr_at1 scr_at2 scr_at3 scr_at4 scr_at5 scr_at6 scr_at7 scr_at8 scr_at9 scr_at10 scr_at11 scr_at12 scr_at13 scr_at14 scr_at15 scr_at16 scr_at17 scr_at18 scr_at19 scr_at20 scr_at21 scr_at22 scr_at23 scr_at24 scr_at25 scr_at26 scr_at27 scr_at28 scr_at29 scr_at30
/-- the region moved by n rows; those that leave the main grid at its top are kept -/
def keptD (d : ScrD) (n : Int) : ScrD := { d with rows := keepN d.lim.toNat d.rows (rowsM d.M d.w.toNat (min n (d.bot + 1)).toNat) }
def scrollD (d : ScrD) (n : Int) : ScrD := putD (if keepsB d then keptD d n else d) (rollC d d.top d.bot n)
set_option maxRecDepth 100000 in
set_option maxHeartbeats 3200000 in
theorem scroll_no (t : ScrS) (g B : Nat) (w : World) (W H T Bt : Nat) (n : Int) (hg : RowN w g t) (ho : OwnS w B t) (hr : Rol t W H) (et : t.top = T) (eb : t.bot = Bt) (h1 : T ≤ Bt) (h2 : Bt < H) (hk : keepsB t.data = false) :
    Calls Try.prog 102 #[.pointer (some ⟨g, 0, none⟩), .int .i64 n] w (RolM t g B T Bt n w) := by
  have hh := hr.h2
  have HN := Lib.hid hg
  have HO := Lib.hid ho
  have HRL := Lib.hid hr
  have k8 : w.cell? ⟨g, 8, none⟩ = some (.bool t.onAlt) := hg.cell 8
  have k17 : w.cell? ⟨g, 17, none⟩ = some (.int .i64 (T : Int)) := by rw [← et]; exact hg.cell 17
  have k18 : w.cell? ⟨g, 18, none⟩ = some (.int .i64 (Bt : Int)) := by rw [← eb]; exact hg.cell 18
  have c17 := Lib.hid (show (nsA (rolS t T Bt n))[17]? = some (.int .i64 (T : Int)) from by rw [← et]; unfold rolS putS; cases t.onAlt <;> rfl)
  have c18 := Lib.hid (show (nsA (rolS t T Bt n))[18]? = some (.int .i64 (Bt : Int)) from by rw [← eb]; unfold rolS putS; cases t.onAlt <;> rfl)
  cases hal : t.onAlt
  · have hT0 : ¬ (T : Int) = 0 := by
      unfold keepsB at hk
      rw [show t.data.onAlt = t.onAlt from rfl, hal, show t.data.top = (T : Int) from et] at hk
      simpa using hk
    rw [hal] at k8
    clear hg ho et eb hk hr
    go_enter Try.func102, Try.ntmps102
    go_upto_region 2 with fail
    clear k8
    go_region_held3 (fun w' => w'.cell? ⟨g, 17, none⟩ = some (.int .i64 (T : Int)) ∧ w'.cell? ⟨g, 18, none⟩ = some (.int .i64 (Bt : Int))) (first | assumption | go_keep | (exact ⟨(HR9.out.cell 17).trans c17.out, (HR9.out.cell 18).trans c18.out⟩)) (first
      | (go_at_call 104; (with_reducible refine (shown_any t g _ HN.out.drew).mono ?_); rintro e v ⟨rfl, rfl⟩)
      | (go_at_call 124; (with_reducible refine (roll_any t g B _ W H T Bt n HN.out.drew HO.out.drew HRL.out h1 h2).mono ?_); rintro e v ⟨rfl, hR, hO', hon⟩; have HR9 := Lib.hid hR; have HO9 := Lib.hid hO'; have HON9 := Lib.hid (only_undrew hon); clear hR hO' hon))
    all_goals
      go_wp2_with fail
      go_end0
      exact ⟨rfl, HR9.out, HO9.out, HON9.out⟩
  · rw [hal] at k8
    clear hg ho et eb hk hr
    go_enter Try.func102, Try.ntmps102
    go_upto_region 2 with fail
    clear k8
    go_region_held3 (fun w' => w'.cell? ⟨g, 17, none⟩ = some (.int .i64 (T : Int)) ∧ w'.cell? ⟨g, 18, none⟩ = some (.int .i64 (Bt : Int))) (first | assumption | go_keep | (exact ⟨(HR9.out.cell 17).trans c17.out, (HR9.out.cell 18).trans c18.out⟩)) (first
      | (go_at_call 104; (with_reducible refine (shown_any t g _ HN.out.drew).mono ?_); rintro e v ⟨rfl, rfl⟩)
      | (go_at_call 124; (with_reducible refine (roll_any t g B _ W H T Bt n HN.out.drew HO.out.drew HRL.out h1 h2).mono ?_); rintro e v ⟨rfl, hR, hO', hon⟩; have HR9 := Lib.hid hR; have HO9 := Lib.hid hO'; have HON9 := Lib.hid (only_undrew hon); clear hR hO' hon))
    all_goals
      go_wp2_with fail
      go_end0
      exact ⟨rfl, HR9.out, HO9.out, HON9.out⟩
set_option maxRecDepth 100000 in
set_option maxHeartbeats 3200000 in
theorem scroll_keep (t : ScrS) (g B : Nat) (w : World) (W H T Bt L : Nat) (n : Int) (hg : RowN w g t) (ho : OwnS w B t) (hr : Rol t W H) (et : t.top = T) (eb : t.bot = Bt) (h1 : T ≤ Bt) (h2 : Bt < H) (hk : keepsB t.data = true) (el : t.lim = L) (hL : L ≤ 100) (hrl : t.rows.length ≤ L) (hB : B ≤ g) :
    Calls Try.prog 102 #[.pointer (some ⟨g, 0, none⟩), .int .i64 n] w fun e w' => e = .returned (.tuple #[]) ∧ ∃ A c gs, RowN w' g (rolS { t with bA := A, bk := c, rows := gs } T Bt n) ∧ OwnS w' B (rolS { t with bA := A, bk := c, rows := gs } T Bt n) ∧ gs.map (·.cs) = keepN L (t.rows.map (·.cs)) (rowsM t.M.cs W (min n ((Bt : Int) + 1)).toNat) ∧ Below B w w' := by
  have hh := hr.h2
  have HN := Lib.hid hg
  have HO := Lib.hid ho
  have k8 : w.cell? ⟨g, 8, none⟩ = some (.bool t.onAlt) := hg.cell 8
  have k17 : w.cell? ⟨g, 17, none⟩ = some (.int .i64 (T : Int)) := by rw [← et]; exact hg.cell 17
  have k18 : w.cell? ⟨g, 18, none⟩ = some (.int .i64 (Bt : Int)) := by rw [← eb]; exact hg.cell 18
  have k29 : w.cell? ⟨g, 29, none⟩ = some (.int .i64 (L : Int)) := by rw [← el]; exact hg.cell 29
  unfold keepsB at hk
  rw [Bool.and_eq_true] at hk
  have hal : t.onAlt = false := by have h := hk.1; rw [show t.data.onAlt = t.onAlt from rfl] at h; simpa using h
  have hT : T = 0 := by have h := of_decide_eq_true hk.2; have h' : t.top = 0 := h; omega
  have hW : (shC t).cs.length = W * H := hr.n
  have e3 : shC t = t.M := by unfold shC; rw [hal]; rfl
  have e4 : shW t = t.mw := by unfold shW; rw [hal]; rfl
  rw [e3] at hW
  have hmw : t.mw = (W : Int) := by rw [← e4]; exact hr.w
  obtain ⟨m, hm⟩ : ∃ m : Int, m = min n ((Bt : Int) + 1) := ⟨_, rfl⟩
  have hm1 : m ≤ (Bt : Int) + 1 := by omega
  have hy : m.toNat * W ≤ t.M.cs.length := by rw [hW, Nat.mul_comm W H]; exact Nat.mul_le_mul_right _ (by omega)
  have hmn : t.M.cs.length ≤ 1048576 := by rw [hW]; have := hr.wh; omega
  have HKP := Lib.hid (keep_any t g B w.drew W L m HN.out.drew HO.out.drew hmw hr.w1 hy (by omega) hmn hL hrl hB)
  have HRR := Lib.hid (fun (A : Option Addr) (c : Nat) (gs : List SlC) => show Rol { t with bA := A, bk := c, rows := gs } W H from ⟨hr.w, hr.h, hr.w1, hr.w2, hr.h1, hr.h2, hr.n, hr.wh⟩)
  have C17 := Lib.hid (fun (A : Option Addr) (c : Nat) (gs : List SlC) => show (nsA (rolS { t with bA := A, bk := c, rows := gs } T Bt n))[17]? = some (.int .i64 (T : Int)) from by rw [← et]; unfold rolS putS; cases t.onAlt <;> rfl)
  have C18 := Lib.hid (fun (A : Option Addr) (c : Nat) (gs : List SlC) => show (nsA (rolS { t with bA := A, bk := c, rows := gs } T Bt n))[18]? = some (.int .i64 (Bt : Int)) from by rw [← eb]; unfold rolS putS; cases t.onAlt <;> rfl)
  have hT0 : (T : Int) = 0 := by omega
  have hgl : g < w.heap.size := hg.lt
  have hw1 : IntKind.i64.wrap ((Bt : Int) + 1) = (Bt : Int) + 1 := IntWalk.i64_in _ (by omega)
  have HET := Lib.hid et
  have HEB := Lib.hid eb
  have HEL := Lib.hid el
  rw [← hm]
  rw [hal] at k8
  clear hg ho et eb el hk hT hW e3 e4 hmw hy hmn hr hm1
  have hcase : (m = (Bt : Int) + 1 ∧ (Bt : Int) + 1 < n) ∨ (n = m ∧ ¬ (Bt : Int) + 1 < n) := by omega
  clear hm hal
  rcases hcase with ⟨rfl, hcs⟩ | ⟨rfl, hcs⟩
  all_goals
    go_enter Try.func102, Try.ntmps102
    go_upto_region 1 with fail
    clear hT0 k8
    go_region_held3 (fun w' => w'.cell? ⟨g, 18, none⟩ = some (.int .i64 (Bt : Int)) ∧ w'.cell? ⟨g, 29, none⟩ = some (.int .i64 (L : Int))) (first | assumption | go_keep) ((go_at_call 118; (with_reducible refine HKP.out.mono ?_); rintro e v ⟨rfl, A, c, gs, hN, hO, hmp, hb'⟩; have hb : Below B w v := undrew hb'; have HN5 := Lib.hid hN; have HO5 := Lib.hid hO; have HMP := Lib.hid hmp; have HB5 := Lib.hid hb; have j17 : v.cell? ⟨g, 17, none⟩ = some (.int .i64 (T : Int)) := (hN.cell 17).trans (by rw [← HET.out]; rfl); have j18 : v.cell? ⟨g, 18, none⟩ = some (.int .i64 (Bt : Int)) := (hN.cell 18).trans (by rw [← HEB.out]; rfl); have j29 : v.cell? ⟨g, 29, none⟩ = some (.int .i64 (L : Int)) := (hN.cell 29).trans (by rw [← HEL.out]; rfl); clear hN hO hmp hb hb'))
    all_goals
      have c17 := Lib.hid (C17.out A c gs)
      have c18 := Lib.hid (C18.out A c gs)
      have hgv : B ≤ v.heap.size := by have := HN5.out.lt; omega
      go_upto_region 2 with fail
      go_region_held3 (fun w' => w'.cell? ⟨g, 17, none⟩ = some (.int .i64 (T : Int)) ∧ w'.cell? ⟨g, 18, none⟩ = some (.int .i64 (Bt : Int))) (first | assumption | go_keep | (exact ⟨(HR9.out.cell 17).trans c17.out, (HR9.out.cell 18).trans c18.out⟩)) (first
        | (go_at_call 104; (with_reducible refine (shown_any { t with bA := A, bk := c, rows := gs } g _ HN5.out.drew).mono ?_); rintro e v ⟨rfl, rfl⟩)
        | (go_at_call 124; (with_reducible refine (roll_any { t with bA := A, bk := c, rows := gs } g B _ W H T Bt n HN5.out.drew HO5.out.drew (HRR.out A c gs) h1 h2).mono ?_); rintro e v ⟨rfl, hR, hO', hon⟩; have HR9 := Lib.hid hR; have HO9 := Lib.hid hO'; have HON9 := Lib.hid (only_undrew hon); clear hR hO' hon))
      all_goals
        go_wp2_with fail
        go_end0
        exact ⟨rfl, A, c, gs, HR9.out, HO9.out, HMP.out, HB5.out.trans (Only.below_ HON9.out (Below.refl B _) hgv (fun i hi => (HO5.out.blk i hi).1))⟩
/-- scroll, as data -/
theorem scroll_any (t : ScrS) (g B : Nat) (w : World) (n : Int) {W H X Y T Bt L : Nat} (fit : Fit t.data W H X Y T Bt L) (hg : RowN w g t) (ho : OwnS w B t) (hB : B ≤ g) :
    Calls Try.prog 102 #[.pointer (some ⟨g, 0, none⟩), .int .i64 n] w (Mth B g (scrollD t.data n) w) := by
  have hr : Rol t W H := rol_of fit
  have et : t.top = (T : Int) := fit.top
  have eb : t.bot = (Bt : Int) := fit.bot
  have hrc : ∀ (A : Option Addr) (c : Nat) (gs : List SlC), rolC { t with bA := A, bk := c, rows := gs } (T : Int) (Bt : Int) n = rollC t.data t.top t.bot n := fun A c gs => by
    have e1 : shW { t with bA := A, bk := c, rows := gs } = (W : Int) := hr.w
    have e2 : shH { t with bA := A, bk := c, rows := gs } = (H : Int) := hr.h
    have e3 : (shC { t with bA := A, bk := c, rows := gs }).cs = (shC t).cs := rfl
    unfold rolC rollC
    rw [e1, e2, e3, et, eb, sh_data, show t.data.w = (W : Int) from fit.w, show t.data.h = (H : Int) from fit.h]
  cases hk : keepsB t.data
  · refine (scroll_no t g B w W H T Bt n hg ho hr et eb fit.tb fit.bh hk).mono ?_
    rintro e v ⟨rfl, hR, hO, hon⟩
    refine ⟨rfl, _, hR, hO, ?_, Only.below_ hon (Below.refl B _) (by have := hg.lt; omega) (fun i hi => (ho.blk i hi).1)⟩
    unfold scrollD
    rw [hk, if_neg (by decide)]
    have h := hrc t.bA t.bk t.rows
    show (rolS t _ _ n).data = putD t.data (rollC t.data t.top t.bot n)
    rw [← h]
    exact put_data
  · refine (scroll_keep t g B w W H T Bt L n hg ho hr et eb fit.tb fit.bh hk fit.lim fit.l2 (by have h := fit.rl; rw [show t.data.rows.length = t.rows.length from List.length_map _] at h; exact h) hB).mono ?_
    rintro e v ⟨rfl, A, c, gs, hR, hO, hm, hb⟩
    refine ⟨rfl, _, hR, hO, ?_, hb⟩
    unfold scrollD
    rw [hk, if_pos rfl]
    have h := hrc A c gs
    have h2 := put_data (t := { t with bA := A, bk := c, rows := gs }) (A := (shC { t with bA := A, bk := c, rows := gs }).A) (c := (shC { t with bA := A, bk := c, rows := gs }).c) (cs := rolC { t with bA := A, bk := c, rows := gs } (T : Int) (Bt : Int) n)
    refine h2.trans ?_
    rw [h]
    have hm' : keepN t.data.lim.toNat t.data.rows (rowsM t.data.M t.data.w.toNat (min n (t.data.bot + 1)).toNat) = gs.map (·.cs) := by
      rw [show t.data.w.toNat = W by rw [fit.w]; rfl, show t.data.lim.toNat = L by rw [fit.lim]; rfl, show t.data.bot = (Bt : Int) from eb]
      exact hm.symm
    have e5 : ({ t with bA := A, bk := c, rows := gs } : ScrS).data = keptD t.data n := by
      unfold keptD
      rw [hm']; rfl
    rw [e5]; rfl
end Go.Proofs.Ythlpchojlddnbaa.Sc
namespace Go.Proofs.Ythlpchojlddnbaa.Sc
open Go.RowKit Go.Proofs.Ythlpchojlddnbaa.Bytes Go.Proofs.Ythlpchojlddnbaa.Rows_ Go.Proofs.Ythlpchojlddnbaa.RowK Go.Proofs.Ythlpchojlddnbaa.Gr Go.Proofs.Ythlpchojlddnbaa.DOk Go.Proofs.Ythlpchojlddnbaa.Opq Go.Proofs.Ythlpchojlddnbaa.Attr
set_option linter.unusedVariables false
attribute [local go_sem ↓] Sc.exec_storeS Sc.exec_loadS
attribute [local go_sem] blkOf_ptr isHead_ptr aggN_agg setRow_alloc rowZ_at rowZ_past scrA_size nsA_size one_scr rowOf_alloc_at rowOf_alloc_past rowOf_drew ns_pre
attribute [local go_sem] sa_w sa_h sa_mw sa_mh sa_M sa_aw sa_ah sa_A sa_onAlt sa_x sa_y sa_wrap sa_fg sa_bg sa_b sa_u sa_t sa_top sa_bot sa_noWrap sa_hide sa_sx sa_sy sa_sfg sa_sbg sa_sb sa_su sa_st sa_tabs sa_lim sa_rows
attribute [local go_sem] ns_w ns_h ns_mw ns_mh ns_M ns_aw ns_ah ns_A ns_onAlt ns_x ns_y ns_wrap ns_fg ns_bg ns_b ns_u ns_t ns_top ns_bot ns_noWrap ns_hide ns_sx ns_sy ns_sfg ns_sbg ns_sb ns_su ns_st ns_tabs ns_lim ns_rows
attribute [local go_sem] ns_at0 ns_at1 ns_at2 ns_at3 ns_at4 ns_at5 ns_at6 ns_at7 ns_at8 ns_at9 ns_at10 ns_at11 ns_at12 ns_at13 ns_at14 ns_at15 ns_at16 ns_at17 ns_at18 ns_at19 ns_at20 ns_at21 ns_at22 ns_at23 ns_at24 ns_at25 ns_at26 ns_at27 ns_at28 ns_at29 ns_at30 ns_at31 ns_at32 ns_at33 ns_at34 ns_at35 ns_at36 ns_at37
attribute [local go_sem] scr_at0 scr_at1 scr_at2 scr_at3 scr_at4 scr_at5 scr_at6 scr_at7 scr_at8 scr_at9 scr_at10 scr_at11 scr_at12 scr_at13 scr_at14 scr_at15 scr_at16 scr_at17 scr_at18 scr_at19 scr_at20 scr_at21 scr_at22 scr_at23 scr_at24 scr_at25 scr_at26 scr_at27 scr_at28 scr_at29 scr_at30
theorem scrollD_one {d : ScrD} {W H X Y T Bt L : Nat} (f : Fit d W H X Y T Bt L) : scrollD d 1 = roll1D d := by
  have e : keptD d 1 = keepD d 0 := by
    unfold keptD keepD
    have e0 : (min 1 (d.bot + 1)).toNat = 1 := by rw [f.bot]; omega
    rw [e0, rowsM_succ]
    unfold keepN keepL rowD rowsM
    simp
  unfold scrollD roll1D
  rw [e]
end Go.Proofs.Ythlpchojlddnbaa.Sc
namespace Go.Proofs.Ythlpchojlddnbaa.Sc
open Go.RowKit Go.Proofs.Ythlpchojlddnbaa.Bytes Go.Proofs.Ythlpchojlddnbaa.Rows_ Go.Proofs.Ythlpchojlddnbaa.RowK Go.Proofs.Ythlpchojlddnbaa.Gr Go.Proofs.Ythlpchojlddnbaa.DOk Go.Proofs.Ythlpchojlddnbaa.Opq Go.Proofs.Ythlpchojlddnbaa.Attr
set_option linter.unusedVariables false
attribute [local go_sem ↓] Sc.exec_storeS Sc.exec_loadS
attribute [local go_sem] blkOf_ptr isHead_ptr aggN_agg setRow_alloc rowZ_at rowZ_past scrA_size nsA_size one_scr rowOf_alloc_at rowOf_alloc_past rowOf_drew ns_pre
attribute [local go_sem] sa_w sa_h sa_mw sa_mh sa_M sa_aw sa_ah sa_A sa_onAlt sa_x sa_y sa_wrap sa_fg sa_bg sa_b sa_u sa_t sa_top sa_bot sa_noWrap sa_hide sa_sx sa_sy sa_sfg sa_sbg sa_sb sa_su sa_st sa_tabs sa_lim sa_rows
attribute [local go_sem] ns_w ns_h ns_mw ns_mh ns_M ns_aw ns_ah ns_A ns_onAlt ns_x ns_y ns_wrap ns_fg ns_bg ns_b ns_u ns_t ns_top ns_bot ns_noWrap ns_hide ns_sx ns_sy ns_sfg ns_sbg ns_sb ns_su ns_st ns_tabs ns_lim ns_rows
attribute [local go_sem] ns_at0 ns_at1 ns_at2 ns_at3 ns_at4 ns_at5 ns_at6 ns_at7 ns_at8 ns_at9 ns_at10 ns_at11 ns_at12 ns_at13 ns_at14 ns_at15 ns_at16 ns_at17 ns_at18 ns_at19 ns_at20 ns_at21 ns_at22 ns_at23 ns_at24 ns_at25 ns_at26 ns_at27 ns_at28 ns_at29 ns_at30 ns_at31 ns_at32 ns_at33 ns_at34 ns_at35 ns_at36 ns_at37
attribute [local go_sem] scr_at0 scr_at1 scr_at2 scr_at3 scr_at4 scr_at5 scr_at6 scr_at7 scr_at8 scr_at9 scr_at10 scr_at11 scr_at12 scr_at13 scr_at14 scr_at15 scr_at16 scr_at17 scr_at18 scr_at19 scr_at20 scr_at21 scr_at22 scr_at23 scr_at24 scr_at25 scr_at26 scr_at27 scr_at28 scr_at29 scr_at30
set_option maxRecDepth 100000 in
set_option maxHeartbeats 3200000 in
theorem down_any (t : ScrS) (g B : Nat) (w : World) (hg : RowN w g t) (ho : OwnS w B t) (hok : okD t.data = true) (hB : B ≤ g) : Calls Try.prog 64 #[.pointer (some ⟨g, 0, none⟩)] w (Mth B g (downD t.data) w) := by
  obtain ⟨W, H, X, Y, T, Bt, L, fit⟩ := ok_fit hok
  have et : t.top = (T : Int) := fit.top
  have eb : t.bot = (Bt : Int) := fit.bot
  have ey : t.y = (Y : Int) := fit.y
  have ehh : t.h = (H : Int) := fit.h
  have hr : Rol { t with wrap := false } W H := rol_of (t := { t with wrap := false }) ⟨fit.w, fit.h, fit.mw, fit.mh, fit.aw, fit.ah, fit.w1, fit.w2, fit.h1, fit.h2, fit.wh, fit.ml, fit.al, fit.x, fit.x2, fit.y, fit.y2, fit.top, fit.bot, fit.tb, fit.bh, fit.lim, fit.l2, fit.rl⟩
  have hh := fit.h2
  have hh1 := fit.h1
  have hy2 := fit.y2
  have hbh := fit.bh
  have HN1 := Lib.hid (show RowN (w.setCell ⟨g, 11, none⟩ (.bool false)) g { t with wrap := false } from hg.s_wrap (z := false))
  have HO1 := Lib.hid (show OwnS (w.setCell ⟨g, 11, none⟩ (.bool false)) B { t with wrap := false } from by have h := hg.own (j := 11) (v := .bool false) ho; exact ⟨h.c, h.t, h.r⟩)
  have HB1 := Lib.hid (show Below B w (w.setCell ⟨g, 11, none⟩ (.bool false)) from (Below.refl _ _).setCell (by simpa using hB) _)
  have hgl : g < w.heap.size := hg.lt
  have hbl : B ≤ w.heap.size := by omega
  have k10 : w.cell? ⟨g, 10, none⟩ = some (.int .i64 (Y : Int)) := by rw [← ey]; exact hg.cell 10
  have k18 : w.cell? ⟨g, 18, none⟩ = some (.int .i64 (Bt : Int)) := by rw [← eb]; exact hg.cell 18
  have k1 : w.cell? ⟨g, 1, none⟩ = some (.int .i64 (H : Int)) := by rw [← ehh]; exact hg.cell 1
  have k11 : w.cell? ⟨g, 11, none⟩ = some (.bool t.wrap) := hg.cell 11
  have hf := hg.free
  by_cases hyt : Y = Bt
  · have HU := Lib.hid (show downD t.data = roll1D { t.data with wrap := false } from by unfold downD; rw [if_pos (show t.data.y = t.data.bot from by show t.y = t.bot; rw [ey, eb, hyt])])
    have hfit : Fit { t.data with wrap := false } W H X Y T Bt L := ⟨fit.w, fit.h, fit.mw, fit.mh, fit.aw, fit.ah, fit.w1, fit.w2, fit.h1, fit.h2, fit.wh, fit.ml, fit.al, fit.x, fit.x2, fit.y, fit.y2, fit.top, fit.bot, fit.tb, fit.bh, fit.lim, fit.l2, fit.rl⟩
    have HS := Lib.hid (scroll_any { t with wrap := false } g B _ 1 hfit HN1.out.drew HO1.out.drew hB)
    have HSD := Lib.hid (show scrollD ({ t with wrap := false } : ScrS).data 1 = downD t.data from by rw [HU.out]; exact scrollD_one hfit)
    subst hyt
    clear hg ho hok fit hr ey et eb ehh hfit
    go_enter Try.func64, Try.ntmps64
    go_upto_region 1 with fail
    go_region
    all_goals
      go_wp2_with fail
      refine HS.out.mono ?_
      rintro e v ⟨rfl, t2, hR, hO, hd, hb⟩
      have HR := Lib.hid hR
      have HO := Lib.hid hO
      have HD := Lib.hid hd
      have HBB := Lib.hid (undrew hb)
      clear hR hO hd hb HS
      go_wp2_with fail
      go_end0
      exact ⟨rfl, t2, HR.out, HO.out, by rw [HD.out, HSD.out], HB1.out.trans HBB.out⟩
  · have hyt' : ¬ (Y : Int) = (Bt : Int) := by omega
    have HU := Lib.hid (show downD t.data = { t.data with wrap := false, y := min ((Y : Int) + 1) ((H : Int) - 1) } from by
      unfold downD
      rw [if_neg (show ¬ t.data.y = t.data.bot from by show ¬ t.y = t.bot; rw [ey, eb]; exact hyt')]
      have e1 : min (t.data.y + 1) (t.data.h - 1) = min ((Y : Int) + 1) ((H : Int) - 1) := by rw [show t.data.y = (Y : Int) from ey, show t.data.h = (H : Int) from ehh]
      rw [e1])
    clear hg ho hok fit hr ey et eb ehh
    have hmn : min ((Y : Int) + 1) ((H : Int) - 1) = if (Y : Int) + 1 < (H : Int) then (Y : Int) + 1 else (H : Int) - 1 := by split <;> omega
    have hw1 : IntKind.i64.wrap ((Y : Int) + 1) = (Y : Int) + 1 := IntWalk.i64_in _ (by omega)
    have hw2 : IntKind.i64.wrap ((H : Int) - 1) = (H : Int) - 1 := IntWalk.i64_in _ (by omega)
    obtain ⟨Z, hZ⟩ : ∃ Z, Z = min ((Y : Int) + 1) ((H : Int) - 1) := ⟨_, rfl⟩
    have HZ := Lib.hid hZ
    rw [← hZ] at HU
    clear hmn hZ
    go_enter Try.func64, Try.ntmps64
    go_upto_region 1 with fail
    go_region
    all_goals
      go_upto_region 2 with fail
      go_region
    all_goals
      go_wp2_with fail
      all_goals
        first
          | (have hz : Z = (Y : Int) + 1 := by have := HZ.out; omega
             refine bodyPost_ret (v := .tuple #[]) (results_none rfl _ _ _) rfl ⟨rfl, { t with wrap := false, y := (Y : Int) + 1 }, (HN1.out.s_y (z := (Y : Int) + 1)).drew.drew, ?_, ?_, ((HB1.out.setCell (by simpa using hB) _)).drew.drew⟩
             · have h := (HN1.out.own (j := 10) (v := .int .i64 ((Y : Int) + 1)) HO1.out).drew.drew
               exact ⟨h.c, h.t, h.r⟩
             · rw [HU.out, hz]; rfl)
          | (have hz : Z = (H : Int) - 1 := by have := HZ.out; omega
             refine bodyPost_ret (v := .tuple #[]) (results_none rfl _ _ _) rfl ⟨rfl, { t with wrap := false, y := (H : Int) - 1 }, (HN1.out.s_y (z := (H : Int) - 1)).drew.drew, ?_, ?_, ((HB1.out.setCell (by simpa using hB) _)).drew.drew⟩
             · have h := (HN1.out.own (j := 10) (v := .int .i64 ((H : Int) - 1)) HO1.out).drew.drew
               exact ⟨h.c, h.t, h.r⟩
             · rw [HU.out, hz]; rfl)
end Go.Proofs.Ythlpchojlddnbaa.Sc

