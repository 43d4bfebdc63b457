/- Words and lemmas, merged (once: ScRollI, ScUpI, ScUpZ) -/
import Derived.Test.YtbifbeahakchjaaKiC
import Derived.Test.YtbifbeahakchjaaKiP
import Derived.Test.YtbifbeahakchjaaGrRollB
import Derived.Deep.RegionHeld3
import Derived.Deep.Cut
import Derived.Deep.CutRange
import Derived.Deep.DeepCutAuto
import Derived.IntWalk
import Derived.Test.YtbifbeahakchjaaKiD
namespace Go.Proofs.Ytbifbeahakchjaa.Sc
open Go.RowKit Go.Proofs.Ytbifbeahakchjaa.Bytes Go.Proofs.Ytbifbeahakchjaa.Rows_ Go.Proofs.Ytbifbeahakchjaa.RowK Go.Proofs.Ytbifbeahakchjaa.Gr Go.Proofs.Ytbifbeahakchjaa.DOk Go.Proofs.Ytbifbeahakchjaa.Opq Go.Proofs.Ytbifbeahakchjaa.Attr
set_option linter.unusedVariables false
attribute [local go_sem ↓] Sc.exec_storeS Sc.exec_loadS
attribute [local go_sem] blkOf_ptr isHead_ptr aggN_agg setRow_alloc rowZ_at rowZ_past scrA_size nsA_size one_scr rowOf_alloc_at rowOf_alloc_past rowOf_drew ns_pre
attribute [local go_sem] sa_w sa_h sa_mw sa_mh sa_M sa_aw sa_ah sa_A sa_onAlt sa_x sa_y sa_wrap sa_fg sa_bg sa_b sa_u sa_t sa_top sa_bot sa_noWrap sa_hide sa_sx sa_sy sa_sfg sa_sbg sa_sb sa_su sa_st sa_tabs sa_lim sa_rows
attribute [local go_sem] ns_w ns_h ns_mw ns_mh ns_M ns_aw ns_ah ns_A ns_onAlt ns_x ns_y ns_wrap ns_fg ns_bg ns_b ns_u ns_t ns_top ns_bot ns_noWrap ns_hide ns_sx ns_sy ns_sfg ns_sbg ns_sb ns_su ns_st ns_tabs ns_lim ns_rows
attribute [local go_sem] ns_at0 ns_at1 ns_at2 ns_at3 ns_at4 ns_at5 ns_at6 ns_at7 ns_at8 ns_at9 ns_at10 ns_at11 ns_at12 ns_at13 ns_at14 ns_at15 ns_at16 ns_at17 ns_at18 ns_at19 ns_at20 ns_at21 ns_at22 ns_at23 ns_at24 ns_at25 ns_at26 ns_at27 ns_at28 ns_at29 ns_at30 ns_at31 ns_at32 ns_at33 ns_at34 ns_at35 ns_at36 ns_at37
attribute [local go_sem] scr_at0 scr_at1 scr_at2 scr_at3 scr_at4 scr_at5 scr_at6 scr_at7 scr_at8 scr_at9 scr_at10 scr_at11 scr_at12 scr_at13 scr_at14 scr_at15 scr_at16 scr_at17 scr_at18 scr_at19 scr_at20 scr_at21 scr_at22 scr_at23 scr_at24 scr_at25 scr_at26 scr_at27 scr_at28 scr_at29 scr_at30
def offS (t : ScrS) : Nat := if t.onAlt then 35 else 31
set_option maxRecDepth 100000 in
set_option maxHeartbeats 3200000 in
theorem shown_any (t : ScrS) (g : Nat) (w : World) (hg : RowN w g t) : Calls Try.prog 109 #[.pointer (some ⟨g, 0, none⟩)] w fun e w' => e = .returned (.pointer (some ⟨g, offS t, none⟩)) ∧ w = w' := by
  have k8 : w.cell? ⟨g, 8, none⟩ = some (.bool t.onAlt) := hg.cell 8
  clear hg
  cases h : t.onAlt
  · rw [h] at k8
    rw [show offS t = 31 by unfold offS; rw [h]; rfl]
    go_enter Try.func109, Try.ntmps109
    go_wp2_with fail
    go_ret
    exact ⟨rfl, rfl⟩
  · rw [h] at k8
    rw [show offS t = 35 by unfold offS; rw [h]; rfl]
    go_enter Try.func109, Try.ntmps109
    go_wp2_with fail
    go_ret
    exact ⟨rfl, rfl⟩
/-- the numbers of an open screen whose shown grid may be rolled -/
structure Rol (t : ScrS) (W H : Nat) : Prop where
  w : shW t = W
  h : shH t = H
  w1 : 1 ≤ W
  w2 : W ≤ 120
  h1 : 1 ≤ H
  h2 : H ≤ 120
  n : (shC t).cs.length = W * H
  wh : W * H ≤ 4000
def rolC (t : ScrS) (top bot n : Int) : List CellD := over (shC t).cs (top * shW t).toNat (shiftL (shC t).cs (top * shW t).toNat ((bot + 1 - top) * shW t).toNat (-(shW t * clampV n (-shH t) (shH t))))
def rolS (t : ScrS) (top bot n : Int) : ScrS := putS t (shW t) (shH t) ⟨(shC t).A, (shC t).c, rolC t top bot n⟩
theorem sh_addr {w : World} {B : Nat} {t : ScrS} (h : OwnS w B t) : OwnC w B (shC t).A (shC t).cs.length (shC t).c (shC t).cs := by
  unfold shC
  cases t.onAlt
  · exact h.m
  · exact h.a
theorem sh_ss {t : ScrS} {i : Nat} (h : blkS (shC t) = some i) : SS t i := by
  unfold shC at h
  cases e : t.onAlt <;> rw [e] at h
  · exact .inl ⟨t.M, List.mem_cons_self, h⟩
  · exact .inl ⟨t.A, List.mem_cons_of_mem _ List.mem_cons_self, h⟩
/-- new cells in the shown grid's own block -/
theorem own_shown {w w' : World} {B : Nat} {t : ScrS} {cs : List CellD} (h : OwnS w B t) (hl : cs.length = (shC t).cs.length) (ho : OwnC w' B (shC t).A (shC t).cs.length (shC t).c cs) (on : Only (fun i => blkS (shC t) = some i) w w') : OwnS w' B (putS t (shW t) (shH t) ⟨(shC t).A, (shC t).c, cs⟩) := by
  have hT : OwnI w' B t.tA t.tabs.length t.tk t.tabs := Only.own h.t on (fun i hi e => own_ne (sh_addr h) h.t (by decide) i e hi)
  have hR : OwnR w' B t.bA t.rows.length t.bk t.rows := h.r.only on (fun i hi e => OwnR.ne (sh_addr h) h.r (by decide) i e hi)
  unfold shC at hl ho on ⊢
  unfold shW shH
  cases e : t.onAlt <;> rw [e] at hl ho on
  · rw [putS_f e]
    have hc := ownCs_step (pre := []) (r := t.M) (r' := ⟨t.M.A, t.M.c, cs⟩) (post := t.A :: t.rows) h.c (by show (Value.slice t.M.A cs.length t.M.c).ownBlock = (Value.slice t.M.A t.M.cs.length t.M.c).ownBlock; cases t.M.A <;> rfl) (by show OwnC w' B t.M.A cs.length t.M.c cs; rw [hl]; exact ho) on
    exact ⟨hc, hT, hR⟩
  · rw [putS_t e]
    have hc := ownCs_step (pre := [t.M]) (r := t.A) (r' := ⟨t.A.A, t.A.c, cs⟩) (post := t.rows) h.c (by show (Value.slice t.A.A cs.length t.A.c).ownBlock = (Value.slice t.A.A t.A.cs.length t.A.c).ownBlock; cases t.A.A <;> rfl) (by show OwnC w' B t.A.A cs.length t.A.c cs; rw [hl]; exact ho) on
    exact ⟨hc, hT, hR⟩
theorem rowN_put {w : World} {g : Nat} {t : ScrS} {cs : List CellD} (h : RowN w g t) (hl : cs.length = (shC t).cs.length) : RowN w g (putS t (shW t) (shH t) ⟨(shC t).A, (shC t).c, cs⟩) := by
  have e : nsA (putS t (shW t) (shH t) ⟨(shC t).A, (shC t).c, cs⟩) = nsA t := by
    unfold shC at hl ⊢
    unfold shW shH
    cases e : t.onAlt <;> rw [e] at hl
    · rw [putS_f e]; unfold nsA nsL
      show List.toArray [_, _, _, _, _, _, _, _, _, _, _, _, _, _, _, _, _, _, _, _, _, _, _, _, _, _, _, _, _, _, _, _, _, Value.slice t.M.A cs.length t.M.c, _, _, _, _] = _
      rw [hl]; rfl
    · rw [putS_t e]; unfold nsA nsL
      show List.toArray [_, _, _, _, _, _, _, _, _, _, _, _, _, _, _, _, _, _, _, _, _, _, _, _, _, _, _, _, _, _, _, _, _, _, _, _, _, Value.slice t.A.A cs.length t.A.c] = _
      rw [hl]; rfl
  unfold RowN; rw [e]; exact h
theorem rolC_len {t : ScrS} {W H : Nat} {T Bt : Nat} {n : Int} (r : Rol t W H) (h1 : T ≤ Bt) (h2 : Bt < H) : (rolC t (T : Int) (Bt : Int) n).length = (shC t).cs.length := by
  unfold rolC
  rw [r.w, ← Int.natCast_mul, show (Bt : Int) + 1 - (T : Int) = ((Bt + 1 - T : Nat) : Int) by omega, ← Int.natCast_mul]
  refine over_len ?_
  rw [shiftL_len, r.n]
  show T * W + (Bt + 1 - T) * W ≤ W * H
  rw [← Nat.add_mul, Nat.mul_comm W H]
  exact Nat.mul_le_mul_right _ (by omega)
set_option maxRecDepth 100000 in
set_option maxHeartbeats 3200000 in
theorem roll_any (t : ScrS) (g B : Nat) (w : World) (W H T Bt : Nat) (n : Int) (hg : RowN w g t) (ho : OwnS w B t) (r : Rol t W H) (h1 : T ≤ Bt) (h2 : Bt < H) :
    Calls Try.prog 151 #[.pointer (some ⟨g, offS t, none⟩), .int .i64 (T : Int), .int .i64 (Bt : Int), .int .i64 n] w fun e w' => e = .returned (.tuple #[]) ∧ RowN w' g (rolS t T Bt n) ∧ OwnS w' B (rolS t T Bt n) ∧ Only (SS t) w w' := by
  have hc := sh_addr ho
  have hlen : (shC t).cs.length = W * H := r.n
  obtain ⟨q, hq⟩ := own_addr hc (by rw [hlen]; exact Nat.mul_pos (by have := r.w1; omega) (by have := r.h1; omega))
  have hc2 : OwnC w B (some ⟨q, 0, none⟩) (shC t).cs.length (shC t).c (shC t).cs := by rw [← hq]; exact hc
  have hC := rollRows_any W H T Bt q (shC t).cs.length (shC t).c B n (shC t).cs w hc2 (by have := r.wh; omega) h1 h2 r.w1 r.w2 r.h2 hlen
  have HC := Lib.hid (show Calls Try.prog 158 #[.agg #[.int .i64 (shW t), .int .i64 (shH t), .slice (shC t).A (shC t).cs.length (shC t).c], .int .i64 (T : Int), .int .i64 (Bt : Int), .int .i64 n] w (fun e w' => e = .returned (.tuple #[]) ∧ RowN w' g (rolS t T Bt n) ∧ OwnS w' B (rolS t T Bt n) ∧ Only (SS t) w w') from by
    rw [r.w, r.h, hq]
    refine hC.mono ?_
    rintro e w' ⟨rfl, ho', on⟩
    have eC : over (shC t).cs (T * W) (shiftL (shC t).cs (T * W) ((Bt + 1 - T) * W) (-((W : Int) * clampV n (-(H : Int)) (H : Int)))) = rolC t T Bt n := by
      unfold rolC
      rw [r.w, r.h, ← Int.natCast_mul, show (Bt : Int) + 1 - (T : Int) = ((Bt + 1 - T : Nat) : Int) by omega, ← Int.natCast_mul]; rfl
    rw [eC, ← hq] at ho'
    have hl := rolC_len (n := n) r h1 h2
    have eb : ∀ i, i = q → blkS (shC t) = some i := fun i hi => by subst hi; unfold blkS; rw [hq]; rfl
    have on' : Only (fun i => blkS (shC t) = some i) w w' := on.mono eb
    refine ⟨rfl, ?_, own_shown ho hl ho' on', on'.mono (fun i hi => sh_ss hi)⟩
    exact rowN_put (hg.only on' (fun e => hg.apart ho (sh_ss e))) hl)
  have c0 : w.cell? ⟨g, offS t, none⟩ = some (.int .i64 (shW t)) := by
    unfold shW offS; cases t.onAlt
    · exact hg.cell 31
    · exact hg.cell 35
  have c1 : w.cell? ⟨g, offS t + 1, none⟩ = some (.int .i64 (shH t)) := by
    unfold shH offS; cases t.onAlt
    · exact hg.cell 32
    · exact hg.cell 36
  have c2 : w.cell? ⟨g, offS t + 2, none⟩ = some (.slice (shC t).A (shC t).cs.length (shC t).c) := by
    unfold shC offS; cases t.onAlt
    · exact hg.cell 33
    · exact hg.cell 37
  obtain ⟨k, hk⟩ : ∃ k : Nat, k = offS t := ⟨_, rfl⟩
  rw [← hk] at c0 c1 c2 ⊢
  clear hk hC hc2 hc hq hlen hg ho r
  go_enter Try.func151, Try.ntmps151
  go_wp2_with fail
  refine HC.out.mono ?_
  rintro e v ⟨rfl, hR, hO, hon⟩
  have HR := Lib.hid hR
  have HO := Lib.hid hO
  have HON := Lib.hid hon
  clear hR hO hon HC c0 c1 c2
  go_wp2_with fail
  go_end0
  exact ⟨rfl, HR.out, HO.out, HON.out⟩
end Go.Proofs.Ytbifbeahakchjaa.Sc
namespace Go.Proofs.Ytbifbeahakchjaa.Sc
open Go.RowKit Go.Proofs.Ytbifbeahakchjaa.Bytes Go.Proofs.Ytbifbeahakchjaa.Rows_ Go.Proofs.Ytbifbeahakchjaa.RowK Go.Proofs.Ytbifbeahakchjaa.Gr Go.Proofs.Ytbifbeahakchjaa.DOk Go.Proofs.Ytbifbeahakchjaa.Opq Go.Proofs.Ytbifbeahakchjaa.Attr
set_option linter.unusedVariables false
attribute [local go_sem ↓] Sc.exec_storeS Sc.exec_loadS
attribute [local go_sem] blkOf_ptr isHead_ptr aggN_agg setRow_alloc rowZ_at rowZ_past scrA_size nsA_size one_scr rowOf_alloc_at rowOf_alloc_past rowOf_drew ns_pre
attribute [local go_sem] sa_w sa_h sa_mw sa_mh sa_M sa_aw sa_ah sa_A sa_onAlt sa_x sa_y sa_wrap sa_fg sa_bg sa_b sa_u sa_t sa_top sa_bot sa_noWrap sa_hide sa_sx sa_sy sa_sfg sa_sbg sa_sb sa_su sa_st sa_tabs sa_lim sa_rows
attribute [local go_sem] ns_w ns_h ns_mw ns_mh ns_M ns_aw ns_ah ns_A ns_onAlt ns_x ns_y ns_wrap ns_fg ns_bg ns_b ns_u ns_t ns_top ns_bot ns_noWrap ns_hide ns_sx ns_sy ns_sfg ns_sbg ns_sb ns_su ns_st ns_tabs ns_lim ns_rows
attribute [local go_sem] ns_at0 ns_at1 ns_at2 ns_at3 ns_at4 ns_at5 ns_at6 ns_at7 ns_at8 ns_at9 ns_at10 ns_at11 ns_at12 ns_at13 ns_at14 ns_at15 ns_at16 ns_at17 ns_at18 ns_at19 ns_at20 ns_at21 ns_at22 ns_at23 ns_at24 ns_at25 ns_at26 ns_at27 ns_at28 ns_at29 ns_at30 ns_at31 ns_at32 ns_at33 ns_at34 ns_at35 ns_at36 ns_at37
attribute [local go_sem] scr_at0 scr_at1 scr_at2 scr_at3 scr_at4 scr_at5 scr_at6 scr_at7 scr_at8 scr_at9 scr_at10 scr_at11 scr_at12 scr_at13 scr_at14 scr_at15 scr_at16 scr_at17 scr_at18 scr_at19 scr_at20 scr_at21 scr_at22 scr_at23 scr_at24 scr_at25 scr_at26 scr_at27 scr_at28 scr_at29 scr_at30
theorem only_undrew {S : Nat → Prop} {w w' : World} (h : Only S w.drew w') : Only S w w' := ⟨h.os, h.tape, h.output, h.size, h.block⟩
/-- what a roll of the shown rows leaves -/
def RolM (t : ScrS) (g B : Nat) (T Bt n : Int) (w : World) (e : Ending) (w' : World) : Prop := e = .returned (.tuple #[]) ∧ RowN w' g (rolS t T Bt n) ∧ OwnS w' B (rolS t T Bt n) ∧ Only (SS t) w w'
set_option maxRecDepth 100000 in
set_option maxHeartbeats 3200000 in
theorem rol_of {t : ScrS} {W H X Y T Bt L : Nat} (f : Fit t.data W H X Y T Bt L) : Rol t W H := by
  have h1 : t.mw = (W : Int) := f.mw
  have h2 : t.mh = (H : Int) := f.mh
  have h3 : t.aw = (W : Int) := f.aw
  have h4 : t.ah = (H : Int) := f.ah
  have h5 : t.M.cs.length = W * H := f.ml
  have h6 : t.A.cs.length = W * H := f.al
  refine ⟨?_, ?_, f.w1, f.w2, f.h1, f.h2, ?_, f.wh⟩
  · unfold shW; cases t.onAlt
    · exact h1
    · exact h3
  · unfold shH; cases t.onAlt
    · exact h2
    · exact h4
  · unfold shC; cases t.onAlt
    · exact h5
    · exact h6
end Go.Proofs.Ytbifbeahakchjaa.Sc
namespace Go.Proofs.Ytbifbeahakchjaa.Sc
open Go.Proofs.Ytbifbeahakchjaa.Gr
theorem rollC_len {d : ScrD} {W H X Y T Bt L : Nat} (f : Fit d W H X Y T Bt L) (n : Int) : (rollC d d.top d.bot n).length = (shD d).length := by
  have hl : (shD d).length = W * H := by unfold shD; cases d.onAlt; exact f.ml; exact f.al
  unfold rollC
  rw [f.w, f.top, f.bot, ← Int.natCast_mul, show (Bt : Int) + 1 - (T : Int) = ((Bt + 1 - T : Nat) : Int) by have := f.tb; omega, ← Int.natCast_mul]
  refine over_len ?_
  rw [shiftL_len, hl]
  show T * W + (Bt + 1 - T) * W ≤ W * H
  rw [← Nat.add_mul, Nat.mul_comm W H]
  exact Nat.mul_le_mul_right _ (by have := f.tb; have := f.bh; omega)
theorem sz_put {d : ScrD} {cs : List CellD} (h : cs.length = (shD d).length) : szD (putD d cs) = szD d := by
  unfold putD; unfold shD at h
  cases e : d.onAlt <;> rw [e] at h
  · show szD { d with M := cs } = _; unfold szD; simp only [h]; rfl
  · show szD { d with A := cs } = _; unfold szD; simp only [h]; rfl
theorem sz_up (d : ScrD) : szD (okF upD d) ≤ 1048576 := sz_okF fun h => by
  have h1 := ok_size h
  obtain ⟨W, H, X, Y, T, Bt, L, f⟩ := ok_fit h
  unfold upD
  split
  · rw [sz_put (d := { d with wrap := false }) (rollC_len f (-1))]; show szD d ≤ _; omega
  · show szD d ≤ _; omega
end Go.Proofs.Ytbifbeahakchjaa.Sc
