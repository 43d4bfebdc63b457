/- Words and lemmas, merged (once: KiV, KiW) -/
import Derived.Test.YthlpchojlddnbaaKiC
import Derived.Test.YthlpchojlddnbaaKiP
import Derived.Test.YthlpchojlddnbaaGrRollB
import Derived.Deep.RegionHeld3
import Derived.Deep.Cut
import Derived.Deep.CutRange
import Derived.Deep.DeepCutAuto
import Derived.IntWalk
import Derived.Test.YthlpchojlddnbaaKiD
import Derived.Test.YthlpchojlddnbaaKiN
import Derived.Test.YthlpchojlddnbaaAppOne
import Derived.Deep.MidRow
import Derived.Deep.RegionLaw
import Derived.Deep.DrawnRows
namespace Go.Proofs.Ythlpchojlddnbaa.Sc
open Go.RowKit Go.Proofs.Ythlpchojlddnbaa.Bytes Go.Proofs.Ythlpchojlddnbaa.Rows_ Go.Proofs.Ythlpchojlddnbaa.RowK Go.Proofs.Ythlpchojlddnbaa.Gr Go.Proofs.Ythlpchojlddnbaa.DOk Go.Proofs.Ythlpchojlddnbaa.Opq Go.Proofs.Ythlpchojlddnbaa.Attr
set_option linter.unusedVariables false
attribute [local go_sem ↓] Sc.exec_storeS Sc.exec_loadS
attribute [local go_sem] blkOf_ptr isHead_ptr aggN_agg setRow_alloc rowZ_at rowZ_past scrA_size nsA_size one_scr rowOf_alloc_at rowOf_alloc_past rowOf_drew ns_pre
attribute [local go_sem] sa_w sa_h sa_mw sa_mh sa_M sa_aw sa_ah sa_A sa_onAlt sa_x sa_y sa_wrap sa_fg sa_bg sa_b sa_u sa_t sa_top sa_bot sa_noWrap sa_hide sa_sx sa_sy sa_sfg sa_sbg sa_sb sa_su sa_st sa_tabs sa_lim sa_rows
attribute [local go_sem] ns_w ns_h ns_mw ns_mh ns_M ns_aw ns_ah ns_A ns_onAlt ns_x ns_y ns_wrap ns_fg ns_bg ns_b ns_u ns_t ns_top ns_bot ns_noWrap ns_hide ns_sx ns_sy ns_sfg ns_sbg ns_sb ns_su ns_st ns_tabs ns_lim ns_rows
attribute [local go_sem] ns_at0 ns_at1 ns_at2 ns_at3 ns_at4 ns_at5 ns_at6 ns_at7 ns_at8 ns_at9 ns_at10 ns_at11 ns_at12 ns_at13 ns_at14 ns_at15 ns_at16 ns_at17 ns_at18 ns_at19 ns_at20 ns_at21 ns_at22 ns_at23 ns_at24 ns_at25 ns_at26 ns_at27 ns_at28 ns_at29 ns_at30 ns_at31 ns_at32 ns_at33 ns_at34 ns_at35 ns_at36 ns_at37
attribute [local go_sem] scr_at0 scr_at1 scr_at2 scr_at3 scr_at4 scr_at5 scr_at6 scr_at7 scr_at8 scr_at9 scr_at10 scr_at11 scr_at12 scr_at13 scr_at14 scr_at15 scr_at16 scr_at17 scr_at18 scr_at19 scr_at20 scr_at21 scr_at22 scr_at23 scr_at24 scr_at25 scr_at26 scr_at27 scr_at28 scr_at29 scr_at30
def offS (t : ScrS) : Nat := if t.onAlt then 35 else 31
set_option maxRecDepth 100000 in
set_option maxHeartbeats 3200000 in
theorem shown_any (t : ScrS) (g : Nat) (w : World) (hg : RowN w g t) : Calls Try.prog 104 #[.pointer (some ⟨g, 0, none⟩)] w fun e w' => e = .returned (.pointer (some ⟨g, offS t, none⟩)) ∧ w = w' := by
  have k8 : w.cell? ⟨g, 8, none⟩ = some (.bool t.onAlt) := hg.cell 8
  clear hg
  cases h : t.onAlt
  · rw [h] at k8
    rw [show offS t = 31 by unfold offS; rw [h]; rfl]
    go_enter Try.func104, Try.ntmps104
    go_wp2_with fail
    go_ret
    exact ⟨rfl, rfl⟩
  · rw [h] at k8
    rw [show offS t = 35 by unfold offS; rw [h]; rfl]
    go_enter Try.func104, Try.ntmps104
    go_wp2_with fail
    go_ret
    exact ⟨rfl, rfl⟩
/-- the numbers of an open screen whose shown grid may be rolled -/
structure Rol (t : ScrS) (W H : Nat) : Prop where
  w : shW t = W
  h : shH t = H
  w1 : 1 ≤ W
  w2 : W ≤ 120
  h1 : 1 ≤ H
  h2 : H ≤ 120
  n : (shC t).cs.length = W * H
  wh : W * H ≤ 4000
def rolC (t : ScrS) (top bot n : Int) : List CellD := over (shC t).cs (top * shW t).toNat (shiftL (shC t).cs (top * shW t).toNat ((bot + 1 - top) * shW t).toNat (-(shW t * clampV n (-shH t) (shH t))))
def rolS (t : ScrS) (top bot n : Int) : ScrS := putS t (shW t) (shH t) ⟨(shC t).A, (shC t).c, rolC t top bot n⟩
theorem sh_addr {w : World} {B : Nat} {t : ScrS} (h : OwnS w B t) : OwnC w B (shC t).A (shC t).cs.length (shC t).c (shC t).cs := by
  unfold shC
  cases t.onAlt
  · exact h.m
  · exact h.a
theorem sh_ss {t : ScrS} {i : Nat} (h : blkS (shC t) = some i) : SS t i := by
  unfold shC at h
  cases e : t.onAlt <;> rw [e] at h
  · exact .inl ⟨t.M, List.mem_cons_self, h⟩
  · exact .inl ⟨t.A, List.mem_cons_of_mem _ List.mem_cons_self, h⟩
/-- new cells in the shown grid's own block -/
theorem own_shown {w w' : World} {B : Nat} {t : ScrS} {cs : List CellD} (h : OwnS w B t) (hl : cs.length = (shC t).cs.length) (ho : OwnC w' B (shC t).A (shC t).cs.length (shC t).c cs) (on : Only (fun i => blkS (shC t) = some i) w w') : OwnS w' B (putS t (shW t) (shH t) ⟨(shC t).A, (shC t).c, cs⟩) := by
  have hT : OwnI w' B t.tA t.tabs.length t.tk t.tabs := Only.own h.t on (fun i hi e => own_ne (sh_addr h) h.t (by decide) i e hi)
  have hR : OwnR w' B t.bA t.rows.length t.bk t.rows := h.r.only on (fun i hi e => OwnR.ne (sh_addr h) h.r (by decide) i e hi)
  unfold shC at hl ho on ⊢
  unfold shW shH
  cases e : t.onAlt <;> rw [e] at hl ho on
  · rw [putS_f e]
    have hc := ownCs_step (pre := []) (r := t.M) (r' := ⟨t.M.A, t.M.c, cs⟩) (post := t.A :: t.rows) h.c (by show (Value.slice t.M.A cs.length t.M.c).ownBlock = (Value.slice t.M.A t.M.cs.length t.M.c).ownBlock; cases t.M.A <;> rfl) (by show OwnC w' B t.M.A cs.length t.M.c cs; rw [hl]; exact ho) on
    exact ⟨hc, hT, hR⟩
  · rw [putS_t e]
    have hc := ownCs_step (pre := [t.M]) (r := t.A) (r' := ⟨t.A.A, t.A.c, cs⟩) (post := t.rows) h.c (by show (Value.slice t.A.A cs.length t.A.c).ownBlock = (Value.slice t.A.A t.A.cs.length t.A.c).ownBlock; cases t.A.A <;> rfl) (by show OwnC w' B t.A.A cs.length t.A.c cs; rw [hl]; exact ho) on
    exact ⟨hc, hT, hR⟩
theorem rowN_put {w : World} {g : Nat} {t : ScrS} {cs : List CellD} (h : RowN w g t) (hl : cs.length = (shC t).cs.length) : RowN w g (putS t (shW t) (shH t) ⟨(shC t).A, (shC t).c, cs⟩) := by
  have e : nsA (putS t (shW t) (shH t) ⟨(shC t).A, (shC t).c, cs⟩) = nsA t := by
    unfold shC at hl ⊢
    unfold shW shH
    cases e : t.onAlt <;> rw [e] at hl
    · rw [putS_f e]; unfold nsA nsL
      show List.toArray [_, _, _, _, _, _, _, _, _, _, _, _, _, _, _, _, _, _, _, _, _, _, _, _, _, _, _, _, _, _, _, _, _, Value.slice t.M.A cs.length t.M.c, _, _, _, _] = _
      rw [hl]; rfl
    · rw [putS_t e]; unfold nsA nsL
      show List.toArray [_, _, _, _, _, _, _, _, _, _, _, _, _, _, _, _, _, _, _, _, _, _, _, _, _, _, _, _, _, _, _, _, _, _, _, _, _, Value.slice t.A.A cs.length t.A.c] = _
      rw [hl]; rfl
  unfold RowN; rw [e]; exact h
theorem rolC_len {t : ScrS} {W H : Nat} {T Bt : Nat} {n : Int} (r : Rol t W H) (h1 : T ≤ Bt) (h2 : Bt < H) : (rolC t (T : Int) (Bt : Int) n).length = (shC t).cs.length := by
  unfold rolC
  rw [r.w, ← Int.natCast_mul, show (Bt : Int) + 1 - (T : Int) = ((Bt + 1 - T : Nat) : Int) by omega, ← Int.natCast_mul]
  refine over_len ?_
  rw [shiftL_len, r.n]
  show T * W + (Bt + 1 - T) * W ≤ W * H
  rw [← Nat.add_mul, Nat.mul_comm W H]
  exact Nat.mul_le_mul_right _ (by omega)
set_option maxRecDepth 100000 in
set_option maxHeartbeats 3200000 in
theorem roll_any (t : ScrS) (g B : Nat) (w : World) (W H T Bt : Nat) (n : Int) (hg : RowN w g t) (ho : OwnS w B t) (r : Rol t W H) (h1 : T ≤ Bt) (h2 : Bt < H) :
    Calls Try.prog 124 #[.pointer (some ⟨g, offS t, none⟩), .int .i64 (T : Int), .int .i64 (Bt : Int), .int .i64 n] w fun e w' => e = .returned (.tuple #[]) ∧ RowN w' g (rolS t T Bt n) ∧ OwnS w' B (rolS t T Bt n) ∧ Only (SS t) w w' := by
  have hc := sh_addr ho
  have hlen : (shC t).cs.length = W * H := r.n
  obtain ⟨q, hq⟩ := own_addr hc (by rw [hlen]; exact Nat.mul_pos (by have := r.w1; omega) (by have := r.h1; omega))
  have hc2 : OwnC w B (some ⟨q, 0, none⟩) (shC t).cs.length (shC t).c (shC t).cs := by rw [← hq]; exact hc
  have hC := rollRows_any W H T Bt q (shC t).cs.length (shC t).c B n (shC t).cs w hc2 (by have := r.wh; omega) h1 h2 r.w1 r.w2 r.h2 hlen
  have HC := Lib.hid (show Calls Try.prog 128 #[.agg #[.int .i64 (shW t), .int .i64 (shH t), .slice (shC t).A (shC t).cs.length (shC t).c], .int .i64 (T : Int), .int .i64 (Bt : Int), .int .i64 n] w (fun e w' => e = .returned (.tuple #[]) ∧ RowN w' g (rolS t T Bt n) ∧ OwnS w' B (rolS t T Bt n) ∧ Only (SS t) w w') from by
    rw [r.w, r.h, hq]
    refine hC.mono ?_
    rintro e w' ⟨rfl, ho', on⟩
    have eC : over (shC t).cs (T * W) (shiftL (shC t).cs (T * W) ((Bt + 1 - T) * W) (-((W : Int) * clampV n (-(H : Int)) (H : Int)))) = rolC t T Bt n := by
      unfold rolC
      rw [r.w, r.h, ← Int.natCast_mul, show (Bt : Int) + 1 - (T : Int) = ((Bt + 1 - T : Nat) : Int) by omega, ← Int.natCast_mul]; rfl
    rw [eC, ← hq] at ho'
    have hl := rolC_len (n := n) r h1 h2
    have eb : ∀ i, i = q → blkS (shC t) = some i := fun i hi => by subst hi; unfold blkS; rw [hq]; rfl
    have on' : Only (fun i => blkS (shC t) = some i) w w' := on.mono eb
    refine ⟨rfl, ?_, own_shown ho hl ho' on', on'.mono (fun i hi => sh_ss hi)⟩
    exact rowN_put (hg.only on' (fun e => hg.apart ho (sh_ss e))) hl)
  have c0 : w.cell? ⟨g, offS t, none⟩ = some (.int .i64 (shW t)) := by
    unfold shW offS; cases t.onAlt
    · exact hg.cell 31
    · exact hg.cell 35
  have c1 : w.cell? ⟨g, offS t + 1, none⟩ = some (.int .i64 (shH t)) := by
    unfold shH offS; cases t.onAlt
    · exact hg.cell 32
    · exact hg.cell 36
  have c2 : w.cell? ⟨g, offS t + 2, none⟩ = some (.slice (shC t).A (shC t).cs.length (shC t).c) := by
    unfold shC offS; cases t.onAlt
    · exact hg.cell 33
    · exact hg.cell 37
  obtain ⟨k, hk⟩ : ∃ k : Nat, k = offS t := ⟨_, rfl⟩
  rw [← hk] at c0 c1 c2 ⊢
  clear hk hC hc2 hc hq hlen hg ho r
  go_enter Try.func124, Try.ntmps124
  go_wp2_with fail
  refine HC.out.mono ?_
  rintro e v ⟨rfl, hR, hO, hon⟩
  have HR := Lib.hid hR
  have HO := Lib.hid hO
  have HON := Lib.hid hon
  clear hR hO hon HC c0 c1 c2
  go_wp2_with fail
  go_end0
  exact ⟨rfl, HR.out, HO.out, HON.out⟩
end Go.Proofs.Ythlpchojlddnbaa.Sc
namespace Go.Proofs.Ythlpchojlddnbaa.Sc
open Go.RowKit Go.Proofs.Ythlpchojlddnbaa.Bytes Go.Proofs.Ythlpchojlddnbaa.Rows_ Go.Proofs.Ythlpchojlddnbaa.RowK Go.Proofs.Ythlpchojlddnbaa.Gr Go.Proofs.Ythlpchojlddnbaa.DOk Go.Proofs.Ythlpchojlddnbaa.Opq Go.Proofs.Ythlpchojlddnbaa.Attr
set_option linter.unusedVariables false
attribute [local go_sem ↓] Sc.exec_storeS Sc.exec_loadS
attribute [local go_sem] blkOf_ptr isHead_ptr aggN_agg setRow_alloc rowZ_at rowZ_past scrA_size nsA_size one_scr rowOf_alloc_at rowOf_alloc_past rowOf_drew ns_pre
attribute [local go_sem] sa_w sa_h sa_mw sa_mh sa_M sa_aw sa_ah sa_A sa_onAlt sa_x sa_y sa_wrap sa_fg sa_bg sa_b sa_u sa_t sa_top sa_bot sa_noWrap sa_hide sa_sx sa_sy sa_sfg sa_sbg sa_sb sa_su sa_st sa_tabs sa_lim sa_rows
attribute [local go_sem] ns_w ns_h ns_mw ns_mh ns_M ns_aw ns_ah ns_A ns_onAlt ns_x ns_y ns_wrap ns_fg ns_bg ns_b ns_u ns_t ns_top ns_bot ns_noWrap ns_hide ns_sx ns_sy ns_sfg ns_sbg ns_sb ns_su ns_st ns_tabs ns_lim ns_rows
attribute [local go_sem] ns_at0 ns_at1 ns_at2 ns_at3 ns_at4 ns_at5 ns_at6 ns_at7 ns_at8 ns_at9 ns_at10 ns_at11 ns_at12 ns_at13 ns_at14 ns_at15 ns_at16 ns_at17 ns_at18 ns_at19 ns_at20 ns_at21 ns_at22 ns_at23 ns_at24 ns_at25 ns_at26 ns_at27 ns_at28 ns_at29 ns_at30 ns_at31 ns_at32 ns_at33 ns_at34 ns_at35 ns_at36 ns_at37
attribute [local go_sem] scr_at0 scr_at1 scr_at2 scr_at3 scr_at4 scr_at5 scr_at6 scr_at7 scr_at8 scr_at9 scr_at10 scr_at11 scr_at12 scr_at13 scr_at14 scr_at15 scr_at16 scr_at17 scr_at18 scr_at19 scr_at20 scr_at21 scr_at22 scr_at23 scr_at24 scr_at25 scr_at26 scr_at27 scr_at28 scr_at29 scr_at30
theorem only_undrew {S : Nat → Prop} {w w' : World} (h : Only S w.drew w') : Only S w w' := ⟨h.os, h.tape, h.output, h.size, h.block⟩
/-- what a roll of the shown rows leaves -/
def RolM (t : ScrS) (g B : Nat) (T Bt n : Int) (w : World) (e : Ending) (w' : World) : Prop := e = .returned (.tuple #[]) ∧ RowN w' g (rolS t T Bt n) ∧ OwnS w' B (rolS t T Bt n) ∧ Only (SS t) w w'
set_option maxRecDepth 100000 in
set_option maxHeartbeats 3200000 in
theorem rol_of {t : ScrS} {W H X Y T Bt L : Nat} (f : Fit t.data W H X Y T Bt L) : Rol t W H := by
  have h1 : t.mw = (W : Int) := f.mw
  have h2 : t.mh = (H : Int) := f.mh
  have h3 : t.aw = (W : Int) := f.aw
  have h4 : t.ah = (H : Int) := f.ah
  have h5 : t.M.cs.length = W * H := f.ml
  have h6 : t.A.cs.length = W * H := f.al
  refine ⟨?_, ?_, f.w1, f.w2, f.h1, f.h2, ?_, f.wh⟩
  · unfold shW; cases t.onAlt
    · exact h1
    · exact h3
  · unfold shH; cases t.onAlt
    · exact h2
    · exact h4
  · unfold shC; cases t.onAlt
    · exact h5
    · exact h6
end Go.Proofs.Ythlpchojlddnbaa.Sc
namespace Go.Proofs.Ythlpchojlddnbaa.Sc
open Go.Proofs.Ythlpchojlddnbaa.Gr
theorem rollC_len {d : ScrD} {W H X Y T Bt L : Nat} (f : Fit d W H X Y T Bt L) (n : Int) : (rollC d d.top d.bot n).length = (shD d).length := by
  have hl : (shD d).length = W * H := by unfold shD; cases d.onAlt; exact f.ml; exact f.al
  unfold rollC
  rw [f.w, f.top, f.bot, ← Int.natCast_mul, show (Bt : Int) + 1 - (T : Int) = ((Bt + 1 - T : Nat) : Int) by have := f.tb; omega, ← Int.natCast_mul]
  refine over_len ?_
  rw [shiftL_len, hl]
  show T * W + (Bt + 1 - T) * W ≤ W * H
  rw [← Nat.add_mul, Nat.mul_comm W H]
  exact Nat.mul_le_mul_right _ (by have := f.tb; have := f.bh; omega)
theorem sz_put {d : ScrD} {cs : List CellD} (h : cs.length = (shD d).length) : szD (putD d cs) = szD d := by
  unfold putD; unfold shD at h
  cases e : d.onAlt <;> rw [e] at h
  · show szD { d with M := cs } = _; unfold szD; simp only [h]; rfl
  · show szD { d with A := cs } = _; unfold szD; simp only [h]; rfl
end Go.Proofs.Ythlpchojlddnbaa.Sc
namespace Go.Proofs.Ythlpchojlddnbaa.Sc
open Go.RowKit Go.Proofs.Ythlpchojlddnbaa.Bytes Go.Proofs.Ythlpchojlddnbaa.Rows_ Go.Proofs.Ythlpchojlddnbaa.RowK Go.Proofs.Ythlpchojlddnbaa.Gr Go.Proofs.Ythlpchojlddnbaa.DOk Go.Proofs.Ythlpchojlddnbaa.Opq
set_option linter.unusedVariables false
def rowV (r : SlC) : Value := .slice r.A r.cs.length r.c
theorem append_room_at {w : World} {E t ty : TypeId} {i0 : TypeInfo} (ht : Try.prog.underlying t = some (.slice E)) (hi : Try.prog.info? E = some i0) (h1 : i0.size = 1) (g p n c : Nat) (cur : Array Value) (hg : w.heap[g]? = some (.cells cur E (0, 0))) (a : Addr) (c1 : Nat) (u : Value) (hu : w.cell? a = some u) (hone : u.oneCell' = true) (hroom : n + 1 ≤ c) (hfit : p + n + 1 ≤ cur.size) :
    (Builtin.append_ #[t, t] ty #[.slice (some ⟨g, p, none⟩) n c, .slice (some a) 1 c1]).run Try.prog w = .ok (.slice (some ⟨g, p, none⟩) (n + 1) c) (w.setRow g (cur.toList.take (p + n) ++ [u] ++ cur.toList.drop (p + n + 1)).toArray) := by
  have hf := run_firstCells_some (P := Try.prog) w i0.size 1 a 1 c1 [u] (by rw [h1]; rfl) (fun j v hv => by
    cases j with
    | zero => simp at hv; subst hv; have : a.add 0 = a := by unfold Addr.add; split <;> simp_all
              rw [this]; exact hu
    | succ j => simp at hv)
  have hst := run_storeCells_at Try.prog g (p + n) E [u] 0 cur w hg (by simpa using hfit) (by intro v hv; simp at hv; subst hv; exact hone)
  simp only [Nat.add_zero, List.length_singleton] at hst
  rw [h1] at hf
  simp [Builtin.append_, run_underlying ht, sizeOf, typeInfo, hi, Builtin.lenOf, hroom, hf, h1, Addr.add_mid, hst]
theorem OwnR.cells {w : World} {base n c : Nat} {ad : Addr} {rs : List SlC} (h : OwnR w base (some ad) n c rs) : ∀ j v, (rs.map rowV)[j]? = some v → w.cell? (ad.add j) = some v := by
  rcases h.2 with ⟨e, _⟩ | ⟨g, p, cur, e, hb, hg, hnc, hm, hs, ht⟩
  · cases e
  · injection e with e; subst e
    intro j v hv
    rw [List.getElem?_map] at hv
    obtain ⟨r, hr, rfl⟩ := Option.map_eq_some_iff.1 hv
    have := ht j r hr
    rw [Addr.add_mid]; simp only [World.cell?, hg]; exact this
set_option maxRecDepth 100000 in
set_option maxHeartbeats 800000 in
theorem run_append_row {w : World} {base n c : Nat} {A : Option Addr} {rs : List SlC} {r : SlC} {ty : TypeId} (h : OwnR w base A n c rs) (a : Addr) (c1 : Nat) (hu : w.cell? a = some (rowV r)) (hn : n ≤ 1000000) (hbase : base ≤ w.heap.size) :
    ∃ A' c' w', (Builtin.append_ #[51, 51] ty #[.slice A n c, .slice (some a) 1 c1]).run Try.prog w = .ok (.slice A' (n + 1) c') w' ∧ OwnR w' base A' (n + 1) c' (rs ++ [r]) ∧ w.grownBy w' (Value.slice A n c).ownBlock := by
  obtain ⟨i0, hi, hz0, hz1, hz2⟩ := info_parts rowInfo
  have hml : maxLen = maxLen := rfl
  have hnews : ∀ j v, [rowV r][j]? = some v → w.cell? (a.add j) = some v := fun j v hv => by
    cases j with
    | zero => simp at hv; subst hv; have : a.add 0 = a := by unfold Addr.add; split <;> simp_all
              rw [this]; exact hu
    | succ j => simp at hv
  have mk : ∀ (W : World) (olds : List SlC) (cap : Nat) (C : Array Value), W.heap[w.heap.size]? = some (.cells C 115 (0, 0)) → C = ((olds.map rowV).toArray ++ [rowV r].toArray ++ Builtin.zeroCells #[Value.slice none 0 0] (cap - (olds.length + 1))) → olds.length + 1 ≤ cap → cap ≤ maxLen → OwnR W base (some ⟨w.heap.size, 0, none⟩) (olds.length + 1) cap (olds ++ [r]) := fun W olds cap C hW hC h1 h2 => by
    have hsz : C.size = cap := by rw [hC]; simp [Builtin.zeroCells]; omega
    refine ⟨by simp, .inr ⟨_, 0, C, rfl, hbase, hW, h1, by omega, by omega, fun i x hx => ?_⟩⟩
    have hi' : i < olds.length + 1 := by have := (List.getElem?_eq_some_iff.1 hx).1; simpa using this
    have hx2 : ((olds ++ [r]).map rowV)[i]? = some (rowV x) := by rw [List.getElem?_map, hx]; rfl
    rw [Nat.zero_add, hC, Array.getElem?_append_left (by simp; omega)]
    rw [List.map_append] at hx2
    have e : ((olds.map rowV).toArray ++ [rowV r].toArray) = (olds.map rowV ++ [rowV r]).toArray := by simp
    rw [e, List.getElem?_toArray]; exact hx2
  have hlen := h.1
  rcases h.2 with ⟨rfl, rfl, rfl⟩ | ⟨g, p, cur, rfl, hb, hg, hnc, hm, hs, ht⟩
  · obtain rfl : rs = [] := List.eq_nil_of_length_eq_zero hlen
    refine ⟨_, _, _, run_append_nil (P := Try.prog) w 51 ty 115 i0 (.agg #[.slice none 0 0]) Try.underlying51 hi hz0 a 1 c1 [rowV r] (by rw [hz1]; rfl) hnews (by omega) (by omega) (by rw [hz2]; omega), ?_, ⟨rfl, rfl, rfl, by simp, fun k hk _ => Below.heap_alloc w.drew _ k hk⟩⟩
    exact mk _ [] _ _ (heap_alloc_new w.drew _) (by simp [Value.cells]) (grownCap_ge _ _ _ _) (grownCap_le_maxLen _ _ _ _ (by unfold maxLen; omega))
  · by_cases hroom : n + 1 ≤ c
    · refine ⟨_, _, _, append_room_at Try.underlying51 hi hz1 g p n c cur hg a c1 (rowV r) hu rfl hroom (by omega), ?_, ⟨rfl, rfl, rfl, by simp, fun k hk hne => Go.setRow_other w g k _ (fun e => hne (by rw [e]; rfl))⟩⟩
      have hcl : (cur.toList.take (p + n) ++ [rowV r] ++ cur.toList.drop (p + n + 1)).toArray.size = cur.size := by
        simp; omega
      refine ⟨by simp [hlen], .inr ⟨g, p, _, rfl, hb, setRow_heap w g cur _ _ _ hg, hroom, by rw [hcl]; exact hm, by rw [hcl]; exact hs, fun i x hx => ?_⟩⟩
      rw [List.getElem?_toArray, List.append_assoc]
      have hi' : i < n + 1 := by have := (List.getElem?_eq_some_iff.1 hx).1; simp [hlen] at this; omega
      have htl : (cur.toList.take (p + n)).length = p + n := by simp; omega
      by_cases hin : i < n
      · rw [List.getElem?_append_left (by rw [htl]; omega), List.getElem?_take, if_pos (by omega), Array.getElem?_toList]
        exact ht i x (by rw [List.getElem?_append_left (by omega)] at hx; exact hx)
      · obtain rfl : i = n := by omega
        rw [List.getElem?_append_right (by omega), hlen, Nat.sub_self] at hx
        injection hx with hx; subst hx
        rw [List.getElem?_append_right (by rw [htl]; exact Nat.le_refl _), htl, Nat.sub_self]; rfl
    · have hc := h.cells
      refine ⟨_, _, _, run_append_grow (P := Try.prog) w 51 ty 115 i0 (.agg #[.slice none 0 0]) Try.underlying51 hi hz0 ⟨g, p, none⟩ n c (rs.map rowV) (by rw [hz1, List.length_map, hlen]; omega) hc a 1 c1 [rowV r] (by rw [hz1]; rfl) hnews (by omega) (by omega) (growslice_fits (by omega) (by rw [hz2]; omega)), ?_, ⟨rfl, rfl, rfl, by simp, fun k hk _ => Below.heap_alloc w.drew _ k hk⟩⟩
      have h1 := mk _ rs (grownCap w (n + 1) c 115) _ (heap_alloc_new w.drew _) (by rw [hlen]) (by rw [hlen]; exact grownCap_ge _ _ _ _) (grownCap_le_maxLen _ _ _ _ (by unfold maxLen; omega))
      rw [hlen] at h1; exact h1
/-- one row appended in a region that draws its order -/
theorem step_row {V : World} {ops : Array Oper} {o : Oper} {a : Act} {K : Act → World → Prop} {Q : Exit → Act → World → Prop} {E : Prop} (hgd : o.guard = none) (s x : Operand)
    (ho : o.op = .call { callee := .builtin .append, args := #[s, x], argTypes := #[51, 51] })
    {base n c : Nat} {A : Option Addr} {rs : List SlC} {zA : Option Addr} {zn zc : Nat} {zcs : List CellD} (hzn : zcs.length = zn) (hs : a.eval s = .slice A n c) (H : Nat) (hH : V.heap.size = H) (hx : a.eval x = .slice (some ⟨H, 0, none⟩) 1 1)
    (hown : OwnR V base A n c rs) (hn : n ≤ 1000000) (hbase : base ≤ V.heap.size)
    (h : ∀ A' c' w', OwnR w' base A' (n + 1) c' (rs ++ [⟨zA, zc, zcs⟩]) → V.grownBy w' (Value.slice A n c).ownBlock → K (a.put o.dst (.slice A' (n + 1) c')) w') :
    if Region.wanted o (yielded ops a.tmps) = true then Oper.wp Try.prog o a (V.alloc (.cells #[.slice zA zn zc] 115)) K Q else E := by
  have hw : Region.wanted o (yielded ops a.tmps) = true := by simp [Region.wanted, hgd]
  rw [if_pos hw]
  subst hH
  subst hzn
  have ho2 : OwnR (V.alloc (.cells #[.slice zA zcs.length zc] 115)) base A n c rs := hown.below (Nat.le_refl _) ((Below.refl _ _).alloc (Nat.le_refl _) _)
  obtain ⟨A', c', w', hr, h2, h3⟩ := run_append_row (ty := o.type) (r := ⟨zA, zc, zcs⟩) ho2 ⟨V.heap.size, 0, none⟩ 1 ((RowB.new V #[.slice zA zcs.length zc] 115).cell 0) hn (by simp; omega)
  unfold Oper.wp
  simp [execOp, ho, resolve, invoke, builtin, hs, hx, hr, Result.andThen]
  exact h A' c' w' h2 (grown_trans (World.grownBy_alloc V _ _) h3)
end Go.Proofs.Ythlpchojlddnbaa.Sc
namespace Go.Proofs.Ythlpchojlddnbaa.Sc
open Go.RowKit Go.Proofs.Ythlpchojlddnbaa.Bytes Go.Proofs.Ythlpchojlddnbaa.Rows_ Go.Proofs.Ythlpchojlddnbaa.RowK Go.Proofs.Ythlpchojlddnbaa.Gr Go.Proofs.Ythlpchojlddnbaa.DOk Go.Proofs.Ythlpchojlddnbaa.Opq Go.Proofs.Ythlpchojlddnbaa.Attr
set_option linter.unusedVariables false
attribute [local go_sem ↓] Sc.exec_storeS Sc.exec_loadS
attribute [local go_sem] blkOf_ptr isHead_ptr aggN_agg setRow_alloc rowZ_at rowZ_past scrA_size nsA_size one_scr rowOf_alloc_at rowOf_alloc_past rowOf_drew ns_pre
attribute [local go_sem] sa_w sa_h sa_mw sa_mh sa_M sa_aw sa_ah sa_A sa_onAlt sa_x sa_y sa_wrap sa_fg sa_bg sa_b sa_u sa_t sa_top sa_bot sa_noWrap sa_hide sa_sx sa_sy sa_sfg sa_sbg sa_sb sa_su sa_st sa_tabs sa_lim sa_rows
attribute [local go_sem] ns_w ns_h ns_mw ns_mh ns_M ns_aw ns_ah ns_A ns_onAlt ns_x ns_y ns_wrap ns_fg ns_bg ns_b ns_u ns_t ns_top ns_bot ns_noWrap ns_hide ns_sx ns_sy ns_sfg ns_sbg ns_sb ns_su ns_st ns_tabs ns_lim ns_rows
attribute [local go_sem] ns_at0 ns_at1 ns_at2 ns_at3 ns_at4 ns_at5 ns_at6 ns_at7 ns_at8 ns_at9 ns_at10 ns_at11 ns_at12 ns_at13 ns_at14 ns_at15 ns_at16 ns_at17 ns_at18 ns_at19 ns_at20 ns_at21 ns_at22 ns_at23 ns_at24 ns_at25 ns_at26 ns_at27 ns_at28 ns_at29 ns_at30 ns_at31 ns_at32 ns_at33 ns_at34 ns_at35 ns_at36 ns_at37
attribute [local go_sem] scr_at0 scr_at1 scr_at2 scr_at3 scr_at4 scr_at5 scr_at6 scr_at7 scr_at8 scr_at9 scr_at10 scr_at11 scr_at12 scr_at13 scr_at14 scr_at15 scr_at16 scr_at17 scr_at18 scr_at19 scr_at20 scr_at21 scr_at22 scr_at23 scr_at24 scr_at25 scr_at26 scr_at27 scr_at28 scr_at29 scr_at30
theorem OwnS.keepR {w w' : World} {B B2 zn zc c' n' : Nat} {t : ScrS} {zA A' : Option Addr} {zcs : List CellD} (h : OwnS w B t) (hz : OwnC w B2 zA zn zc zcs) (hzn : zcs.length = zn) (hap : ∀ x ∈ t.M :: t.A :: t.rows, Apart x ⟨zA, zc, zcs⟩) (on : Only (fun i => (Value.slice t.bA t.rows.length t.bk).ownBlock = some i) w w') (hr : OwnR w' B A' n' c' (t.rows ++ [⟨zA, zc, zcs⟩])) (hB : B ≤ B2) : OwnS w' B { t with bA := A', bk := c', rows := t.rows ++ [⟨zA, zc, zcs⟩] } := by
  subst hzn
  have hc : OwnCs w' B (t.M :: t.A :: t.rows) := h.c.only on (fun x hx g hg hs => OwnR.ne (h.c.1 x hx) h.r (by decide) g hg hs)
  have hz' : OwnC w' B zA zcs.length zc zcs := OwnC.more (OwnC.only hz on (fun i hi hs => OwnR.ne hz h.r (by decide) i hi hs)) hB
  have ht : OwnI w' B t.tA t.tabs.length t.tk t.tabs := Only.own h.t on (fun i hi hs => OwnR.ne h.t h.r (by decide) i hi hs)
  have hl := hr.len
  subst hl
  refine ⟨⟨fun x hx => ?_, ?_⟩, ht, hr⟩
  · rcases List.mem_cons.1 hx with rfl | hx
    · exact hc.1 _ List.mem_cons_self
    · rcases List.mem_cons.1 hx with rfl | hx
      · exact hc.1 _ (List.mem_cons_of_mem _ List.mem_cons_self)
      · rcases List.mem_append.1 hx with hx | hx
        · exact hc.1 x (List.mem_cons_of_mem _ (List.mem_cons_of_mem _ hx))
        · rw [List.mem_singleton] at hx; subst hx; exact hz'
  · show (t.M :: t.A :: (t.rows ++ [⟨zA, zc, zcs⟩])).Pairwise Apart
    have e : t.M :: t.A :: (t.rows ++ [(⟨zA, zc, zcs⟩ : SlC)]) = (t.M :: t.A :: t.rows) ++ [⟨zA, zc, zcs⟩] := rfl
    rw [e]
    exact List.pairwise_append.2 ⟨hc.2, List.pairwise_singleton _ _, fun a ha b hb => by rw [List.mem_singleton] at hb; subst hb; exact hap a ha⟩
theorem OwnR.tail {w : World} {base n c : Nat} {A : Option Addr} {rs : List SlC} (h : OwnR w base A n c rs) (hn : 0 < rs.length) : ∃ b o, A = some ⟨b, o, none⟩ ∧ rs.length ≤ c ∧ OwnR w base (if c = 1 then some ⟨b, o, none⟩ else some ⟨b, o + 1, none⟩) (rs.length - 1) (c - 1) (rs.drop 1) := by
  have hl := h.1
  rcases h.2 with ⟨_, h0, _⟩ | ⟨g, p, cur, rfl, hb, hg, hnc, hm, hs, ht⟩
  · omega
  · refine ⟨g, p, rfl, by omega, by simp, .inr ?_⟩
    by_cases hc : c = 1
    · rw [if_pos hc]
      refine ⟨g, p, cur, rfl, hb, hg, by omega, by omega, hs, fun i r hr => ?_⟩
      have := (List.getElem?_eq_some_iff.1 hr).1
      simp at this; omega
    · rw [if_neg hc]
      refine ⟨g, p + 1, cur, rfl, hb, hg, by omega, by omega, hs, fun i r hr => ?_⟩
      rw [List.getElem?_drop] at hr
      have := ht (1 + i) r hr
      rw [show p + 1 + i = p + (1 + i) by omega]; exact this
theorem OwnS.drop1 {w : World} {B n' c c' : Nat} {A A' : Option Addr} {t : ScrS} {rs : List SlC} (h : OwnS w B { t with bA := A, bk := c, rows := rs }) (hr : OwnR w B A' n' c' (rs.drop 1)) : OwnS w B { t with bA := A', bk := c', rows := rs.drop 1 } := by
  have hl := hr.len
  subst hl
  have hc : OwnCs w B (t.M :: t.A :: rs) := h.c
  have hsub : (t.M :: t.A :: rs.drop 1).Sublist (t.M :: t.A :: rs) := ((List.drop_sublist 1 rs).cons_cons _).cons_cons _
  exact ⟨⟨fun x hx => hc.1 x (hsub.subset hx), hc.2.sublist hsub⟩, h.t, hr⟩
theorem rdC_sub {w : World} {B q o : Nat} {cs : List CellD} (h : RdC w B (some ⟨q, o, none⟩) cs) (lo n : Nat) (hn : lo + n ≤ cs.length) : RdC w B (some ⟨q, o + lo * 6, none⟩) ((cs.drop lo).take n) := by
  intro hp
  have hl : ((cs.drop lo).take n).length = n := by simp; omega
  rw [List.length_map, hl] at hp
  obtain ⟨b', o', e, hlt, hc⟩ := h (by rw [List.length_map]; omega)
  injection e with e; injection e with e1 e2; subst e1 e2
  refine ⟨q, o + lo * 6, rfl, hlt, fun i r hr j v hv => ?_⟩
  have h2 : (cs.map cellR)[lo + i]? = some r := by
    rw [List.getElem?_map] at hr ⊢
    have hi : i < n := by
      obtain ⟨x, hx, _⟩ := Option.map_eq_some_iff.1 hr
      have := (List.getElem?_eq_some_iff.1 hx).1; omega
    rw [List.getElem?_take, if_pos hi, List.getElem?_drop] at hr; exact hr
  have := hc (lo + i) r h2 j v hv
  rw [show o + (lo + i) * 6 + j = o + lo * 6 + i * 6 + j by omega] at this
  exact this
set_option maxRecDepth 100000 in
set_option maxHeartbeats 3200000 in
theorem row_any (t : ScrS) (g B : Nat) (w : World) (W y q : Nat) (hg : RowN w g t) (ho : OwnS w B t) (hmw : t.mw = (W : Int)) (hq : t.M.A = some ⟨q, 0, none⟩) (h1 : 1 ≤ W) (hy : y * W + W ≤ t.M.cs.length) (hyb : y ≤ 1000) (hn : t.M.cs.length ≤ 1048576) :
    Calls Try.prog 125 #[.pointer (some ⟨g, 31, none⟩), .int .i64 (y : Int)] w fun e w' => e = .returned (.slice (some ⟨q, y * W * 6, none⟩) W (t.M.c - y * W)) ∧ Below w.heap.size w w' := by
  have k31 : w.cell? ⟨g, 31, none⟩ = some (.int .i64 (W : Int)) := by rw [← hmw]; exact hg.cell 31
  have k32 : w.cell? ⟨g, 32, none⟩ = some (.int .i64 t.mh) := hg.cell 32
  have k33 : w.cell? ⟨g, 33, none⟩ = some (.slice (some ⟨q, 0, none⟩) t.M.cs.length t.M.c) := by rw [← hq]; exact hg.cell 33
  have hcap := (show OwnC w B t.M.A t.M.cs.length t.M.c t.M.cs from ho.m).cap
  have HC := Lib.hid (rowOf_any W t.mh q 0 t.M.cs.length t.M.c y w h1 hy (by omega) hcap.1 (by omega) (by have := hcap.2; omega))
  rw [Nat.zero_add] at HC
  clear hg ho hmw hq hy hcap
  go_enter Try.func125, Try.ntmps125
  go_wp2_with fail
  refine HC.out.mono ?_
  rintro e v ⟨rfl, hb⟩
  have HB := Lib.hid hb
  clear hb k31 k32 k33 HC
  go_wp2_with fail
  go_ret
  exact ⟨rfl, HB.out⟩
theorem OwnR.dropK {w : World} {base n c : Nat} {A : Option Addr} {rs : List SlC} (h : OwnR w base A n c rs) (D : Nat) (hD : D ≤ rs.length) (hp : 0 < D) : ∃ b o, A = some ⟨b, o, none⟩ ∧ rs.length ≤ c ∧ OwnR w base (if c = D then some ⟨b, o, none⟩ else some ⟨b, o + D, none⟩) (rs.length - D) (c - D) (rs.drop D) := by
  have hl := h.1
  rcases h.2 with ⟨_, h0, _⟩ | ⟨g, p, cur, rfl, hb, hg, hnc, hm, hs, ht⟩
  · omega
  · refine ⟨g, p, rfl, by omega, by simp, .inr ?_⟩
    by_cases hc : c = D
    · rw [if_pos hc]
      refine ⟨g, p, cur, rfl, hb, hg, by omega, by omega, hs, fun i r hr => ?_⟩
      have := (List.getElem?_eq_some_iff.1 hr).1
      simp at this; omega
    · rw [if_neg hc]
      refine ⟨g, p + D, cur, rfl, hb, hg, by omega, by omega, hs, fun i r hr => ?_⟩
      rw [List.getElem?_drop] at hr
      have := ht (D + i) r hr
      rw [show p + D + i = p + (D + i) by omega]; exact this
theorem OwnS.dropK {w : World} {B n' c c' D : Nat} {A A' : Option Addr} {t : ScrS} {rs : List SlC} (h : OwnS w B { t with bA := A, bk := c, rows := rs }) (hr : OwnR w B A' n' c' (rs.drop D)) : OwnS w B { t with bA := A', bk := c', rows := rs.drop D } := by
  have hl := hr.len
  subst hl
  have hc : OwnCs w B (t.M :: t.A :: rs) := h.c
  have hsub : (t.M :: t.A :: rs.drop D).Sublist (t.M :: t.A :: rs) := ((List.drop_sublist D rs).cons_cons _).cons_cons _
  exact ⟨⟨fun x hx => hc.1 x (hsub.subset hx), hc.2.sublist hsub⟩, h.t, hr⟩
/-- the first k rows of a grid's cells -/
def rowsM (M : List CellD) (W k : Nat) : List (List CellD) := (List.range k).map fun y => (M.drop (y * W)).take W
theorem rowsM_len (M : List CellD) (W k : Nat) : (rowsM M W k).length = k := by simp [rowsM]
theorem rowsM_succ (M : List CellD) (W k : Nat) : rowsM M W (k + 1) = rowsM M W k ++ [(M.drop (k * W)).take W] := by simp [rowsM, List.range_succ]
/-- rows behind the scrollback's, of which the last lim stay -/
def keepN (lim : Nat) (rows rs : List (List CellD)) : List (List CellD) := (rows ++ rs).drop (rows.length + rs.length - lim)
def KeepP (t : ScrS) (g B L : Nat) (rs : List (List CellD)) (w : World) (e : Ending) (w' : World) : Prop := e = .returned (.tuple #[]) ∧ ∃ A c gs, RowN w' g { t with bA := A, bk := c, rows := gs } ∧ OwnS w' B { t with bA := A, bk := c, rows := gs } ∧ gs.map (·.cs) = keepN L (t.rows.map (·.cs)) rs ∧ Below B w w'
def KRel (t : ScrS) (g B W k : Nat) (w wr : World) : Prop := ∃ A c gs, RowN wr g { t with bA := A, bk := c, rows := gs } ∧ OwnS wr B { t with bA := A, bk := c, rows := gs } ∧ gs.map (·.cs) = t.rows.map (·.cs) ++ rowsM t.M.cs W k ∧ Below B w wr
set_option maxRecDepth 100000 in
set_option maxHeartbeats 3200000 in
theorem keep_any (t : ScrS) (g B : Nat) (w : World) (W L : Nat) (n : Int) (hg : RowN w g t) (ho : OwnS w B t) (hmw : t.mw = (W : Int)) (h1 : 1 ≤ W) (hy : n.toNat * W ≤ t.M.cs.length) (hyb : n ≤ 1000) (hn : t.M.cs.length ≤ 1048576) (hL : L ≤ 100) (hr : t.rows.length ≤ L) (hB : B ≤ g) :
    Calls Try.prog 118 #[.pointer (some ⟨g, 31, none⟩), .int .i64 n, .int .i64 (L : Int)] w (KeepP t g B L (rowsM t.M.cs W n.toNat) w) := by
  obtain ⟨N, hN⟩ : ∃ N, N = n.toNat := ⟨_, rfl⟩
  rw [← hN] at hy ⊢
  have hNn : n ≤ (N : Int) := by omega
  have hN2 : ∀ k : Nat, k < N → (k : Int) < n := fun k hk => by omega
  have hN1 : N ≤ 1000 := by omega
  have HN2 := Lib.hid hN2
  clear hN hN2
  have HQ := Lib.hid (fun (h : 0 < N) => own_addr (show OwnC w B t.M.A t.M.cs.length t.M.c t.M.cs from ho.m) (Nat.lt_of_lt_of_le (Nat.mul_pos h h1) hy))
  have H0 := Lib.hid (show KRel t g B W 0 w w from ⟨t.bA, t.bk, t.rows, hg, ho, by simp [rowsM], Below.refl _ _⟩)
  have HMW := Lib.hid hmw
  have HY := Lib.hid hy
  have hgl : g < w.heap.size := hg.lt
  have hbl : B ≤ w.heap.size := by omega
  clear hg ho hmw hy
  go_enter Try.func118, Try.ntmps118
  go_wp2_with fail
  go_loopw [8] (fun i wr => ∃ k : Nat, k ≤ N ∧ i = .int .i64 k ∧ KRel t g B W k w wr) (fun i _ => N - (intOf i).toNat)
  case atStart => exact ⟨0, Nat.zero_le _, rfl, H0.out⟩
  case round =>
    obtain ⟨k, hk, rfl, hrel⟩ := hrel
    clear H0
    obtain ⟨A, c, gs, hNr, hOr, hm, hb⟩ := hrel
    obtain ⟨t1, ht1⟩ : ∃ t1 : ScrS, t1 = { t with bA := A, bk := c, rows := gs } := ⟨_, rfl⟩
    have e1 : t1.M = t.M := by rw [ht1]
    have e2 : t1.A = t.A := by rw [ht1]
    have e3 : t1.mw = t.mw := by rw [ht1]
    have e4 : t1.rows = gs := by rw [ht1]
    rw [← ht1] at hNr hOr
    have hgw : g < wr.heap.size := hNr.lt
    have hgsl : gs.length = t.rows.length + k := by
      have := congrArg List.length hm
      rw [List.length_map, List.length_append, List.length_map, rowsM_len] at this; exact this
    have HM := Lib.hid hm
    have HB := Lib.hid hb
    have HN := Lib.hid hNr
    have HO := Lib.hid hOr
    have HT := Lib.hid ht1
    have HE1 := Lib.hid e1
    have HE3 := Lib.hid e3
    have k34 : wr.cell? ⟨g, 34, none⟩ = some (.slice t1.bA gs.length t1.bk) := by rw [← e4]; exact hNr.cell 34
    have f34 := hNr.free 34
    have HE4 := Lib.hid e4
    have hbw : B ≤ wr.heap.size := by have := hb.size; omega
    by_cases hlt : k < N
    · have hkn := HN2.out k hlt
      obtain ⟨q, hq⟩ := HQ.out (by omega)
      have HQQ := Lib.hid (show t1.M.A = some ⟨q, 0, none⟩ by rw [e1]; exact hq)
      have hyk : k * W + W ≤ t.M.cs.length := by
        have h3 : k * W + W = (k + 1) * W := by rw [Nat.add_mul, Nat.one_mul]
        have h4 : (k + 1) * W ≤ N * W := Nat.mul_le_mul_right _ (by omega)
        have := HY.out; omega
      obtain ⟨ROW, hROW⟩ : ∃ R, R = (t.M.cs.drop (k * W)).take W := ⟨_, rfl⟩
      have hRl : ROW.length = W := by rw [hROW]; simp; omega
      have hW2 : W ≤ 1048576 := by omega
      have HRD := Lib.hid (fun V (h : OwnS V B t1) => show RdC V V.heap.size (some ⟨q, k * W * 6, none⟩) ROW from by
        have h2 := h.m.rd
        rw [HQQ.out] at h2
        have h3 := rdC_sub h2 (k * W) W (by rw [e1]; exact hyk)
        rw [Nat.zero_add, e1, ← hROW] at h3; exact h3)
      have HRL := Lib.hid hRl
      have HRW := Lib.hid hROW
      have HGL := Lib.hid hgsl
      have hgb : gs.length ≤ 1100 := by omega
      have HROWANY := Lib.hid (fun V (h : RowN V g t1) (h' : OwnS V B t1) => row_any t1 g B V W k q h h' (by rw [e3]; exact HMW.out) HQQ.out h1 (by rw [e1]; exact hyk) (by omega) (by rw [e1]; exact hn))
      have HCAP := Lib.hid (show (Value.slice t1.M.A t1.M.cs.length t1.M.c) = Value.slice (some ⟨q, 0, none⟩) t.M.cs.length t1.M.c by rw [HQQ.out, e1])
      clear hNr hOr hm hb ht1 e1 e2 e3 e4 hq hyk hROW hRl hgsl
      go_upto_region 3 with fail
      go_region_law (first
        | (go_simp; go_at_call 125; (with_reducible refine (HROWANY.out _ HN.out.drew HO.out.drew).mono ?_); rintro e v1 ⟨rfl, hb1'⟩; have hb1 : Below wr.heap.size wr v1 := undrew hb1'; have HB1 := Lib.hid (hb1.mono hbw); have HN1 := Lib.hid (HN.out.below hb1 hgw); have HO1 := Lib.hid (HO.out.below (Nat.le_refl _) hb1); have k34a : v1.cell? ⟨g, 34, none⟩ = some (.slice t1.bA gs.length t1.bk) := by { rw [← HE4.out]; exact HN1.out.cell 34 }; have f34a := HN1.out.free 34; have z1 : g < v1.heap.size := HN1.out.lt; have HR1 := Lib.hid (HRD.out _ HO1.out); clear hb1 hb1')
        | (go_simp; go_at_call 93; (with_reducible refine (cloneC_any (some ⟨q, k * W * 6, none⟩) W (t1.M.c - k * W) ROW _ (fun h => by cases h) HR1.out HRL.out (by omega)).mono ?_); rintro e v2 ⟨A2, c2, rfl, ho2, hb2⟩; have HB2 := Lib.hid (HB1.out.trans (hb2.mono (by omega))); have HN2 := Lib.hid (HN1.out.below hb2 z1); have HO2 := Lib.hid (HO1.out.below (Nat.le_refl _) hb2); have HC2 := Lib.hid ho2; have k34b : v2.cell? ⟨g, 34, none⟩ = some (.slice t1.bA gs.length t1.bk) := by { rw [← HE4.out]; exact HN2.out.cell 34 }; have f34b := HN2.out.free 34; have z2 : g < v2.heap.size := HN2.out.lt; have HAP := Lib.hid (fun (x : SlC) (hx : x ∈ t1.M :: t1.A :: t1.rows) => apart_of (y := ⟨A2, c2, ROW⟩) (HO1.out.c.1 x hx) (show OwnC v2 v1.heap.size A2 ROW.length c2 ROW from HRL.out.symm ▸ ho2) (Nat.le_refl _)); clear hb2 ho2)
        | (refine step_row rfl _ _ rfl HRL.out rfl _ rfl rfl (HE4.out ▸ HO2.out.r) (by omega) (by omega) ?_; intro A' c' w1 ho1 hg1; have hon : Only (fun i => (Value.slice t1.bA t1.rows.length t1.bk).ownBlock = some i) v2 w1 := Only.grown hg1 (fun i e => by { rw [HE4.out]; exact e }); have HN3 := Lib.hid (HN2.out.only hon (HN2.out.neR HO2.out.r)); have HO3 := Lib.hid (OwnS.keepR HO2.out HC2.out HRL.out HAP.out hon (by { rw [HE4.out]; exact ho1 }) (by omega)); have HB3 := Lib.hid (HB2.out.trans (Only.below_ hon (Below.refl B _) (by omega) (fun i hi => (HO2.out.r.blk i hi).1))); have k34c : w1.cell? ⟨g, 34, none⟩ = some (.slice t1.bA gs.length t1.bk) := by { rw [← HE4.out]; exact HN3.out.cell 34 }; have f34c := HN3.out.free 34; clear ho1 hg1 hon))
      all_goals
        have e : (t1.rows ++ [(⟨A2, c2, ROW⟩ : SlC)]).length = gs.length + 1 := by rw [HE4.out]; simp
        have h := HN3.out.s_rows (A := A') (c := c') (rs := t1.rows ++ [⟨A2, c2, ROW⟩])
        rw [e] at h
        have eT : ({ t1 with bA := A', bk := c', rows := t1.rows ++ [⟨A2, c2, ROW⟩] } : ScrS) = { t with bA := A', bk := c', rows := gs ++ [⟨A2, c2, ROW⟩] } := by rw [HT.out]
        have h2 := HN3.out.own (j := 34) (v := .slice A' (gs.length + 1) c') HO3.out
        rw [eT] at h h2
        have H4 := Lib.hid h
        have O4 := Lib.hid h2
        have B4 := Lib.hid (HB3.out.setCell (p := ⟨g, 34, none⟩) (by simpa using hB) (.slice A' (gs.length + 1) c'))
        have M4 := Lib.hid (show (gs ++ [(⟨A2, c2, ROW⟩ : SlC)]).map (·.cs) = t.rows.map (·.cs) ++ rowsM t.M.cs W (k + 1) by rw [List.map_append, HM.out, rowsM_succ, ← HRW.out, List.append_assoc]; rfl)
        clear e h h2 eT
        go_wp2_with fail
        exact ⟨⟨k + 1, by omega, by go_num, ⟨A', c', gs ++ [⟨A2, c2, ROW⟩], H4.out, O4.out, M4.out, HB.out.trans B4.out⟩⟩, by simp [intOf]; omega⟩
    · obtain rfl : N = k := by omega
      have hkn : ¬ (N : Int) < n := by omega
      obtain ⟨D, hD⟩ : ∃ D, D = gs.length - L := ⟨_, rfl⟩
      have hmx : max (0 : Int) ((gs.length : Int) - (L : Int)) = (D : Int) := by omega
      have hw1 : IntKind.i64.wrap ((gs.length : Int) - (L : Int)) = (gs.length : Int) - (L : Int) := IntWalk.i64_in _ (by omega)
      have HKN := Lib.hid (show (gs.drop D).map (·.cs) = keepN L (t.rows.map (·.cs)) (rowsM t.M.cs W N) by
        rw [List.map_drop, HM.out]; unfold keepN; rw [List.length_map, rowsM_len, ← hgsl, hD])
      have hDl : D ≤ gs.length := by omega
      have hR := hOr.r
      rw [e4] at hR
      clear hNr hm hb ht1 e1 e2 e3 e4 hOr HQ HMW HY HE1 HE3 HN2
      obtain ⟨m, hmm⟩ : ∃ m, m = gs.length := ⟨_, rfl⟩
      have O1 := Lib.hid (show OwnS wr B { t with bA := A, bk := c, rows := gs } from HT.out ▸ HO.out)
      have HE2 := Lib.hid (show (gs.drop D).length = m - D by rw [List.length_drop, ← hmm])
      have HFIN := Lib.hid (fun (A' : Option Addr) (c' : Nat) (ht : OwnR wr B A' (m - D) c' (gs.drop D)) => show RowN (wr.drew.setCell ⟨g, 34, none⟩ (.slice A' (m - D) c')) g { t with bA := A', bk := c', rows := gs.drop D } ∧ OwnS (wr.drew.setCell ⟨g, 34, none⟩ (.slice A' (m - D) c')) B { t with bA := A', bk := c', rows := gs.drop D } ∧ Below B w (wr.drew.setCell ⟨g, 34, none⟩ (.slice A' (m - D) c')) from by
        have h := HN.out.drew.s_rows (A := A') (c := c') (rs := gs.drop D)
        rw [HE2.out, HT.out] at h
        have hos : OwnS wr.drew B { t with bA := A', bk := c', rows := gs.drop D } := (OwnS.dropK O1.out ht).drew
        have hbd : Below B w wr.drew := ⟨HB.out.os, HB.out.tape, HB.out.output, HB.out.size, HB.out.block⟩
        exact ⟨h, HN.out.drew.own hos, hbd.setCell (by simpa using hB) _⟩)
      have HDR := Lib.hid (fun (h : 0 < D) => OwnR.dropK hR D hDl h)
      rw [← hmm] at k34 hw1 hmx hDl hR HDR
      have HRR := Lib.hid hR
      clear hgsl hD hmm O1 HE2 HN HO HB HT hR
      generalize t1.bA = BA at *
      generalize t1.bk = BK at *
      by_cases hD0 : D = 0
      · subst hD0
        have hmx0 : max (0 : Int) ((m : Int) - (L : Int)) = 0 := by omega
        clear hmx
        rcases HRR.out.2 with ⟨rfl, h0, rfl⟩ | ⟨gg, p, cur, rfl, _⟩
        · subst h0
          go_upto_region 5 with fail
          go_region
          all_goals
            go_wp2_with fail
            go_end0
            obtain ⟨r1, r2, r3⟩ := HFIN.out _ _ (by rw [List.drop_zero]; exact HRR.out)
            exact ⟨rfl, _, _, _, r1, r2, HKN.out, r3⟩
        · go_upto_region 5 with fail
          go_region
          all_goals
            go_wp2_with fail
            go_end0
            obtain ⟨r1, r2, r3⟩ := HFIN.out _ _ (by rw [List.drop_zero]; exact HRR.out)
            exact ⟨rfl, _, _, _, r1, r2, HKN.out, r3⟩
      · obtain ⟨b, o, hA, hcc, htl⟩ := HDR.out (by omega)
        subst hA
        obtain rfl : D = m - L := by omega
        clear HRR HDR hmx
        by_cases hcD : BK = m - L
        · rw [if_pos hcD] at htl
          subst hcD
          have HTL := Lib.hid htl
          clear htl
          go_upto_region 5 with fail
          go_region
          all_goals
            go_wp2_with fail
            go_end0
            obtain ⟨r1, r2, r3⟩ := HFIN.out _ _ HTL.out
            have e0 : m - (m - L) = 0 := by omega
            rw [Nat.sub_self, e0] at r1 r2 r3
            exact ⟨rfl, _, _, _, r1, r2, HKN.out, r3⟩
        · rw [if_neg hcD] at htl
          have HTL := Lib.hid htl
          clear htl
          go_upto_region 5 with fail
          go_region
          all_goals
            go_wp2_with fail
            go_end0
            obtain ⟨r1, r2, r3⟩ := HFIN.out _ _ HTL.out
            exact ⟨rfl, _, _, _, r1, r2, HKN.out, r3⟩
end Go.Proofs.Ythlpchojlddnbaa.Sc

