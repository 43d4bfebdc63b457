/- Texts that lay in modules of their own: SoP, SoN. -/
import Derived.Test.YtgnpgkkjcloghaaGreatDoorSoI
import Derived.Test.YtgnpgkkjcloghaaGreatDoorKm10
import Derived.Test.YtgnpgkkjcloghaaGreatDoorKiA
namespace Go.Proofs.YtgnpgkkjcloghaaGreatDoor.St
open Go.RowKit Go.Proofs.YtgnpgkkjcloghaaGreatDoor.Bytes Go.Proofs.YtgnpgkkjcloghaaGreatDoor.Rows_ Go.Proofs.YtgnpgkkjcloghaaGreatDoor.RowK Go.Proofs.YtgnpgkkjcloghaaGreatDoor.Gr Go.Proofs.YtgnpgkkjcloghaaGreatDoor.DOk Go.Proofs.YtgnpgkkjcloghaaGreatDoor.Opq Go.Proofs.YtgnpgkkjcloghaaGreatDoor.Sc
set_option linter.unusedVariables false
attribute [local go_sem ↓] Go.wp_at_zero Go.wp_at_succ lm_lawsVp lm_implVp lm_lawsScr lm_implScr lm_lawsTerm lm_implTerm lm_lawsPane lm_implPane lm_lawsWin lm_implWin lm_lawsSess lm_implSess lr_implVp lr_implTerm lr_implPane lr_implWin lr_implSess lr_lawsState lr_implState sm_Vp sm_Scr sm_Term sm_Pane sm_Win sm_Sess sr_Vp sr_Term sr_Pane sr_Win sr_Sess sr_State
attribute [local go_sem] RowZ.set rowOf_set rowOf_setRow_other rowOf_setRow_same rowOf_setCell_other blkOf_ptr isHead_ptr aggN_agg isPtr_ptr offOf_ptr setRow_alloc rowZ_at rowZ_past rowZ_setRow_other rowOf_alloc_at rowOf_alloc_past rowOf_drew seg_alloc_past seg_alloc_at seg_setCell_other seg_setRow_other seg_drew cut_term_scr cut_term_vp cut_pane_term vpA_size termA_size paneA_size winA_size sessA_size stA_size scrA_size one_vp one_scr one_term one_pane one_win one_sess one_st vp_at0 vp_at1 vp_at2 vp_at3 term_at0 term_at1 term_at2 term_at3 pane_at0 pane_at1 pane_at2 pane_at3 pane_at4 pane_at5 win_at0 win_at1 win_at2 win_at3 win_at4 sess_at0 sess_at1 sess_at2 st_at0 st_at1 st_at2 st_at3 st_at4 st_at5 st_at6
theorem pids_snoc (ps : List PaneD) (k : Nat) (h : k < ps.length) : pidsD (ps.take (k + 1)) = pidsD (ps.take k) ++ (if ps[k].life = 1 then [ps[k].pid] else []) := by
  unfold pidsD
  rw [List.take_succ_eq_append_getElem h, List.filter_append, List.map_append]
  by_cases hl : ps[k].life = 1
  · simp [hl]
  · simp [hl]
theorem pids_len (ps : List PaneD) : (pidsD ps).length ≤ ps.length := by unfold pidsD; rw [List.length_map]; exact List.length_filter_le _ _
theorem pids_wf (ps : List PaneD) (h : ∀ x ∈ ps, okPd x = true) : ∀ z ∈ pidsD ps, (Lit.int .i64 z).wf = true := by
  intro z hz
  unfold pidsD at hz
  obtain ⟨x, hx, rfl⟩ := List.mem_map.1 hz
  obtain ⟨h1, h2⟩ := List.mem_filter.1 hx
  have := okPd_pid (h x h1) (by simpa using h2)
  exact wf_le (by omega)
noncomputable def panesV (ds : List PaneD) : Bool := ds.all okPd && decide (pidsD ds).Nodup
theorem panesV_no {ds : List PaneD} {k : Nat} (h : k < ds.length) (hk : okPd ds[k] = false) : panesV ds = false := by
  unfold panesV
  have : ds.all okPd = false := List.all_eq_false.2 ⟨ds[k], List.getElem_mem h, by rw [hk]; simp⟩
  rw [this]; rfl
theorem panesV_yes {ds : List PaneD} (h : ∀ j (hj : j < ds.length), okPd ds[j] = true) : panesV ds = decide (pidsD ds).Nodup := by
  unfold panesV
  rw [(all_iff_idx okPd ds).2 h]; rfl
set_option maxRecDepth 100000 in
set_option maxHeartbeats 1600000 in
theorem panesOk_any (A : Option Addr) (n c : Nat) (ps : List PaneS) (w : World) (hT : Dec.Tabs8 w) (hr : RdK 41 w w.heap.size A (ps.map paneL)) (hp : ∀ x ∈ ps, TIn w x.t) (hs : ∀ x ∈ ps, x.cmd.size ≤ 9223372036854775807 ∧ x.dir.size ≤ 9223372036854775807 ∧ szT x.t ≤ 1048576) (hl : ps.length = n) (hn : n ≤ 1000000) :
    Calls Tryz.prog 26 #[.slice A n c] w fun e w' => e = .returned (.bool (panesV (ps.map PaneS.data))) ∧ Below w.heap.size w w' := by
  obtain ⟨i0, hi, hz0, hz1, hz2⟩ := info_parts intInfo
  have HR := Lib.hid hr
  have HL := Lib.hid hl
  have HTB := Lib.hid (fun W (hb : Below w.heap.size w W) => Rune.tabs_below hT hb)
  have HP := Lib.hid (fun x hx W (hb : Below w.heap.size w W) => (hp x hx).below hb)
  have HS := Lib.hid hs
  obtain ⟨ds, hds⟩ : ∃ ds, ds = ps.map PaneS.data := ⟨_, rfl⟩
  have dl : ds.length = n := by rw [hds, List.length_map]; exact hl
  have DG := Lib.hid (show ∀ k (h : k < ds.length) (h' : k < ps.length), ds[k] = ps[k].data from fun k h h' => by subst hds; rw [List.getElem_map])
  have DL := Lib.hid dl
  rw [← hds]
  clear hr hl hT hp hs hds dl
  go_enter Tryz.func26, Tryz.ntmps26
  go_wp2_with fail
  go_loopw [3, 8] (fun v i wr => ∃ (k : Nat) (A2 : Option Addr) (n2 c2 : Nat), k ≤ n ∧ i = .int .i64 k ∧ v = .slice A2 n2 c2 ∧ OwnI wr w.heap.size A2 n2 c2 (pidsD (ds.take k)) ∧ Below w.heap.size w wr ∧ Hid (∀ j (hj : j < ds.length), j < k → okPd ds[j] = true)) (fun _ i _ => n - (intOf i).toNat)
  case atStart => exact ⟨0, none, 0, 0, Nat.zero_le _, rfl, rfl, World.ownsRow_nil _ _ _ _, Below.refl _ _, Lib.hid (fun j _ h => absurd h (by omega))⟩
  case round =>
    obtain ⟨k, A2, n2, c2, hk, rfl, rfl, ho, hb, HA⟩ := hrel
    have hz : w.heap.size ≤ wr.heap.size := hb.size
    have hn2 : n2 ≤ n := by
      have h1 := ho.len
      have h2 := pids_len (ds.take k)
      rw [List.length_take] at h2; omega
    by_cases hlt : k < n
    · have hlt' : k < ps.length := by rw [HL.out]; exact hlt
      have hld : k < ds.length := by rw [DL.out]; exact hlt
      obtain ⟨b, o, rfl, hBb, hsg0⟩ := rdK_seg (L := paneL) (fun _ => rfl) (HR.out.below (Nat.le_refl _) hb) hlt'
      have hsg : seg wr b (o + k * 41) 41 = paneA ps[k] := hsg0
      have hbx : Below w.heap.size w (wr.alloc (.cells (paneA ps[k]) 106)) := hb.alloc hz _
      have HOX := Lib.hid (ho.alloc (.cells (paneA ps[k]) 106))
      have HC := Lib.hid (impl_PaneOk_any ps[k] _ (HTB.out _ hbx) (HP.out _ (List.getElem_mem hlt') _ hbx) (HS.out _ (List.getElem_mem hlt')).1 (HS.out _ (List.getElem_mem hlt')).2.1 (HS.out _ (List.getElem_mem hlt')).2.2)
      have HNO := Lib.hid (fun h0 : okPd ps[k].data = false => panesV_no hld (by rw [DG.out k hld hlt']; exact h0))
      have HYS := Lib.hid (fun h0 : okPd ps[k].data = true => (show ∀ j (hj : j < ds.length), j < k + 1 → okPd ds[j] = true from fun j hj hjk => by
        by_cases e : j = k
        · subst e; rw [DG.out j hj hlt']; exact h0
        · exact HA.out j hj (by omega)))
      have HS2 := Lib.hid (show pidsD (ds.take (k + 1)) = pidsD (ds.take k) ++ (if ps[k].life = 1 then [ps[k].pid] else []) by rw [pids_snoc ds k hld, DG.out k hld hlt']; rfl)
      have HBX := Lib.hid hbx
      clear ho hb hbx hsg0
      generalize ps[k] = p at *
      cases hq : okPd p.data
      · have HF := Lib.hid (HNO.out hq)
        have HC2 := HC.out
        rw [hq] at HC2
        clear HNO HYS HC
        go_wp2_with (go_at_call 64; refine HC2.mono ?_; rintro e v1 ⟨rfl, hb1⟩)
        go_ret
        exact ⟨Attr.rt_bool HF.out.symm, HBX.out.trans (hb1.mono (by simp; omega))⟩
      · have HY := Lib.hid (HYS.out hq)
        have HC2 := HC.out
        rw [hq] at HC2
        clear HNO HYS HC
        by_cases hlf : p.life = 1
        · have HS3 := Lib.hid (show pidsD (ds.take (k + 1)) = pidsD (ds.take k) ++ [p.pid] by rw [HS2.out, if_pos hlf])
          clear HS2
          go_wp2_with (first | (go_at_call 64; refine HC2.mono ?_; rintro e v1 ⟨rfl, hb1⟩; have HB1 := Lib.hid (HBX.out.trans (hb1.mono (by simp; omega))); have HO1 := Lib.hid (HOX.out.below (Nat.le_refl _) hb1); have hzv : wr.heap.size < v1.heap.size := (by have := hb1.size; simp at this; omega); have Fb := Lib.hid (RowB.below (RowB.new wr (paneA p) 106) hb1 (by simp)); have row_p : rowOf v1 wr.heap.size = paneA p := Fb.out.row; have cp3 : v1.cell? ⟨wr.heap.size, 3, none⟩ = some (.int .i64 p.life) := Fb.out.cell 3; have cp5 : v1.cell? ⟨wr.heap.size, 5, none⟩ = some (.int .i64 p.pid) := Fb.out.cell 5; clear hb1) | (at_builtin; refine AppOne.append_one Tryz.underlying61 hi hz0 hz1 hz2 rfl (by decide) rfl _ _ rfl rfl _ rfl rfl HO1.out rfl (by omega) (by omega) ?_))
          intro A3 c3 w3 ho3 hg3 hl3
          have HO3 := Lib.hid (show OwnI w3 w.heap.size A3 (n2 + 1) c3 (pidsD (ds.take (k + 1))) by
            rw [HS3.out]; unfold OwnI iv; rw [List.map_append]; exact ho3)
          have HB3 := Lib.hid (HB1.out.grown hg3 (by omega) (fun g hg => (HO1.out.blk g hg).1))
          clear ho3 hg3 hl3
          go_wp2_with fail
          exact ⟨⟨k + 1, A3, n2 + 1, c3, by omega, by go_num, rfl, HO3.out, HB3.out, HY⟩, by simp [intOf]; omega⟩
        · have HS3 := Lib.hid (show pidsD (ds.take (k + 1)) = pidsD (ds.take k) by rw [HS2.out, if_neg hlf, List.append_nil])
          clear HS2
          go_wp2_with (go_at_call 64; refine HC2.mono ?_; rintro e v1 ⟨rfl, hb1⟩; have HB1 := Lib.hid (HBX.out.trans (hb1.mono (by simp; omega))); have HO1 := Lib.hid (HOX.out.below (Nat.le_refl _) hb1); have Fb := Lib.hid (RowB.below (RowB.new wr (paneA p) 106) hb1 (by simp)); have row_p : rowOf v1 wr.heap.size = paneA p := Fb.out.row; have cp3 : v1.cell? ⟨wr.heap.size, 3, none⟩ = some (.int .i64 p.life) := Fb.out.cell 3; have cp5 : v1.cell? ⟨wr.heap.size, 5, none⟩ = some (.int .i64 p.pid) := Fb.out.cell 5; clear hb1)
          exact ⟨⟨k + 1, A2, n2, c2, by omega, by go_num, rfl, by rw [HS3.out]; exact HO1.out, HB1.out, HY⟩, by simp [intOf]; omega⟩
    · obtain rfl : n = k := by omega
      rw [List.take_of_length_le (by rw [DL.out]; exact Nat.le_refl _)] at ho
      have HO := Lib.hid ho
      have HB := Lib.hid hb
      have hall : ∀ j (hj : j < ds.length), okPd ds[j] = true := fun j hj => HA.out j hj (by have := DL.out; omega)
      have HE := Lib.hid (panesV_yes hall)
      have HWF := Lib.hid (pids_wf ds (fun x hx => by obtain ⟨j, hj, rfl⟩ := List.getElem_of_mem hx; exact hall j hj))
      clear ho hb hall
      go_wp2_with (go_at_call 62; refine (Tr.areDistinct_any A2 n2 c2 _ (pidsD ds) _ HO.out.rd HO.out.len (by omega) HWF.out (Nat.le_refl _)).mono ?_; rintro e v5 ⟨rfl, hb5⟩)
      go_ret
      exact ⟨Attr.rt_bool HE.out.symm, HB.out.trans (hb5.mono HB.out.size)⟩
end Go.Proofs.YtgnpgkkjcloghaaGreatDoor.St
namespace Go.Proofs.YtgnpgkkjcloghaaGreatDoor.Tr
open Go.RowKit Go.Proofs.YtgnpgkkjcloghaaGreatDoor.Bytes Go.Proofs.YtgnpgkkjcloghaaGreatDoor.Rows_ Go.Proofs.YtgnpgkkjcloghaaGreatDoor.RowK Go.Proofs.YtgnpgkkjcloghaaGreatDoor.DOk Go.Maps Go.WideMaps
set_option linter.unusedVariables false
theorem skeyN : Keyed Tryz.prog 9 := string_keyed Tryz.underlying9
def kS (s : ByteArray) : Lit := .string s.data.toList
theorem kS_inj {a b : ByteArray} (h : kS a = kS b) : a = b := by
  unfold kS at h; injection h with h
  exact ByteArray.ext (Array.toList_inj.1 h)
def nmMap (ns : List ByteArray) : Dat := setOf tru (ns.map kS)
theorem nmMap_snoc (ns : List ByteArray) (s : ByteArray) : nmMap (ns ++ [s]) = (nmMap ns).put (kS s) tru := by unfold nmMap; rw [List.map_append]; exact setOf_snoc _ _ _
theorem nmMap_lits (ns : List ByteArray) : ∀ x ∈ ns.map kS, WideAt.IsKeyLit x := by intro x hx; simp at hx; obtain ⟨z, _, rfl⟩ := hx; trivial
def OwnM (w : World) (b n : Nat) (D : Dat) : Prop := w.ownsMap Tryz.prog 9 (plainElem Tryz.prog 4) b n D
theorem OwnM.lt {w : World} {b n : Nat} {D : Dat} (h : OwnM w b n D) : b < w.heap.size := World.ownsMap.lt h
theorem len_nms {w : World} {ops : Array Oper} {rest : List Oper} {o : Oper} {a : Act} {Q : Exit → Act → World → Prop} (hg : o.guard = none) (m : Operand) (hop : o.op = Op.call { callee := Callee.builtin Builtin.len, args := #[m], argTypes := #[162] })
    {b n : Nat} {ids : List ByteArray} (hm : a.eval m = .map (some b)) (hown : OwnM w b n (nmMap ids)) {S : Nat} (hS : Maps.size (nmMap ids) = S)
    (hK : wpList Tryz.prog ops Q rest (a.put o.dst (.int .i64 S)) w) : wpList Tryz.prog ops Q (o :: rest) a w :=
  wpList_len_own _ hg m 162 hop 9 4 Tryz.underlying162 _ b n (nmMap ids) hm hown (by rw [hS]; exact hK)
theorem size_nmMap (ids : List ByteArray) : ids.length = Maps.size (nmMap ids) ↔ ids.Nodup := by
  unfold nmMap
  rw [size_setOf tru _ (nmMap_lits ids)]
  have h := addKey_nodup (ids.map kS) [] (nmMap_lits ids)
  simp only [List.length_nil, Nat.zero_add, List.length_map] at h
  rw [eq_comm, h]
  constructor
  · rintro ⟨h1, _⟩
    exact List.Pairwise.of_map kS (fun a b hab e => hab (by rw [e])) h1
  · intro hn
    exact ⟨List.Pairwise.map kS (fun a b hab e => hab (kS_inj e)) hn, fun x _ => by simp⟩
theorem strs_at {w : World} {B : Nat} {A : Option Addr} {zs : List ByteArray} (h : RdK 1 w B A (zs.map fun s => [.string s])) {k : Nat} (hk : k < zs.length) : ∃ b o, A = some ⟨b, o, none⟩ ∧ b < B ∧ w.cell? ⟨b, o + k, none⟩ = some (.string zs[k]) := by
  obtain ⟨b, o, e, hlt, hc⟩ := h (by rw [List.length_map]; omega)
  refine ⟨b, o, e, hlt, ?_⟩
  have := hc k [.string zs[k]] (by rw [List.getElem?_map, List.getElem?_eq_getElem hk]; rfl) 0 (.string zs[k]) rfl
  simpa using this
set_option maxRecDepth 100000 in
set_option maxHeartbeats 1600000 in
theorem areDistinctS_any (A : Option Addr) (n c B : Nat) (zs : List ByteArray) (w : World) (hr : RdK 1 w B A (zs.map fun s => [.string s])) (hl : zs.length = n) (hn : n ≤ 1000000) (hwf : ∀ z ∈ zs, z.size ≤ maxLen) (hB : B ≤ w.heap.size) :
    Calls Tryz.prog 68 #[.slice A n c] w fun e w' => e = .returned (.bool (decide zs.Nodup)) ∧ Below w.heap.size w w' := by
  have HR := Lib.hid hr
  have HL := Lib.hid hl
  have HW := Lib.hid hwf
  have hv := Lib.hid (plainElem_bool (H := Unit) Tryz.underlying4 true)
  have hmm := @run_makeMap Tryz.prog
  have hom := Lib.hid (World.ownsMap_made w Tryz.prog 9 (plainElem (H := Unit) Tryz.prog 4))
  clear hr hl hwf
  go_enter Tryz.func68, Tryz.ntmps68
  go_wp2_with fail
  go_loopw [9] (fun i wr => ∃ k : Nat, k ≤ n ∧ i = .int .i64 k ∧ OwnM wr w.heap.size k (nmMap (zs.take k)) ∧ Below w.heap.size w wr) (fun i _ => n - (intOf i).toNat)
  case atStart => exact ⟨0, Nat.zero_le _, rfl, hom.out, (Below.refl _ _).alloc (Nat.le_refl _) _⟩
  case round =>
    clear hom hmm
    obtain ⟨k, hk, rfl, ho, hb⟩ := hrel
    have hz : w.heap.size < wr.heap.size := ho.lt
    by_cases hlt : k < n
    · have hlt' : k < zs.length := by rw [HL.out]; exact hlt
      obtain ⟨b, o, rfl, hlB, hc⟩ := strs_at (HR.out.below hB hb) hlt'
      have HB := Lib.hid hb
      have HS := Lib.hid (show nmMap (zs.take (k + 1)) = (nmMap (zs.take k)).put (kS zs[k]) tru by rw [List.take_succ_eq_append_getElem hlt']; exact nmMap_snoc _ _)
      have hx := Lib.hid (show keyOf Tryz.prog 9 (.string zs[k]) = some (kS zs[k]) from keyOf_string_mk Tryz.underlying9 (HW.out _ (List.getElem_mem hlt')))
      have HO := Lib.hid ho
      clear hb ho
      generalize zs[k] = x0 at *
      go_wp2_with (at_mapUpdate; refine wpList_mapUpdate_own _ rfl _ _ _ 162 rfl 9 4 skeyN Tryz.underlying162 _ w.heap.size k _ rfl HO.out (by unfold maxLen; omega) _ _ _ rfl rfl hx.out _ [] hv.out ?_)
      intro w1 hown1 hgrow1
      have HO1 := Lib.hid (show OwnM w1 w.heap.size (k + 1) (nmMap (zs.take (k + 1))) by rw [HS.out]; exact hown1)
      have HB1 := Lib.hid (grown_new HB.out hgrow1 (Nat.le_refl _) (by omega))
      clear hown1 hgrow1
      go_wp2_with fail
      exact ⟨⟨k + 1, by omega, by go_num, HO1.out, HB1.out⟩, by simp [intOf]; omega⟩
    · obtain rfl : n = k := by omega
      rw [List.take_of_length_le (by rw [HL.out]; exact Nat.le_refl _)] at ho
      have HO := Lib.hid ho
      have HB := Lib.hid hb
      have HE := Lib.hid (size_nmMap zs)
      have hsz : Maps.size (nmMap zs) ≤ n := World.ownsMap.size_le ho
      clear ho hb
      generalize hS : Maps.size (nmMap zs) = S at *
      have HSS := Lib.hid hS
      clear hS
      go_wp2_with (at_len; first | refine len_nms rfl _ rfl rfl HO.out HSS.out ?_ | fail)
      go_ret
      refine ⟨ret_bool ?_, HB.out⟩
      rw [Bool.eq_iff_iff]
      simp only [decide_eq_true_eq, beq_iff_eq]
      rw [← HE.out, HL.out]
      constructor <;> intro h <;> omega
end Go.Proofs.YtgnpgkkjcloghaaGreatDoor.Tr
