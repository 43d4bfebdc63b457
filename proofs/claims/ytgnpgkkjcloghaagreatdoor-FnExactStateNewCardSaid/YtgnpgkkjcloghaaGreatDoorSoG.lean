/- impl.notVisited and impl.isEachInOne. -/
import Derived.Test.YtgnpgkkjcloghaaGreatDoorSoI
import Derived.Test.YtgnpgkkjcloghaaGreatDoorKm21
namespace Go.Proofs.YtgnpgkkjcloghaaGreatDoor.St
open Go.RowKit Go.Proofs.YtgnpgkkjcloghaaGreatDoor.Bytes Go.Proofs.YtgnpgkkjcloghaaGreatDoor.Rows_ Go.Proofs.YtgnpgkkjcloghaaGreatDoor.RowK Go.Proofs.YtgnpgkkjcloghaaGreatDoor.Gr Go.Proofs.YtgnpgkkjcloghaaGreatDoor.DOk Go.Proofs.YtgnpgkkjcloghaaGreatDoor.Opq Go.Proofs.YtgnpgkkjcloghaaGreatDoor.Sc Go.Maps Go.WideMaps
set_option linter.unusedVariables false
attribute [local go_sem ↓] Go.wp_at_zero Go.wp_at_succ lm_lawsVp lm_implVp lm_lawsScr lm_implScr lm_lawsTerm lm_implTerm lm_lawsPane lm_implPane lm_lawsWin lm_implWin lm_lawsSess lm_implSess lr_implVp lr_implTerm lr_implPane lr_implWin lr_implSess lr_lawsState lr_implState sm_Vp sm_Scr sm_Term sm_Pane sm_Win sm_Sess sr_Vp sr_Term sr_Pane sr_Win sr_Sess sr_State
attribute [local go_sem] RowZ.set rowOf_set rowOf_setRow_other rowOf_setRow_same rowOf_setCell_other blkOf_ptr isHead_ptr aggN_agg isPtr_ptr offOf_ptr setRow_alloc rowZ_at rowZ_past rowZ_setRow_other rowOf_alloc_at rowOf_alloc_past rowOf_drew seg_alloc_past seg_alloc_at seg_setCell_other seg_setRow_other seg_drew cut_term_scr cut_term_vp cut_pane_term vpA_size termA_size paneA_size winA_size sessA_size stA_size scrA_size one_vp one_scr one_term one_pane one_win one_sess one_st vp_at0 vp_at1 vp_at2 vp_at3 term_at0 term_at1 term_at2 term_at3 pane_at0 pane_at1 pane_at2 pane_at3 pane_at4 pane_at5 win_at0 win_at1 win_at2 win_at3 win_at4 sess_at0 sess_at1 sess_at2 st_at0 st_at1 st_at2 st_at3 st_at4 st_at5 st_at6
theorem VMap.below {w w' : World} {b n : Nat} {D : VDat} (h : VMap w b n D) (hb : Below w.heap.size w w') : VMap w' b n D :=
  World.ownsMap.kept h (⟨hb.os, hb.tape, hb.output, hb.size, fun i hi _ => hb.block i hi⟩ : w.grownBy w' none) (by simp)
theorem VMap.lt {w : World} {b n : Nat} {D : VDat} (h : VMap w b n D) : b < w.heap.size := World.ownsMap.lt h
theorem OwnI.grown {w w' : World} {base b : Nat} {A : Option Addr} {n c : Nat} {zs : List Int} (h : OwnI w base A n c zs) (hg : w.grownBy w' (some b)) (hb : b < base) : OwnI w' base A n c zs :=
  World.ownsRow.kept h hg (.inr (by intro e; have := (h.blk b e).1; omega))
theorem below_grown {w w' : World} {b : Nat} (hbw : b ≤ w.heap.size) (hg : w.grownBy w' (some b)) : Below b w w' :=
  ⟨hg.os, hg.tape, hg.output, hg.size, fun i hi => hg.block i (Nat.lt_of_lt_of_le hi hbw) (by intro h; injection h with h; omega)⟩
theorem leafIds_split (ws : List WinD) (k : Nat) (h : k < ws.length) : leafIds ws = leafIds (ws.take k) ++ (Tr.leavesD ws[k].tree ++ leafIds (ws.drop (k + 1))) := by
  unfold leafIds
  conv => lhs; rw [← List.take_append_drop k ws, List.drop_eq_getElem_cons h]
  rw [List.map_append, List.map_cons, List.flatten_append, List.flatten_cons]
theorem leafIds_snoc (ws : List WinD) (k : Nat) (h : k < ws.length) : leafIds (ws.take (k + 1)) = leafIds (ws.take k) ++ Tr.leavesD ws[k].tree := by
  unfold leafIds; rw [List.take_succ_eq_append_getElem h, List.map_append, List.flatten_append]; congr 1; simp
theorem memIds_split (es : List SessD) (k : Nat) (h : k < es.length) : memIds es = memIds (es.take k) ++ (es[k].wins ++ memIds (es.drop (k + 1))) := by
  unfold memIds
  conv => lhs; rw [← List.take_append_drop k es, List.drop_eq_getElem_cons h]
  rw [List.map_append, List.map_cons, List.flatten_append, List.flatten_cons]
theorem memIds_snoc (es : List SessD) (k : Nat) (h : k < es.length) : memIds (es.take (k + 1)) = memIds (es.take k) ++ es[k].wins := by
  unfold memIds; rw [List.take_succ_eq_append_getElem h, List.map_append, List.flatten_append]; congr 1; simp
def pE (b : Bool) (zs : List Int) : List (Bool × Int) := zs.map (fun z => (b, z))
theorem pE_app (b : Bool) (x y : List Int) : pE b (x ++ y) = pE b x ++ pE b y := List.map_append
theorem keys_pE (ps ws : List Int) : entKeys ps ws = pE false ps ++ pE true ws := rfl
theorem pE_snoc (b : Bool) (zs : List Int) (k : Nat) (h : k < zs.length) : pE b (zs.take (k + 1)) = pE b (zs.take k) ++ [(b, zs[k])] := by
  unfold pE; rw [List.take_succ_eq_append_getElem h, List.map_append]; rfl
theorem pE_split (b : Bool) (zs : List Int) (k : Nat) (h : k < zs.length) : pE b zs = pE b (zs.take k) ++ (b, zs[k]) :: pE b (zs.drop (k + 1)) := by
  unfold pE
  conv => lhs; rw [← List.take_append_drop k zs, List.drop_eq_getElem_cons h]
  rw [List.map_append, List.map_cons]
theorem pE_wf {b : Bool} {zs : List Int} (h : ∀ z ∈ zs, (Lit.int .i64 z).wf = true) : ∀ e ∈ pE b zs, wfE e := by
  intro e he; unfold pE at he; rw [List.mem_map] at he; obtain ⟨z, hz, rfl⟩ := he; exact h z hz
/-- what the visits so far are: each of them an entity, and none of them twice -/
structure Good (K S : List (Bool × Int)) : Prop where
  n : S.Nodup
  s : ∀ e ∈ S, e ∈ K
theorem Good.nil (K : List (Bool × Int)) : Good K [] := ⟨by simp, fun e h => by simp at h⟩
theorem Good.snoc {K S : List (Bool × Int)} {e : Bool × Int} (h : Good K S) (he : e ∈ K ∧ e ∉ S) : Good K (S ++ [e]) := by
  refine ⟨?_, fun x hx => ?_⟩
  · rw [List.nodup_append]
    exact ⟨h.n, by simp, fun a ha b hb e2 => by simp at hb; subst hb; subst e2; exact he.2 ha⟩
  · rcases List.mem_append.1 hx with hx | hx
    · exact h.s x hx
    · simp at hx; subst hx; exact he.1
theorem eachB_iff (d : StD) : eachB d = true ↔ eachP d := by unfold eachB; simp only [decide_eq_true_eq]
theorem each_no {d : StD} {S R : List (Bool × Int)} {e : Bool × Int} (hE : entKeys (leafIds d.wins) (memIds d.sess) = S ++ e :: R) (h : ¬ (e ∈ entKeys (paneIds d) (winIds d) ∧ e ∉ S)) : eachB d = false := by
  rw [Bool.eq_false_iff]
  intro h0
  obtain ⟨h1, h2, _⟩ := (eachB_iff d).1 h0
  rw [hE] at h1 h2
  refine h ⟨h2 e (by simp), fun hs => ?_⟩
  rw [List.nodup_append] at h1
  exact h1.2.2 e hs e (by simp) rfl
theorem each_end {d : StD} {S : List (Bool × Int)} {v : Bool} (hE : entKeys (leafIds d.wins) (memIds d.sess) = S) (hg : Good (entKeys (paneIds d) (winIds d)) S) (hv : v = true ↔ ∀ e ∈ entKeys (paneIds d) (winIds d), e ∈ S) : eachB d = v := by
  rw [Bool.eq_iff_iff, eachB_iff, hv]
  unfold eachP
  rw [hE]
  exact ⟨fun h => h.2.2, fun h => ⟨hg.n, hg.s, h⟩⟩
theorem grown_trans {a b' c : World} {b : Nat} (h : a.grownBy b' (some b)) (k : b'.grownBy c (some b)) : a.grownBy c (some b) := h.andThen k (fun j e => .inr e)
theorem mem_take_pE {b : Bool} {zs : List Int} {k : Nat} {x : Bool × Int} (h : x ∈ pE b (zs.take k)) : x ∈ pE b zs := by
  unfold pE at *; rw [List.mem_map] at *; obtain ⟨z, hz, e⟩ := h; exact ⟨z, List.mem_of_mem_take hz, e⟩
theorem mem_pre {ps ws : List Int} {k : Nat} {x : Bool × Int} (h : x ∈ pE false ps ++ pE true (ws.take k)) : x ∈ pE false ps ++ pE true ws := by
  rcases List.mem_append.1 h with h | h
  · exact List.mem_append_left _ h
  · exact List.mem_append_right _ (mem_take_pE h)
set_option maxRecDepth 100000 in
set_option maxHeartbeats 1600000 in
theorem notVisited_any (s : StS) (w : World) (hr : RdSt w w.heap.size s) (hn : szSt s ≤ 1048576) (hwf : ∀ z ∈ paneIds s.data ++ winIds s.data, (Lit.int .i64 z).wf = true) :
    Calls Tryz.prog 69 #[.agg (stA s)] w fun e w' => ∃ (b n : Nat) (D : VDat), e = .returned (.map (some b)) ∧ w.heap.size ≤ b ∧ n ≤ 3000000 ∧ VMap w' b n D ∧ VisD D (entKeys (paneIds s.data) (winIds s.data)) [] ∧ Below w.heap.size w w' := by
  have HR := Lib.hid (fun W (h : Below w.heap.size w W) => (hr.below (Nat.le_refl _) h).more h.size)
  have HN := Lib.hid hn
  have HWF := Lib.hid hwf
  have n1 : s.panes.length ≤ 1048576 := by unfold szSt at hn; omega
  have n2 : s.wins.length ≤ 1048576 := by unfold szSt at hn; omega
  have LP := Lib.hid (show (paneIds s.data).length = s.panes.length from by unfold paneIds; show ((s.panes.map PaneS.data).map _).length = _; simp)
  have LW := Lib.hid (show (winIds s.data).length = s.wins.length from by unfold winIds; show ((s.wins.map WinS.data).map _).length = _; simp)
  have HKW := Lib.hid (show ∀ x ∈ entKeys (paneIds s.data) (winIds s.data), wfE x from fun x hx => by
    rw [keys_pE] at hx
    rcases List.mem_append.1 hx with h | h
    · exact pE_wf (fun z hz => hwf z (List.mem_append_left _ hz)) x h
    · exact pE_wf (fun z hz => hwf z (List.mem_append_right _ hz)) x h)
  have hval := Lib.hid (plainElem_bool (H := Unit) Tryz.underlying4 false)
  have hmm := @run_makeMap Tryz.prog
  have PB := Lib.hid ((RowB.new w (stA s) 33).below ((Below.refl _ _).alloc (Nat.le_refl _) (.map #[] 0)) (by simp))
  have HBm := Lib.hid (((Below.refl w.heap.size w).alloc (Nat.le_refl _) (.cells (stA s) 33)).alloc (by simp) (.map #[] 0))
  have HOm := Lib.hid (World.ownsMap_made (w.alloc (.cells (stA s) 33)) Tryz.prog 130 (plainElem (H := Unit) Tryz.prog 4))
  obtain ⟨w0, hw0⟩ : ∃ x, x = (w.alloc (.cells (stA s) 33)).alloc (.map #[] 0) := ⟨_, rfl⟩
  obtain ⟨b, hb⟩ : ∃ x, x = w.heap.size + 1 := ⟨_, rfl⟩
  have hsz0 : w0.heap.size = b + 1 := by rw [hw0, hb]; simp
  rw [← hw0] at PB HBm HOm
  have HOm2 := Lib.hid (show VMap w0 b 0 (.map []) from by have h := HOm.out; simp only [World.size_alloc] at h; rw [hb]; exact h)
  clear hr hn hwf HOm
  go_enter Tryz.func69, Tryz.ntmps69
  go_upto_region 2 with fail
  rw [← hw0, ← hb]
  have row0 : rowOf w0 w.heap.size = stA s := PB.out.row
  have ltz0 : w.heap.size < w0.heap.size := PB.out.lt
  clear hw0 hmm
  go_wp2_with (go_at_call 59; refine (paneIds_any s _ (HR.out _ HBm.out) HN.out).mono ?_; rintro e w1 ⟨A1, c1, rfl, ho1, hb1⟩)
  have HO1 := Lib.hid ho1
  have hs1 : w0.heap.size ≤ w1.heap.size := hb1.size
  have HB1 := Lib.hid (HBm.out.trans (hb1.mono HBm.out.size))
  have PS1 := Lib.hid (PB.out.below hb1 PB.out.lt)
  have HV1 := Lib.hid (VMap.below HOm2.out hb1)
  clear ho1 hb1 row0 ltz0
  go_loopw [12] (fun i wr => ∃ (k n : Nat) (D : VDat), k ≤ s.panes.length ∧ i = .int .i64 k ∧ n ≤ 0 + k ∧ VMap wr b n D ∧ Hid (VisD D (pE false ((paneIds s.data).take k)) []) ∧ Hid (w1.grownBy wr (some b))) (fun i _ => s.panes.length - (intOf i).toNat)
  case atStart => exact ⟨0, 0, _, Nat.zero_le _, rfl, by omega, HV1.out, Lib.hid VisD.nil, Lib.hid (World.grownBy.refl _ _)⟩
  case round =>
    clear HV1
    obtain ⟨k, n, D, hk, rfl, hno, ho, HV, HG⟩ := hrel
    by_cases hlt : k < s.panes.length
    · have hlt' : k < (paneIds s.data).length := by rw [LP.out]; exact hlt
      obtain ⟨b2, o2, hA, hB2, hc⟩ := (OwnI.grown HO1.out HG.out (by omega)).rd.at_ hlt'
      have HKE := Lib.hid (pE_snoc false (paneIds s.data) k hlt')
      have hwf := HWF.out _ (List.mem_append_left _ (List.getElem_mem hlt'))
      have hkey := Lib.hid (show keyOf Tryz.prog 130 (.agg #[.bool false, .int .i64 (paneIds s.data)[k]]) = some (kE (false, (paneIds s.data)[k])) from keyE (false, (paneIds s.data)[k]) hwf)
      have HO := Lib.hid (show VMap wr (w.heap.size + 1) n D from by rw [← hb]; exact ho)
      have HVA := Lib.hid (HV.out.add (e := (false, (paneIds s.data)[k])) hwf (fun x hx => HKW.out x (by rw [keys_pE]; exact List.mem_append_left _ (mem_take_pE hx))))
      clear ho
      subst hA
      generalize (paneIds s.data)[k] = z at *
      go_wp2_with (at_mapUpdate; refine wpList_mapUpdate_own _ rfl _ _ _ 126 rfl 130 4 vKey Tryz.underlying126 _ (w.heap.size + 1) n _ rfl HO.out (by unfold maxLen; omega) _ _ _ rfl rfl hkey.out _ [] hval.out ?_)
      intro w4 hown4 hgrow4
      rw [← hb] at hown4 hgrow4
      go_wp2_with fail
      exact ⟨⟨k + 1, n + 1, _, by omega, by go_num, by omega, hown4, by rw [HKE.out]; exact HVA, Lib.hid (grown_trans HG.out hgrow4)⟩, by simp [intOf]; omega⟩
    · obtain rfl : k = s.panes.length := by omega
      have HKE := Lib.hid (show pE false ((paneIds s.data).take s.panes.length) = pE false (paneIds s.data) by rw [List.take_of_length_le (by rw [LP.out]; exact Nat.le_refl _)])
      rw [HKE.out] at HV
      have PS2 := Lib.hid (PS1.out.below (below_grown (by omega) HG.out) (by omega))
      have HB2 := Lib.hid (Tr.grown_new HB1.out HG.out (by omega) (by omega))
      have row2 : rowOf wr w.heap.size = stA s := PS2.out.row
      have ltz2 : w.heap.size < wr.heap.size := PS2.out.lt
      have HV2 := Lib.hid ho
      have hbw : b < wr.heap.size := VMap.lt ho
      clear ho HG HKE
      go_wp2_with (go_at_call 60; refine (winIds_any s _ (HR.out _ HB2.out) HN.out).mono ?_; rintro e w3 ⟨A2, c2, rfl, ho3, hb3⟩)
      have HO3 := Lib.hid ho3
      have hs3 : wr.heap.size ≤ w3.heap.size := hb3.size
      have HB3 := Lib.hid (HB2.out.trans (hb3.mono HB2.out.size))
      have HV3 := Lib.hid (VMap.below HV2.out hb3)
      have HVD := Lib.hid HV.out
      clear ho3 hb3 row2 ltz2 HV2 HV
      go_loopw [23] (fun i wr => ∃ (k n : Nat) (D : VDat), k ≤ s.wins.length ∧ i = .int .i64 k ∧ n ≤ 1048576 + k ∧ VMap wr b n D ∧ Hid (VisD D (pE false (paneIds s.data) ++ pE true ((winIds s.data).take k)) []) ∧ Hid (w3.grownBy wr (some b))) (fun i _ => s.wins.length - (intOf i).toNat)
      case atStart => exact ⟨0, n, D, Nat.zero_le _, rfl, by omega, HV3.out, Lib.hid (by simp only [List.take_zero, pE, List.map_nil, List.append_nil]; exact HVD.out), Lib.hid (World.grownBy.refl _ _)⟩
      case round =>
        clear HV3 HVD
        clear D
        obtain ⟨k, n, D, hk, rfl, hno, ho, HV, HG⟩ := hrel
        by_cases hlt : k < s.wins.length
        · have hlt' : k < (winIds s.data).length := by rw [LW.out]; exact hlt
          obtain ⟨b2, o2, hA, hB2, hc⟩ := (OwnI.grown HO3.out HG.out (by omega)).rd.at_ hlt'
          have HKE := Lib.hid (pE_snoc true (winIds s.data) k hlt')
          have hwf := HWF.out _ (List.mem_append_right _ (List.getElem_mem hlt'))
          have hkey := Lib.hid (show keyOf Tryz.prog 130 (.agg #[.bool true, .int .i64 (winIds s.data)[k]]) = some (kE (true, (winIds s.data)[k])) from keyE (true, (winIds s.data)[k]) hwf)
          have HO := Lib.hid (show VMap wr (w.heap.size + 1) n D from by rw [← hb]; exact ho)
          have HVA := Lib.hid (HV.out.add (e := (true, (winIds s.data)[k])) hwf (fun x hx => HKW.out x (by rw [keys_pE]; exact mem_pre hx)))
          clear ho
          subst hA
          generalize (winIds s.data)[k] = z at *
          go_wp2_with (at_mapUpdate; refine wpList_mapUpdate_own _ rfl _ _ _ 126 rfl 130 4 vKey Tryz.underlying126 _ (w.heap.size + 1) n _ rfl HO.out (by unfold maxLen; omega) _ _ _ rfl rfl hkey.out _ [] hval.out ?_)
          intro w4 hown4 hgrow4
          rw [← hb] at hown4 hgrow4
          go_wp2_with fail
          exact ⟨⟨k + 1, n + 1, _, by omega, by go_num, by omega, hown4, by rw [HKE.out, ← List.append_assoc]; exact HVA, Lib.hid (grown_trans HG.out hgrow4)⟩, by simp [intOf]; omega⟩
        · obtain rfl : k = s.wins.length := by omega
          have HKE := Lib.hid (show pE true ((winIds s.data).take s.wins.length) = pE true (winIds s.data) by rw [List.take_of_length_le (by rw [LW.out]; exact Nat.le_refl _)])
          rw [HKE.out] at HV
          have HB4 := Lib.hid (Tr.grown_new HB3.out HG.out (by omega) (by omega))
          have HO := Lib.hid ho
          clear ho
          go_wp2_with fail
          go_ret
          exact ⟨b, n, D, by subst hb; rfl, by omega, by omega, HO.out, HV.out, HB4.out⟩
end Go.Proofs.YtgnpgkkjcloghaaGreatDoor.St

