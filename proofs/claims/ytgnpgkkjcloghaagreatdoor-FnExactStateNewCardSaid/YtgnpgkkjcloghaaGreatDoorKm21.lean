/- Texts that lay in modules of their own: SoF, SoE. -/
import Derived.Test.YtgnpgkkjcloghaaGreatDoorSoW
import Derived.Test.YtgnpgkkjcloghaaGreatDoorSoV
import Derived.Test.YtgnpgkkjcloghaaGreatDoorKm15
namespace Go.Proofs.YtgnpgkkjcloghaaGreatDoor.St
open Go.RowKit Go.Proofs.YtgnpgkkjcloghaaGreatDoor.Bytes Go.Proofs.YtgnpgkkjcloghaaGreatDoor.Rows_ Go.Proofs.YtgnpgkkjcloghaaGreatDoor.RowK Go.Proofs.YtgnpgkkjcloghaaGreatDoor.Gr Go.Proofs.YtgnpgkkjcloghaaGreatDoor.DOk Go.Proofs.YtgnpgkkjcloghaaGreatDoor.Opq Go.Proofs.YtgnpgkkjcloghaaGreatDoor.Sc
set_option linter.unusedVariables false
attribute [local go_sem ↓] Go.wp_at_zero Go.wp_at_succ lm_lawsVp lm_implVp lm_lawsScr lm_implScr lm_lawsTerm lm_implTerm lm_lawsPane lm_implPane lm_lawsWin lm_implWin lm_lawsSess lm_implSess lr_implVp lr_implTerm lr_implPane lr_implWin lr_implSess lr_lawsState lr_implState sm_Vp sm_Scr sm_Term sm_Pane sm_Win sm_Sess sr_Vp sr_Term sr_Pane sr_Win sr_Sess sr_State
attribute [local go_sem] RowZ.set rowOf_set rowOf_setRow_other rowOf_setRow_same rowOf_setCell_other blkOf_ptr isHead_ptr aggN_agg isPtr_ptr offOf_ptr setRow_alloc rowZ_at rowZ_past rowZ_setRow_other rowOf_alloc_at rowOf_alloc_past rowOf_drew seg_alloc_past seg_alloc_at seg_setCell_other seg_setRow_other seg_drew cut_term_scr cut_term_vp cut_pane_term vpA_size termA_size paneA_size winA_size sessA_size stA_size scrA_size one_vp one_scr one_term one_pane one_win one_sess one_st vp_at0 vp_at1 vp_at2 vp_at3 term_at0 term_at1 term_at2 term_at3 pane_at0 pane_at1 pane_at2 pane_at3 pane_at4 pane_at5 win_at0 win_at1 win_at2 win_at3 win_at4 sess_at0 sess_at1 sess_at2 st_at0 st_at1 st_at2 st_at3 st_at4 st_at5 st_at6
set_option maxRecDepth 100000 in
set_option maxHeartbeats 1600000 in
theorem hasTermSize_any (t : TermS) (x y : Int) (w : World) :
    Calls Tryz.prog 74 #[.agg (termA t), .int .i64 x, .int .i64 y] w fun e w' => e = .returned (.bool (decide (t.s.w = x ∧ t.s.h = y))) ∧ Below w.heap.size w w' := by
  have hb1 := Lib.hid ((Below.refl w.heap.size w).alloc (Nat.le_refl _) (.cells (termA t) 104))
  have c4 : (w.alloc (.cells (termA t) 104)).cell? ⟨w.heap.size, 4, none⟩ = some (.int .i64 t.s.w) := (RowB.new w (termA t) 104).cell 4
  have c5 : (w.alloc (.cells (termA t) 104)).cell? ⟨w.heap.size, 5, none⟩ = some (.int .i64 t.s.h) := (RowB.new w (termA t) 104).cell 5
  by_cases h1 : t.s.w = x
  · by_cases h2 : t.s.h = y
    · have HV := Lib.hid (show decide (t.s.w = x ∧ t.s.h = y) = true from decide_eq_true ⟨h1, h2⟩)
      go_enter Tryz.func74, Tryz.ntmps74
      go_wp2_with fail
      go_ret
      exact ⟨Attr.rt_bool (by rw [HV.out]), hb1.out⟩
    · have HV := Lib.hid (show decide (t.s.w = x ∧ t.s.h = y) = false from decide_eq_false (fun h => h2 h.2))
      go_enter Tryz.func74, Tryz.ntmps74
      go_wp2_with fail
      go_ret
      exact ⟨Attr.rt_bool (by rw [HV.out]; simp [h2]), hb1.out⟩
  · have HV := Lib.hid (show decide (t.s.w = x ∧ t.s.h = y) = false from decide_eq_false (fun h => h1 h.1))
    go_enter Tryz.func74, Tryz.ntmps74
    go_wp2_with fail
    go_ret
    exact ⟨Attr.rt_bool (by rw [HV.out]), hb1.out⟩
set_option maxRecDepth 100000 in
set_option maxHeartbeats 1600000 in
theorem termsFit_any (B : Nat) (s : StS) (w : World) (h : StIn w B s) :
    Calls Tryz.prog 30 #[.agg (stA s)] w fun e w' => e = .returned (.bool (fitB s.data)) ∧ Below w.heap.size w w' := by
  have HI := Lib.hid (fun W (hb : Below w.heap.size w W) => h.below hb)
  have n1 : s.panes.length ≤ 1048576 := h.lens.1
  have HG := Lib.hid (show ∀ k (hk : k < s.panes.length) (h' : k < s.data.panes.length), s.data.panes[k] = s.panes[k].data from fun k hk h' => by simp [StS.data])
  have HGL := Lib.hid (show s.data.panes.length = s.panes.length from by simp [StS.data])
  have PB := Lib.hid (RowB.new w (stA s) 33)
  have hb0 := (Below.refl w.heap.size w).alloc (Nat.le_refl _) (.cells (stA s) 33)
  have HB0 := Lib.hid hb0
  clear h hb0
  go_enter Tryz.func30, Tryz.ntmps30
  go_wp2_with fail
  generalize hpA : s.pA = pA
  go_loopw [10] (fun i wr => ∃ k : Nat, k ≤ s.panes.length ∧ i = .int .i64 k ∧ Hid (Below w.heap.size w wr) ∧ Hid (RowB wr w.heap.size (stA s)) ∧ Hid (∀ j (hj : j < s.data.panes.length), j < k → fit1 s.data s.data.panes[j] = true)) (fun i _ => s.panes.length - (intOf i).toNat)
  case atStart => exact ⟨0, Nat.zero_le _, rfl, HB0, PB, Lib.hid (fun j _ h => absurd h (by omega))⟩
  case round =>
    clear HB0 PB
    obtain ⟨k, hk, rfl, HB, PS, HA⟩ := hrel
    have hz : w.heap.size ≤ wr.heap.size := HB.out.size
    have row_s := PS.out.row
    have lt_s := PS.out.lt
    by_cases hlt : k < s.panes.length
    · have hld : k < s.data.panes.length := by rw [HGL.out]; exact hlt
      obtain ⟨b, o, hA, hBb, hsg0⟩ := rdK_seg (L := paneL) (fun _ => rfl) (HI.out _ HB.out).r.p hlt
      have hsg : seg wr b (o + k * 41) 41 = paneA s.panes[k] := hsg0
      rw [hpA] at hA
      subst hA
      have hbx : Below w.heap.size w (wr.alloc (.cells (paneA s.panes[k]) 106)) := HB.out.alloc hz _
      have HNO := Lib.hid (fun h0 : fit1 s.data s.panes[k].data = false => (show fitB s.data = false from all_no hld (by rw [HG.out k hlt hld]; exact h0)))
      have HYS := Lib.hid (fun h0 : fit1 s.data s.panes[k].data = true => (show ∀ j (hj : j < s.data.panes.length), j < k + 1 → fit1 s.data s.data.panes[j] = true from fun j hj hjk => by
        by_cases e : j = k
        · subst e; rw [HG.out j hlt hj]; exact h0
        · exact HA.out j hj (by omega)))
      have HBX := Lib.hid hbx
      have PSX := Lib.hid (RowB.below PS.out ((Below.refl wr.heap.size wr).alloc (Nat.le_refl _) (.cells (paneA s.panes[k]) 106)) PS.out.lt)
      have HC := Lib.hid (impl_Area_any B s s.panes[k].id _ (HI.out _ hbx).r (HI.out _ hbx).n (HI.out _ hbx).wn)
      clear hbx hsg0
      generalize s.panes[k] = x at *
      have HW := Lib.hid (show fit1 s.data x.data = decide (x.t.s.w = (areaD s.data x.id).1 ∧ x.t.s.h = (areaD s.data x.id).2 ∧ x.t.s.lim = s.lim) from rfl)
      rw [HW.out] at HNO HYS
      clear HW
      generalize areaD s.data x.id = ar at *
      obtain ⟨a1, a2⟩ := ar
      simp only [] at HNO HYS HC
      have HT := Lib.hid (fun W => hasTermSize_any x.t a1 a2 W)
      go_wp2_with fail
      refine HC.out.mono ?_
      rintro e v1 ⟨rfl, hb1⟩
      have HB1 := Lib.hid (HBX.out.trans (hb1.mono (by simp; omega)))
      have PS1 := Lib.hid (RowB.below PSX.out hb1 PSX.out.lt)
      have row_s1 := PS1.out.row
      have lt_s1 := PS1.out.lt
      have Fx := Lib.hid (RowB.below (RowB.new wr (paneA x) 106) hb1 (by simp))
      have hsg6 : seg v1 wr.heap.size 6 35 = termA x.t := by rw [seg_row Fx.out]; rfl
      have lt_x := Fx.out.lt
      clear hb1 HC
      go_wp2_with fail
      refine (HT.out _).mono ?_
      rintro e v2 ⟨rfl, hb2⟩
      have HB2 := Lib.hid (HB1.out.trans (hb2.mono HB1.out.size))
      have PS2 := Lib.hid (RowB.below PS1.out hb2 PS1.out.lt)
      have lt_s2 := PS2.out.lt
      have cs2 : v2.cell? ⟨w.heap.size, 2, none⟩ = some (.int .i64 s.lim) := PS2.out.cell 2
      have Gx := Lib.hid (RowB.below Fx.out hb2 Fx.out.lt)
      have lt_x2 := Gx.out.lt
      have cx39 : v2.cell? ⟨wr.heap.size, 39, none⟩ = some (.int .i64 x.t.s.lim) := Gx.out.cell 39
      clear hb2 HT row_s1 lt_s1 hsg6 lt_x
      by_cases h1 : x.t.s.w = a1 ∧ x.t.s.h = a2
      · have d1 : decide (x.t.s.w = a1 ∧ x.t.s.h = a2) = true := decide_eq_true h1
        rw [d1]
        by_cases h2 : x.t.s.lim = s.lim
        · have HY := Lib.hid (HYS.out (decide_eq_true ⟨h1.1, h1.2, h2⟩))
          clear HNO HYS h1 d1
          go_wp2_with fail
          exact ⟨⟨k + 1, by omega, by go_num, HB2, PS2, HY⟩, by simp [intOf]; omega⟩
        · have HF := Lib.hid (HNO.out (decide_eq_false (fun h => h2 h.2.2)))
          clear HNO HYS h1 d1
          go_wp2_with fail
          go_ret
          exact ⟨Attr.rt_bool HF.out.symm, HB2.out⟩
      · have d1 : decide (x.t.s.w = a1 ∧ x.t.s.h = a2) = false := decide_eq_false h1
        rw [d1]
        have HF := Lib.hid (HNO.out (decide_eq_false (fun h => h1 ⟨h.1, h.2.1⟩)))
        clear HNO HYS h1 d1
        go_wp2_with fail
        go_ret
        exact ⟨Attr.rt_bool HF.out.symm, HB2.out⟩
    · have hkl : k = s.panes.length := by omega
      subst hkl
      have HE := Lib.hid (show fitB s.data = true from (all_iff_idx _ _).2 (fun j hj => HA.out j hj (by have := HGL.out; omega)))
      go_wp2_with fail
      go_ret
      exact ⟨Attr.rt_bool HE.out.symm, HB.out⟩
end Go.Proofs.YtgnpgkkjcloghaaGreatDoor.St
namespace Go.Proofs.YtgnpgkkjcloghaaGreatDoor.St
open Go.RowKit Go.Proofs.YtgnpgkkjcloghaaGreatDoor.Bytes Go.Proofs.YtgnpgkkjcloghaaGreatDoor.Rows_ Go.Proofs.YtgnpgkkjcloghaaGreatDoor.DOk Go.Maps Go.WideMaps
set_option linter.unusedVariables false
set_option maxRecDepth 100000 in
set_option maxHeartbeats 1600000 in
theorem visit_any (b n : Nat) (D : VDat) (K S : List (Bool × Int)) (e : Bool × Int) (w : World) (hv : VMap w b n D) (hD : VisD D K S) (hK : ∀ x ∈ K, wfE x) (he : wfE e) (hn : n ≤ 1000000000) :
    Calls Tryz.prog 71 #[.map (some b), entV e] w fun en w' => ((e ∈ K ∧ e ∉ S) ∧ en = .returned (.bool true) ∧ w.grownBy w' (some b) ∧ ∃ D', VMap w' b (n + 1) D' ∧ VisD D' K (S ++ [e])) ∨ (¬ (e ∈ K ∧ e ∉ S) ∧ en = .returned (.bool false) ∧ w.grownBy w' (some b)) := by
  obtain ⟨eb, ez⟩ := e
  show Calls Tryz.prog 71 #[.map (some b), .agg #[.bool eb, .int .i64 ez]] w _
  obtain ⟨e, hee⟩ : ∃ e, e = (eb, ez) := ⟨_, rfl⟩
  rw [← hee] at he
  have HEE := Lib.hid (show entV e = .agg #[.bool eb, .int .i64 ez] from by rw [hee]; rfl)
  rw [← hee]
  have HD := Lib.hid hD
  have HV := Lib.hid hv
  have HK := Lib.hid hK
  have HE := Lib.hid he
  have HG0 := Lib.hid (World.grownBy_alloc w (.cells #[.bool eb, .int .i64 ez] 130) (some b))
  have HVX := Lib.hid (show VMap (w.alloc (.cells #[.bool eb, .int .i64 ez] 130)) b n D from World.ownsMap.alloc hv _)
  have ht := Tryz.underlying126
  have hkey := Lib.hid (show keyOf Tryz.prog 130 (.agg #[.bool eb, .int .i64 ez]) = some (kE e) from by rw [← HEE.out]; exact keyE e he)
  have hval := Lib.hid (plainElem_bool (H := Unit) Tryz.underlying4 true)
  clear hv hD hK he hee
  by_cases h1 : e ∈ K
  · have d1 : decide (e ∈ K) = true := decide_eq_true h1
    by_cases h2 : e ∈ S
    · have HC := Lib.hid (show ∀ c : Bool, (e ∈ K → c = decide (e ∈ S)) → c = true from fun c h => by rw [h h1]; exact decide_eq_true h2)
      have HN := Lib.hid (show ¬ (e ∈ K ∧ e ∉ S) from fun h => h.2 h2)
      clear h1 h2
      go_enter Tryz.func71, Tryz.ntmps71
      go_wp2_with (at_lookup; refine look_vis _ rfl _ _ _ rfl Tryz.underlying126 b n D K S HK.out rfl HVX.out HD.out e HE.out HEE.out.symm ?_; intro c hc; obtain rfl := HC.out c hc; rw [d1])
      go_ret
      exact .inr ⟨HN.out, rfl, HG0.out⟩
    · have HC := Lib.hid (show ∀ c : Bool, (e ∈ K → c = decide (e ∈ S)) → c = false from fun c h => by rw [h h1]; exact decide_eq_false h2)
      have HN := Lib.hid (show (e ∈ K ∧ e ∉ S) from ⟨h1, h2⟩)
      have HV2 := Lib.hid (HD.out.visit HK.out h1)
      clear h1 h2
      go_enter Tryz.func71, Tryz.ntmps71
      go_wp2_with (first | (at_lookup; refine look_vis _ rfl _ _ _ rfl Tryz.underlying126 b n D K S HK.out rfl HVX.out HD.out e HE.out HEE.out.symm ?_; intro c hc; obtain rfl := HC.out c hc; rw [d1]) | (at_mapUpdate; refine wpList_mapUpdate_own _ rfl _ _ _ 126 rfl 130 4 vKey Tryz.underlying126 _ b n _ rfl HVX.out (by unfold maxLen; omega) _ _ _ rfl rfl hkey.out _ [] hval.out ?_))
      intro w1 hown1 hgrow1
      go_wp2_with fail
      go_ret
      exact .inl ⟨HN.out, rfl, HG0.out.andThen hgrow1 (fun j h => .inr h), _, hown1, HV2.out⟩
  · have d1 : decide (e ∈ K) = false := decide_eq_false h1
    have HN := Lib.hid (show ¬ (e ∈ K ∧ e ∉ S) from fun h => h1 h.1)
    clear h1
    go_enter Tryz.func71, Tryz.ntmps71
    go_wp2_with (at_lookup; refine look_vis _ rfl _ _ _ rfl Tryz.underlying126 b n D K S HK.out rfl HVX.out HD.out e HE.out HEE.out.symm ?_; intro c hc; clear hc; rw [d1]; cases c)
    all_goals
      go_wp2_with fail
      go_ret
      exact .inr ⟨HN.out, rfl, HG0.out⟩
set_option maxRecDepth 100000 in
set_option maxHeartbeats 1600000 in
theorem areComplete_any (b n : Nat) (D : VDat) (K S : List (Bool × Int)) (w : World) (hv : VMap w b n D) (hD : VisD D K S) (hK : ∀ x ∈ K, wfE x) :
    Calls Tryz.prog 72 #[.map (some b)] w fun en w' => (∃ v : Bool, en = .returned (.bool v) ∧ (v = true ↔ ∀ e ∈ K, e ∈ S)) ∧ Below w.heap.size w w' := by
  have HD := Lib.hid hD
  have HV := Lib.hid hv
  have HK := Lib.hid hK
  have hbw : b < w.heap.size := World.ownsMap.lt hv
  have HLS := Lib.hid (show ∀ e ∈ K, Maps.has D (kE e) = true ∨ e ∈ S from fun e he => .inl ((hD.h _).2 ⟨e, he, rfl⟩))
  clear hv hD hK
  go_enter Tryz.func72, Tryz.ntmps72
  go_wp2_with (first | (at_range; refine wpList_range_own _ rfl _ 126 rfl 130 4 vKey Tryz.underlying126 _ b n D rfl HV.out ?_; intro w0 hrg0 hg0 hs0) | fail)
  go_frame
  go_loopw [4] (fun _ wr => ∃ left cnt, wr.ranges Tryz.prog 130 (plainElem Tryz.prog 4) b w.heap.size n D left cnt ∧ Hid (∀ e ∈ K, left (kE e) = true ∨ e ∈ S) ∧ Hid (Below w.heap.size w wr)) (fun _ wr => wr.rangeLeft b w.heap.size)
  case atStart => exact ⟨_, _, hrg0, HLS, Lib.hid ⟨hg0.os, hg0.tape, hg0.output, hg0.size, fun i hi => hg0.block i hi (by simp)⟩⟩
  case round =>
    obtain ⟨left, cnt, hrg, HL, HB⟩ := hrel
    have HRG := Lib.hid hrg
    clear hrg
    go_wp2_with (at_next; refine wpList_next_ranges _ rfl _ rfl 130 vKey _ (fun v : Value => v) (fun c : Bool => Value.bool c) (fun key kl h => ⟨key, rfl⟩) (fun v y h => by obtain ⟨c, rfl, _⟩ := plainElem_bool_inv Tryz.underlying4 h; exact ⟨c, rfl⟩) b w.heap.size n D left cnt rfl HRG.out ?_ ?_)
    · intro _ hl0
      have HE := Lib.hid (show ∀ e ∈ K, e ∈ S from fun e he => by
        rcases HL.out e he with h | h
        · rw [hl0] at h; cases h
        · exact h)
      clear hl0
      go_wp2_with fail
      go_ret
      exact ⟨⟨true, rfl, fun _ => HE.out, fun _ => rfl⟩, HB.out⟩
    · intro x
      refine ⟨?_, ?_⟩
      · intro kl y0 ps w1 cnt1 hkx hlx hRy hat hrg1 hlt hg1 hs1 hen
        obtain ⟨c', ec, hy⟩ := plainElem_bool_inv Tryz.underlying4 hRy
        injection ec with ec
        have hy0 : y0 = litB false := by rw [ec]; exact (Prod.mk.inj hy).1
        obtain ⟨e, heK, hke⟩ := (HD.out.h kl).1 (has_true_of_atKey hat)
        have hv := HD.out.v e heK
        rw [← hke, hat, hy0] at hv
        injection hv with hv
        injection hv with hv
        have hes : e ∉ S := of_decide_eq_false hv.symm
        have HB1 := Lib.hid (HB.out.trans (show Below w.heap.size wr w1 from ⟨hg1.os, hg1.tape, hg1.output, hg1.size, fun i hi => hg1.block i (by have := HB.out.size; omega) (by intro h; injection h with h; omega)⟩))
        have HE := Lib.hid (show ¬ ∀ e ∈ K, e ∈ S from fun h => hes (h e heK))
        clear hkx hlx hRy hat hrg1 hlt hg1 hs1 hv hes hy hy0 ec heK hke
        go_wp2_with fail
        go_ret
        exact ⟨⟨false, rfl, fun h => (by cases h), fun h => absurd h HE.out⟩, HB1.out⟩
      · intro kl y0 ps w1 cnt1 hkx hlx hRy hat hrg1 hlt hg1 hs1 hen
        obtain ⟨c', ec, hy⟩ := plainElem_bool_inv Tryz.underlying4 hRy
        injection ec with ec
        have hy0 : y0 = litB true := by rw [ec]; exact (Prod.mk.inj hy).1
        obtain ⟨e, heK, hke⟩ := (HD.out.h kl).1 (has_true_of_atKey hat)
        have hv := HD.out.v e heK
        rw [← hke, hat, hy0] at hv
        injection hv with hv
        injection hv with hv
        have hes : e ∈ S := of_decide_eq_true hv.symm
        have HB1 := Lib.hid (HB.out.trans (show Below w.heap.size wr w1 from ⟨hg1.os, hg1.tape, hg1.output, hg1.size, fun i hi => hg1.block i (by have := HB.out.size; omega) (by intro h; injection h with h; omega)⟩))
        have HL1 := Lib.hid (show ∀ x ∈ K, (left (kE x) && !(kE x).sameKey kl) = true ∨ x ∈ S from fun x hx => by
          by_cases hxe : kE x = kl
          · rw [hke] at hxe
            have := kE_inj (HK.out x hx) (HK.out e heK) hxe
            subst this; exact .inr hes
          · rcases HL.out x hx with h | h
            · left; rw [h, Maps.sameKey_ne hxe]; rfl
            · exact .inr h)
        have HRG1 := Lib.hid hrg1
        clear hkx hlx hRy hat hrg1 hg1 hs1 hv hes hy hy0 ec heK hke
        go_wp2_with fail
        refine ⟨⟨_, cnt1, HRG1.out, HL1, HB1⟩, ?_⟩
        rw [HRG1.out.left_eq, HRG.out.left_eq]; exact hlt
end Go.Proofs.YtgnpgkkjcloghaaGreatDoor.St
