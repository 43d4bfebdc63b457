/- The bounds of a state, and the numbers of its panes and windows, in the program. -/
import Derived.Test.YtgnpgkkjcloghaaGreatDoorKm19
import Derived.Test.YtgnpgkkjcloghaaGreatDoorKiK
import Derived.Test.YtgnpgkkjcloghaaGreatDoorKm16
import Derived.Test.YtgnpgkkjcloghaaGreatDoorKm15
namespace Go.Proofs.YtgnpgkkjcloghaaGreatDoor.St
open Go.RowKit Go.Proofs.YtgnpgkkjcloghaaGreatDoor.Bytes Go.Proofs.YtgnpgkkjcloghaaGreatDoor.Rows_ Go.Proofs.YtgnpgkkjcloghaaGreatDoor.RowK Go.Proofs.YtgnpgkkjcloghaaGreatDoor.Gr Go.Proofs.YtgnpgkkjcloghaaGreatDoor.DOk Go.Proofs.YtgnpgkkjcloghaaGreatDoor.Opq Go.Proofs.YtgnpgkkjcloghaaGreatDoor.Sc
set_option linter.unusedVariables false
attribute [local go_sem ↓] Go.wp_at_zero Go.wp_at_succ lm_lawsVp lm_implVp lm_lawsScr lm_implScr lm_lawsTerm lm_implTerm lm_lawsPane lm_implPane lm_lawsWin lm_implWin lm_lawsSess lm_implSess lr_implVp lr_implTerm lr_implPane lr_implWin lr_implSess lr_lawsState lr_implState sm_Vp sm_Scr sm_Term sm_Pane sm_Win sm_Sess sr_Vp sr_Term sr_Pane sr_Win sr_Sess sr_State
attribute [local go_sem] RowZ.set rowOf_set rowOf_setRow_other rowOf_setRow_same rowOf_setCell_other blkOf_ptr isHead_ptr aggN_agg isPtr_ptr offOf_ptr setRow_alloc rowZ_at rowZ_past rowZ_setRow_other rowOf_alloc_at rowOf_alloc_past rowOf_drew seg_alloc_past seg_alloc_at seg_setCell_other seg_setRow_other seg_drew cut_term_scr cut_term_vp cut_pane_term vpA_size termA_size paneA_size winA_size sessA_size stA_size scrA_size one_vp one_scr one_term one_pane one_win one_sess one_st vp_at0 vp_at1 vp_at2 vp_at3 term_at0 term_at1 term_at2 term_at3 pane_at0 pane_at1 pane_at2 pane_at3 pane_at4 pane_at5 win_at0 win_at1 win_at2 win_at3 win_at4 sess_at0 sess_at1 sess_at2 st_at0 st_at1 st_at2 st_at3 st_at4 st_at5 st_at6
theorem okT0_next {w : Int} {zs : List Int} {k : Nat} (hk : k < zs.length) (h : okT 0 w (zs.take k) = true) (h1 : lastOf 0 (zs.take k) < zs[k]) (h2 : zs[k] < w) : okT 0 w (zs.take (k + 1)) = true := by
  rw [List.take_succ_eq_append_getElem hk, okT_app, h, Bool.true_and]
  simp [okT, h1, h2]
theorem okT0_no {w : Int} {zs : List Int} {k : Nat} (hk : k < zs.length) (h1 : ¬ (lastOf 0 (zs.take k) < zs[k] ∧ zs[k] < w)) : okT 0 w zs = false := by
  have e : zs = zs.take k ++ zs[k] :: zs.drop (k + 1) := by rw [List.getElem_cons_drop, List.take_append_drop]
  rw [e, okT_app, okT]
  rw [decide_eq_false h1]; simp
theorem last0_succ {zs : List Int} {j : Nat} (hj : j < zs.length) : lastOf 0 (zs.take (j + 1)) = zs[j] := by rw [List.take_succ_eq_append_getElem hj, lastOf_snoc]
set_option maxRecDepth 100000 in
set_option maxHeartbeats 1600000 in
theorem areAsc1_any (A : Option Addr) (n c : Nat) (zs : List Int) (x : Int) (w : World) (hr : RdI w w.heap.size A zs) (hl : zs.length = n) (hn : n ≤ 1099511627776) (hx : x ≤ 1099511627776) :
    Calls Tryz.prog 61 #[.slice A n c, .int .i64 1, .int .i64 x] w fun e w' => e = .returned (.bool (okT 0 x zs)) ∧ w = w' := by
  have HR := Lib.hid hr
  have HL := Lib.hid hl
  clear hr hl
  go_enter Tryz.func61, Tryz.ntmps61
  go_wp2_with fail
  go_loopw [1, 11] (fun la i wr => ∃ k : Nat, k ≤ n ∧ la = .int .i64 (lastOf 0 (zs.take k) + 1) ∧ i = .int .i64 k ∧ okT 0 x (zs.take k) = true ∧ Hid (0 ≤ lastOf 0 (zs.take k)) ∧ w = wr) (fun _ i _ => n - (intOf i).toNat)
  case atStart => exact ⟨0, Nat.zero_le _, rfl, rfl, by simp [okT], Lib.hid (by simp [lastOf]), rfl⟩
  case round =>
    obtain ⟨k, hk, rfl, rfl, ha, HM, rfl⟩ := hrel
    have HA := Lib.hid ha
    clear ha
    by_cases hlt : k < n
    · have hlf : k < zs.length := by rw [HL.out]; exact hlt
      obtain ⟨b, o, rfl, hB, hc⟩ := HR.out.at_ hlf
      have HNO := Lib.hid (fun h => okT0_no (w := x) hlf h)
      have HNX := Lib.hid (fun h1 h2 => okT0_next (w := x) hlf HA.out h1 h2)
      have HLA := Lib.hid (last0_succ hlf)
      have hm := HM.out
      generalize zs[k] = z at *
      generalize hla : lastOf 0 (zs.take k) = la at *
      clear hla HM
      by_cases h1 : la < z
      · by_cases h2 : z < x
        · have N := Lib.hid (HNX.out h1 h2)
          have g1 : ¬ z < la + 1 := by omega
          have g2 : ¬ x ≤ z := by omega
          have g3 : z + 1 ≤ 9223372036854775807 := by omega
          have g4 : -9223372036854775808 ≤ z + 1 := by omega
          have HM2 := Lib.hid (show 0 ≤ z by omega)
          clear HNO HNX
          go_wp2_with fail
          exact ⟨⟨k + 1, by omega, by rw [HLA.out], by go_num, N.out, by rw [HLA.out]; exact HM2, trivial⟩, by simp [intOf]; omega⟩
        · have N := Lib.hid (HNO.out (fun h => h2 h.2))
          have g1 : ¬ z < la + 1 := by omega
          have g2 : x ≤ z := by omega
          clear HNO HNX
          go_wp2_with fail
          go_ret
          exact ⟨Attr.rt_bool N.out.symm, rfl⟩
      · have N := Lib.hid (HNO.out (fun h => h1 h.1))
        have g1 : z < la + 1 := by omega
        clear HNO HNX
        go_wp2_with fail
        go_ret
        exact ⟨Attr.rt_bool N.out.symm, rfl⟩
    · obtain rfl : n = k := by omega
      have HF := Lib.hid (show okT 0 x zs = true by have := HA.out; rwa [← HL.out, List.take_length] at this)
      go_wp2_with fail
      go_ret
      exact ⟨Attr.rt_bool HF.out.symm, rfl⟩
set_option maxRecDepth 100000 in
set_option maxHeartbeats 1600000 in
theorem clo_paneIds (p : PaneS) (w : World) :
    Calls Tryz.prog 102 #[.agg (paneA p)] w fun e w' => e = .returned (.int .i64 p.id) ∧ Below w.heap.size w w' := by
  have hb1 := Lib.hid ((Below.refl w.heap.size w).alloc (Nat.le_refl _) (.cells (paneA p) 106))
  go_enter Tryz.func102, Tryz.ntmps102
  go_wp2_with fail
  go_ret
  exact ⟨rfl, hb1.out⟩
set_option maxRecDepth 100000 in
set_option maxHeartbeats 1600000 in
theorem ids_paneIds (A : Option Addr) (n c : Nat) (ps : List PaneS) (w : World) (hr : RdK 41 w w.heap.size A (ps.map paneL)) (hl : ps.length = n) (hn : n ≤ 1048576) :
    Calls Tryz.prog 101 #[.slice A n c, .func (.func 102) #[] #[]] w fun e w' => ∃ A' c', e = .returned (.slice A' n c') ∧ OwnI w' w.heap.size A' n c' (ps.map (·.id)) ∧ Below w.heap.size w w' := by
  have eg : ∀ args w, (callFunc 102 args).run Tryz.prog w = .ok (.enter 102 args) w := enters_of Tryz.func102 (by kernel_rfl) rfl
  obtain ⟨i0, hi, hz0, hz1, hz2⟩ := info_parts intInfo
  have HR := Lib.hid hr
  have HL := Lib.hid hl
  clear hr hl
  go_enter Tryz.func101, Tryz.ntmps101
  go_wp2_with fail
  go_loopw [5, 10] (fun v i wr => ∃ (k : Nat) (A2 : Option Addr) (c2 : Nat), k ≤ n ∧ i = .int .i64 k ∧ v = .slice A2 k c2 ∧ OwnI wr w.heap.size A2 k c2 ((ps.take k).map (·.id)) ∧ Below w.heap.size w wr) (fun _ i _ => n - (intOf i).toNat)
  case atStart => exact ⟨0, none, 0, Nat.zero_le _, rfl, rfl, World.ownsRow_nil _ _ _ _, Below.refl _ _⟩
  case round =>
    obtain ⟨k, A2, c2, hk, rfl, rfl, ho, hb⟩ := hrel
    have hz : w.heap.size ≤ wr.heap.size := hb.size
    by_cases hlt : k < n
    · have hlt' : k < ps.length := by rw [HL.out]; exact hlt
      obtain ⟨b, o, rfl, hBb, hsg0⟩ := rdK_seg (L := paneL) (fun _ => rfl) (HR.out.below (Nat.le_refl _) hb) hlt'
      have hsg : seg wr b (o + k * 41) 41 = paneA ps[k] := hsg0
      have HS := Lib.hid (show (ps.take (k + 1)).map (·.id) = (ps.take k).map (·.id) ++ [ps[k].id] by rw [List.take_succ_eq_append_getElem hlt', List.map_append]; rfl)
      have HO := Lib.hid (ho.alloc (.cells (paneA ps[k]) 106))
      have HB := Lib.hid (hb.alloc hz (.cells (paneA ps[k]) 106))
      clear ho hb hsg0
      generalize ps[k] = p at *
      go_wp2_with (first | (go_at_call 102; refine (clo_paneIds p _).mono ?_; rintro e v1 ⟨rfl, hb1⟩; have HB1 := Lib.hid hb1; have HO1 := Lib.hid (HO.out.below (Nat.le_refl _) hb1); have hzv : wr.heap.size < v1.heap.size := (by have := hb1.size; simp at this; omega); clear hb1) | (at_builtin; refine AppOne.append_one Tryz.underlying61 hi hz0 hz1 hz2 rfl (by decide) rfl _ _ rfl rfl _ rfl rfl HO1.out rfl (by omega) (by omega) ?_))
      intro A3 c3 w3 ho3 hg3 hl3
      have HO3 := Lib.hid (show OwnI w3 w.heap.size A3 (k + 1) c3 ((ps.take (k + 1)).map (·.id)) by
        rw [HS.out, List.map_take]; unfold OwnI; rw [show iv ((ps.map (·.id)).take k ++ [p.id]) = iv ((ps.map (·.id)).take k) ++ [.int .i64 p.id] from by unfold iv; rw [List.map_append]; rfl]; exact ho3)
      have HB3 := Lib.hid ((HB.out.trans (HB1.out.mono (by simp; omega))).grown hg3 (by omega) (fun g hg => (HO1.out.blk g hg).1))
      clear ho3 hg3 hl3
      go_wp2_with fail
      exact ⟨⟨k + 1, A3, c3, by omega, by go_num, rfl, HO3.out, HB3.out⟩, by simp [intOf]; omega⟩
    · obtain rfl : n = k := by omega
      rw [List.take_of_length_le (by rw [HL.out]; exact Nat.le_refl _)] at ho
      have HO := Lib.hid ho
      have HB := Lib.hid hb
      clear ho hb
      go_wp2_with fail
      go_ret
      exact ⟨A2, c2, rfl, HO.out, HB.out⟩
set_option maxRecDepth 100000 in
set_option maxHeartbeats 1600000 in
theorem paneIds_any (s : StS) (w : World) (hr : RdSt w w.heap.size s) (hn : szSt s ≤ 1048576) :
    Calls Tryz.prog 59 #[.agg (stA s)] w fun e w' => ∃ A' c', e = .returned (.slice A' s.panes.length c') ∧ OwnI w' w.heap.size A' s.panes.length c' (paneIds s.data) ∧ Below w.heap.size w w' := by
  have hmf : ∀ (fn : Fn) (first cap : Array Value) (w : World), (Instr.makeFunc fn first cap).run Tryz.prog w = .ok (.func fn first cap) w := fun _ _ _ _ => rfl
  have HR := Lib.hid (fun W (h : Below w.heap.size w W) => (hr.below (Nat.le_refl _) h).more h.size)
  have n1 : s.panes.length ≤ 1048576 := by unfold szSt at hn; omega
  have HID := Lib.hid (show paneIds s.data = s.panes.map (·.id) from by unfold paneIds; show (s.panes.map PaneS.data).map (·.id) = _; rw [List.map_map]; rfl)
  have HB0 := Lib.hid ((Below.refl w.heap.size w).alloc (Nat.le_refl _) (.cells (stA s) 33))
  clear hr hn
  go_enter Tryz.func59, Tryz.ntmps59
  go_wp2_with (go_at_call 101; refine (ids_paneIds s.pA s.panes.length s.pc s.panes _ (HR.out _ HB0.out).p rfl n1).mono ?_; rintro e w1 ⟨A1, c1, rfl, ho1, hb1⟩)
  go_ret
  exact ⟨A1, c1, rfl, by rw [HID.out]; exact ho1.more (by simp), HB0.out.trans (hb1.mono (by simp))⟩
set_option maxRecDepth 100000 in
set_option maxHeartbeats 1600000 in
theorem clo_winIds (p : WinS) (w : World) :
    Calls Tryz.prog 104 #[.agg (winA p)] w fun e w' => e = .returned (.int .i64 p.id) ∧ Below w.heap.size w w' := by
  have hb1 := Lib.hid ((Below.refl w.heap.size w).alloc (Nat.le_refl _) (.cells (winA p) 90))
  go_enter Tryz.func104, Tryz.ntmps104
  go_wp2_with fail
  go_ret
  exact ⟨rfl, hb1.out⟩
set_option maxRecDepth 100000 in
set_option maxHeartbeats 1600000 in
theorem ids_winIds (A : Option Addr) (n c : Nat) (ps : List WinS) (w : World) (hr : RdK 5 w w.heap.size A (ps.map winL)) (hl : ps.length = n) (hn : n ≤ 1048576) :
    Calls Tryz.prog 103 #[.slice A n c, .func (.func 104) #[] #[]] w fun e w' => ∃ A' c', e = .returned (.slice A' n c') ∧ OwnI w' w.heap.size A' n c' (ps.map (·.id)) ∧ Below w.heap.size w w' := by
  have eg : ∀ args w, (callFunc 104 args).run Tryz.prog w = .ok (.enter 104 args) w := enters_of Tryz.func104 (by kernel_rfl) rfl
  obtain ⟨i0, hi, hz0, hz1, hz2⟩ := info_parts intInfo
  have HR := Lib.hid hr
  have HL := Lib.hid hl
  clear hr hl
  go_enter Tryz.func103, Tryz.ntmps103
  go_wp2_with fail
  go_loopw [5, 10] (fun v i wr => ∃ (k : Nat) (A2 : Option Addr) (c2 : Nat), k ≤ n ∧ i = .int .i64 k ∧ v = .slice A2 k c2 ∧ OwnI wr w.heap.size A2 k c2 ((ps.take k).map (·.id)) ∧ Below w.heap.size w wr) (fun _ i _ => n - (intOf i).toNat)
  case atStart => exact ⟨0, none, 0, Nat.zero_le _, rfl, rfl, World.ownsRow_nil _ _ _ _, Below.refl _ _⟩
  case round =>
    obtain ⟨k, A2, c2, hk, rfl, rfl, ho, hb⟩ := hrel
    have hz : w.heap.size ≤ wr.heap.size := hb.size
    by_cases hlt : k < n
    · have hlt' : k < ps.length := by rw [HL.out]; exact hlt
      obtain ⟨b, o, rfl, hBb, hsg0⟩ := rdK_seg (L := winL) (fun _ => rfl) (HR.out.below (Nat.le_refl _) hb) hlt'
      have hsg : seg wr b (o + k * 5) 5 = winA ps[k] := hsg0
      have HS := Lib.hid (show (ps.take (k + 1)).map (·.id) = (ps.take k).map (·.id) ++ [ps[k].id] by rw [List.take_succ_eq_append_getElem hlt', List.map_append]; rfl)
      have HO := Lib.hid (ho.alloc (.cells (winA ps[k]) 90))
      have HB := Lib.hid (hb.alloc hz (.cells (winA ps[k]) 90))
      clear ho hb hsg0
      generalize ps[k] = p at *
      go_wp2_with (first | (go_at_call 104; refine (clo_winIds p _).mono ?_; rintro e v1 ⟨rfl, hb1⟩; have HB1 := Lib.hid hb1; have HO1 := Lib.hid (HO.out.below (Nat.le_refl _) hb1); have hzv : wr.heap.size < v1.heap.size := (by have := hb1.size; simp at this; omega); clear hb1) | (at_builtin; refine AppOne.append_one Tryz.underlying61 hi hz0 hz1 hz2 rfl (by decide) rfl _ _ rfl rfl _ rfl rfl HO1.out rfl (by omega) (by omega) ?_))
      intro A3 c3 w3 ho3 hg3 hl3
      have HO3 := Lib.hid (show OwnI w3 w.heap.size A3 (k + 1) c3 ((ps.take (k + 1)).map (·.id)) by
        rw [HS.out, List.map_take]; unfold OwnI; rw [show iv ((ps.map (·.id)).take k ++ [p.id]) = iv ((ps.map (·.id)).take k) ++ [.int .i64 p.id] from by unfold iv; rw [List.map_append]; rfl]; exact ho3)
      have HB3 := Lib.hid ((HB.out.trans (HB1.out.mono (by simp; omega))).grown hg3 (by omega) (fun g hg => (HO1.out.blk g hg).1))
      clear ho3 hg3 hl3
      go_wp2_with fail
      exact ⟨⟨k + 1, A3, c3, by omega, by go_num, rfl, HO3.out, HB3.out⟩, by simp [intOf]; omega⟩
    · obtain rfl : n = k := by omega
      rw [List.take_of_length_le (by rw [HL.out]; exact Nat.le_refl _)] at ho
      have HO := Lib.hid ho
      have HB := Lib.hid hb
      clear ho hb
      go_wp2_with fail
      go_ret
      exact ⟨A2, c2, rfl, HO.out, HB.out⟩
set_option maxRecDepth 100000 in
set_option maxHeartbeats 1600000 in
theorem winIds_any (s : StS) (w : World) (hr : RdSt w w.heap.size s) (hn : szSt s ≤ 1048576) :
    Calls Tryz.prog 60 #[.agg (stA s)] w fun e w' => ∃ A' c', e = .returned (.slice A' s.wins.length c') ∧ OwnI w' w.heap.size A' s.wins.length c' (winIds s.data) ∧ Below w.heap.size w w' := by
  have hmf : ∀ (fn : Fn) (first cap : Array Value) (w : World), (Instr.makeFunc fn first cap).run Tryz.prog w = .ok (.func fn first cap) w := fun _ _ _ _ => rfl
  have HR := Lib.hid (fun W (h : Below w.heap.size w W) => (hr.below (Nat.le_refl _) h).more h.size)
  have n1 : s.wins.length ≤ 1048576 := by unfold szSt at hn; omega
  have HID := Lib.hid (show winIds s.data = s.wins.map (·.id) from by unfold winIds; show (s.wins.map WinS.data).map (·.id) = _; rw [List.map_map]; rfl)
  have HB0 := Lib.hid ((Below.refl w.heap.size w).alloc (Nat.le_refl _) (.cells (stA s) 33))
  clear hr hn
  go_enter Tryz.func60, Tryz.ntmps60
  go_wp2_with (go_at_call 103; refine (ids_winIds s.wA s.wins.length s.wc s.wins _ (HR.out _ HB0.out).wr rfl n1).mono ?_; rintro e w1 ⟨A1, c1, rfl, ho1, hb1⟩)
  go_ret
  exact ⟨A1, c1, rfl, by rw [HID.out]; exact ho1.more (by simp), HB0.out.trans (hb1.mono (by simp))⟩
set_option maxRecDepth 100000 in
set_option maxHeartbeats 1600000 in
theorem boundsOk_any (s : StS) (w : World) (hn : szSt s ≤ 1048576) :
    Calls Tryz.prog 24 #[.agg (stA s)] w fun e w' => e = .returned (.bool (boundsB s.data)) ∧ Below w.heap.size w w' := by
  have HB0 := Lib.hid ((Below.refl w.heap.size w).alloc (Nat.le_refl _) (.cells (stA s) 33))
  have n1 : s.panes.length ≤ 1048576 := by unfold szSt at hn; omega
  have n2 : s.wins.length ≤ 1048576 := by unfold szSt at hn; omega
  have n3 : s.sess.length ≤ 1048576 := by unfold szSt at hn; omega
  have HK := Lib.hid (show boundsB s.data = (sizeB s.w s.h && okL s.lim && idB s.next && decide (s.panes.length ≤ 24) && decide (s.wins.length ≤ 12) && decide (s.sess.length ≤ 8)) from by
    unfold boundsB StS.data; simp only [List.length_map])
  obtain ⟨sw, sh, sl, sn, pA, pc, panes, wA, wc, wins, eA, ec, sess⟩ := s
  simp only [] at n1 n2 n3 HK
  cases q1 : sizeB sw sh <;> have Q1 := Lib.hid q1 <;> rw [q1] at HK <;> clear q1
  · go_enter Tryz.func24, Tryz.ntmps24
    go_wp2_with (go_at_call 56; refine (isGridSize_any sw sh _).mono ?_; rintro e v ⟨rfl, rfl⟩; rw [Q1.out])
    go_ret
    exact ⟨Attr.rt_bool (by rw [HK.out]; simp), HB0.out⟩
  cases q2 : okL sl <;> have Q2 := Lib.hid q2 <;> rw [q2] at HK <;> clear q2
  · go_enter Tryz.func24, Tryz.ntmps24
    go_wp2_with (first | (go_at_call 56; refine (isGridSize_any sw sh _).mono ?_; rintro e v ⟨rfl, rfl⟩; rw [Q1.out]) | (go_at_call 57; refine (isLimit_any sl _).mono ?_; rintro e v ⟨rfl, rfl⟩; rw [Q2.out]))
    go_ret
    exact ⟨Attr.rt_bool (by rw [HK.out]; simp), HB0.out⟩
  cases q3 : idB sn <;> have Q3 := Lib.hid q3 <;> rw [q3] at HK <;> clear q3
  · go_enter Tryz.func24, Tryz.ntmps24
    go_wp2_with (first | (go_at_call 56; refine (isGridSize_any sw sh _).mono ?_; rintro e v ⟨rfl, rfl⟩; rw [Q1.out]) | (go_at_call 57; refine (isLimit_any sl _).mono ?_; rintro e v ⟨rfl, rfl⟩; rw [Q2.out]) | (go_at_call 58; refine (isPane_any sn _).mono ?_; rintro e v ⟨rfl, rfl⟩; rw [Q3.out]))
    go_ret
    exact ⟨Attr.rt_bool (by rw [HK.out]; simp), HB0.out⟩
  by_cases l1 : panes.length ≤ 24 <;> by_cases l2 : wins.length ≤ 12 <;> by_cases l3 : sess.length ≤ 8 <;>
    have g1 : ((panes.length : Int) ≤ 24) = (panes.length ≤ 24) := by (apply propext; omega)
  all_goals
    have g2 : ((wins.length : Int) ≤ 12) = (wins.length ≤ 12) := by (apply propext; omega)
    have g3 : ((sess.length : Int) ≤ 8) = (sess.length ≤ 8) := by (apply propext; omega)
    simp only [l1, l2, l3] at g1 g2 g3
    go_enter Tryz.func24, Tryz.ntmps24
    go_wp2_with (first | (go_at_call 56; refine (isGridSize_any sw sh _).mono ?_; rintro e v ⟨rfl, rfl⟩; rw [Q1.out]) | (go_at_call 57; refine (isLimit_any sl _).mono ?_; rintro e v ⟨rfl, rfl⟩; rw [Q2.out]) | (go_at_call 58; refine (isPane_any sn _).mono ?_; rintro e v ⟨rfl, rfl⟩; rw [Q3.out]))
    go_ret
    exact ⟨Attr.rt_bool (by rw [HK.out]; simp [l1, l2, l3]), HB0.out⟩
theorem parts2I (v : World) {p q : Tr.PartD} (hp : Tr.OkPart 1 v p) (hq : Tr.OkPart 1 v q) : Tr.RdPs 1 (v.alloc (.cells #[.slice p.A p.n p.c, .slice q.A q.n q.c] 61)) (some ⟨v.heap.size, 0, none⟩) [p, q] := by
  have hb := (Below.refl v.heap.size v).alloc (Nat.le_refl _) (.cells #[.slice p.A p.n p.c, .slice q.A q.n q.c] 61)
  have hr := RowB.new v #[.slice p.A p.n p.c, .slice q.A q.n q.c] 61
  have up : ∀ {x : Tr.PartD}, Tr.OkPart 1 v x → Tr.OkPart 1 (v.alloc (.cells #[.slice p.A p.n p.c, .slice q.A q.n q.c] 61)) x := fun h => ⟨h.rd.below (by simp) hb |>.more (by simp), h.len, h.one, h.nil, h.cnt, h.bd⟩
  refine ⟨fun _ => ⟨v.heap.size, 0, rfl, by simp, fun k hk => ?_⟩, fun x hx => ?_⟩
  · have hk2 : k < 2 := hk
    rcases k with _ | _ | k
    · exact hr.cell 0
    · exact hr.cell 1
    · omega
  · simp at hx
    rcases hx with rfl | rfl
    · exact up hp
    · exact up hq
theorem wf_le {z : Int} (h : -1000000000 ≤ z ∧ z ≤ 1000000000) : (Lit.int .i64 z).wf = true := by
  exact WalkArith.wf_i64 (by omega)
theorem asc_wf {nx : Int} {l : List Int} (h : Sc.okT 0 nx l = true) (hn : nx ≤ 1000000) : ∀ z ∈ l, (Lit.int .i64 z).wf = true := by
  intro z hz
  obtain ⟨i, hi, rfl⟩ := List.getElem_of_mem hz
  have := (asc_iff l 0).1 h i hi
  exact wf_le (by omega)
end Go.Proofs.YtgnpgkkjcloghaaGreatDoor.St

