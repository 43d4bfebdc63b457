/- Texts that lay in modules of their own: StT, StU. -/
import Derived.Test.YtgnpgkkjcloghaaGreatDoorStV
import Derived.Test.YtgnpgkkjcloghaaGreatDoorVpC
import Derived.LoopN
import Derived.Test.YtgnpgkkjcloghaaGreatDoorKm16
import Derived.Test.YtgnpgkkjcloghaaGreatDoorKiK
namespace Go.Proofs.YtgnpgkkjcloghaaGreatDoor.St
open Go.RowKit Go.Proofs.YtgnpgkkjcloghaaGreatDoor.Bytes Go.Proofs.YtgnpgkkjcloghaaGreatDoor.Rows_ Go.Proofs.YtgnpgkkjcloghaaGreatDoor.RowK Go.Proofs.YtgnpgkkjcloghaaGreatDoor.Gr Go.Proofs.YtgnpgkkjcloghaaGreatDoor.DOk Go.Proofs.YtgnpgkkjcloghaaGreatDoor.Opq Go.Proofs.YtgnpgkkjcloghaaGreatDoor.Sc
set_option linter.unusedVariables false
attribute [local go_sem ↓] Go.wp_at_zero Go.wp_at_succ lm_lawsVp lm_implVp lm_lawsScr lm_implScr lm_lawsTerm lm_implTerm lm_lawsPane lm_implPane lr_implVp lr_implTerm lr_implPane sm_Vp sm_Scr sm_Term sm_Pane sr_Vp sr_Term sr_Pane
attribute [local go_sem] RowZ.set rowOf_set rowOf_setRow_other rowOf_setRow_same rowOf_setCell_other blkOf_ptr isHead_ptr aggN_agg isPtr_ptr offOf_ptr setRow_alloc rowZ_at rowZ_past rowZ_setRow_other rowOf_alloc_at rowOf_alloc_past rowOf_drew seg_alloc_past seg_alloc_at seg_setCell_other seg_setRow_other seg_drew cut_term_scr cut_term_vp cut_pane_term vpA_size termA_size paneA_size scrA_size one_vp one_scr one_term one_pane vp_at0 vp_at1 vp_at2 vp_at3 term_at0 term_at1 term_at2 term_at3 pane_at0 pane_at1 pane_at2 pane_at3 pane_at4 pane_at5
def okVd (d : VpD) : Bool := Vp.okVp d.st d.mark d.zs d.bs
noncomputable def okTd (d : TermD) : Bool := okVd d.v && okD d.s
/-- what is known of a terminal in memory of one's own -/
structure TIn (w : World) (t : TermS) : Prop where
  r : RdT w w.heap.size t
  g : Rng t.v.bs
  z : t.v.pA = none → t.v.bs.length = 0 ∧ t.v.pc = 0
  c : t.v.bs.length ≤ t.v.pc
theorem TIn.below {w w' : World} {t : TermS} (h : TIn w t) (hb : Below w.heap.size w w') : TIn w' t := ⟨(h.r.below (Nat.le_refl _) hb).more hb.size, h.g, h.z, h.c⟩
theorem impl_okV (v : VpS) (w : World) (hT : Dec.Tabs8 w) (hr : RdV w w.heap.size v) (hg : Rng v.bs) (hn : szV v ≤ 1048576) :
    Calls Tryz.prog 131 #[.agg (vpA v)] w fun e w' => e = .returned (.bool (okVd v.data)) ∧ Below w.heap.size w w' := by
  unfold szV at hn
  exact Vp.impl_VpOk_any v.st v.mark v.aA v.zs.length v.ac v.zs v.pA v.bs.length v.pc v.bs w hT hr.a rfl (by omega) hr.p hg rfl (by omega)
set_option maxRecDepth 100000 in
set_option maxHeartbeats 1600000 in
theorem impl_TermOk_any (t : TermS) (w : World) (hT : Dec.Tabs8 w) (h : TIn w t) (hn : szT t ≤ 1048576) :
    Calls Tryz.prog 108 #[.agg (termA t)] w fun e w' => e = .returned (.bool (okTd t.data)) ∧ Below w.heap.size w w' := by
  have HR := Lib.hid (fun W (hb : Below w.heap.size w W) => h.below hb)
  have HTB := Lib.hid (fun W (hb : Below w.heap.size w W) => Rune.tabs_below hT hb)
  unfold szT at hn
  have n1 : szV t.v ≤ 1048576 := by omega
  have n2 : szS t.s ≤ 1048576 := by omega
  have HK := Lib.hid (show okTd t.data = (okVd t.v.data && okD t.s.data) from rfl)
  have hb0 := Lib.hid ((Below.refl w.heap.size w).alloc (Nat.le_refl _) (.cells (termA t) 104))
  have xb0 := Lib.hid (RowB.new w (termA t) 104)
  clear h hn hT
  go_enter Tryz.func108, Tryz.ntmps108
  go_wp2_with fail
  refine (impl_okV t.v _ (HTB.out _ hb0.out) (HR.out _ hb0.out).r.v (HR.out _ hb0.out).g n1).mono ?_
  rintro e v1 ⟨rfl, hb1⟩
  have XA := Lib.hid (RowB.below xb0.out hb1 (by simp <;> omega))
  have za : w.heap.size < v1.heap.size := XA.out.lt
  have HB1 := Lib.hid (hb0.out.trans (hb1.mono hb0.out.size))
  clear hb1
  have hsg : seg v1 w.heap.size 4 31 = scrA t.s := by rw [seg_row XA.out]; rfl
  rcases hv : okVd t.v.data with _ | _
  · skip
    have HK' := Lib.hid (show okTd t.data = false by rw [HK.out, hv]; rfl)
    clear hv HK
    go_wp2_with fail
    go_ret
    exact ⟨by rw [HK'.out]; first | done | rfl, HB1.out⟩
  · have HK' := Lib.hid (show okTd t.data = okD t.s.data by rw [HK.out, hv]; rfl)
    clear hv HK
    go_wp2_with fail
    refine (impl_ScrOk_any t.s _ (HR.out _ HB1.out).r.s n2).mono ?_
    rintro e v2 ⟨rfl, hb2⟩
    have HB2 := Lib.hid (HB1.out.trans (hb2.mono HB1.out.size))
    clear hb2
    go_wp2_with fail
    go_ret
    exact ⟨by rw [HK'.out]; first | done | rfl, HB2.out⟩
end Go.Proofs.YtgnpgkkjcloghaaGreatDoor.St
namespace Go.Proofs.YtgnpgkkjcloghaaGreatDoor.St
open Go.RowKit Go.Proofs.YtgnpgkkjcloghaaGreatDoor.Bytes Go.Proofs.YtgnpgkkjcloghaaGreatDoor.Rows_ Go.Proofs.YtgnpgkkjcloghaaGreatDoor.RowK Go.Proofs.YtgnpgkkjcloghaaGreatDoor.Gr Go.Proofs.YtgnpgkkjcloghaaGreatDoor.DOk Go.Proofs.YtgnpgkkjcloghaaGreatDoor.Opq Go.Proofs.YtgnpgkkjcloghaaGreatDoor.Sc
set_option linter.unusedVariables false
attribute [local go_sem ↓] Go.wp_at_zero Go.wp_at_succ lm_lawsVp lm_implVp lm_lawsScr lm_implScr lm_lawsTerm lm_implTerm lm_lawsPane lm_implPane lr_implVp lr_implTerm lr_implPane sm_Vp sm_Scr sm_Term sm_Pane sr_Vp sr_Term sr_Pane
attribute [local go_sem] RowZ.set rowOf_set rowOf_setRow_other rowOf_setRow_same rowOf_setCell_other blkOf_ptr isHead_ptr aggN_agg isPtr_ptr offOf_ptr setRow_alloc rowZ_at rowZ_past rowZ_setRow_other rowOf_alloc_at rowOf_alloc_past rowOf_drew seg_alloc_past seg_alloc_at seg_setCell_other seg_setRow_other seg_drew cut_term_scr cut_term_vp cut_pane_term vpA_size termA_size paneA_size scrA_size one_vp one_scr one_term one_pane vp_at0 vp_at1 vp_at2 vp_at3 term_at0 term_at1 term_at2 term_at3 pane_at0 pane_at1 pane_at2 pane_at3 pane_at4 pane_at5
def lifeB (life code pid : Int) : Bool :=
  if life = 1 then decide (1 ≤ pid ∧ pid ≤ 1000000 ∧ code = 0) else if life = 2 then decide (pid = 0 ∧ 0 ≤ code ∧ code ≤ 255) else if life = 3 then decide (pid = 0 ∧ code = 0) else false
def idB (x : Int) : Bool := decide (1 ≤ x ∧ x ≤ 1000000)
def exitB (x : Int) : Bool := decide (0 ≤ x ∧ x ≤ 255)
noncomputable def okPd (d : PaneD) : Bool := idB d.id && decide (d.cmd.size ≤ 60) && decide (d.dir.size ≤ 60) && lifeB d.life d.code d.pid && okTd d.t
set_option maxRecDepth 100000 in
set_option maxHeartbeats 1600000 in
theorem isPane_any (x : Int) (w : World) : Calls Tryz.prog 58 #[.int .i64 x] w fun e w' => e = .returned (.bool (idB x)) ∧ w = w' := by
  have HK := Lib.hid (show idB x = decide (1 ≤ x ∧ x ≤ 1000000) from rfl)
  by_cases h1 : 1 ≤ x
  · by_cases h2 : x ≤ 1000000
    · have HA := Lib.hid (show idB x = true by rw [HK.out]; exact decide_eq_true ⟨h1, h2⟩)
      go_enter Tryz.func58, Tryz.ntmps58
      go_wp2_with fail
      go_ret
      exact ⟨by rw [HA.out]; first | done | rfl, rfl⟩
    · have HA := Lib.hid (show idB x = false by rw [HK.out]; exact decide_eq_false (by omega))
      go_enter Tryz.func58, Tryz.ntmps58
      go_wp2_with fail
      go_ret
      exact ⟨by rw [HA.out]; first | done | rfl, rfl⟩
  · have HA := Lib.hid (show idB x = false by rw [HK.out]; exact decide_eq_false (by omega))
    go_enter Tryz.func58, Tryz.ntmps58
    go_wp2_with fail
    go_ret
    exact ⟨by rw [HA.out]; first | done | rfl, rfl⟩
set_option maxRecDepth 100000 in
set_option maxHeartbeats 1600000 in
theorem isProcess_any (x : Int) (w : World) : Calls Tryz.prog 129 #[.int .i64 x] w fun e w' => e = .returned (.bool (idB x)) ∧ w = w' := by
  go_enter Tryz.func129, Tryz.ntmps129
  go_wp2_with fail
  refine (isPane_any x _).mono ?_
  rintro e v1 ⟨rfl, rfl⟩
  go_wp2_with fail
  go_ret
  exact ⟨rfl, rfl⟩
set_option maxRecDepth 100000 in
set_option maxHeartbeats 1600000 in
theorem isExit_any (x : Int) (w : World) : Calls Tryz.prog 130 #[.int .i64 x] w fun e w' => e = .returned (.bool (exitB x)) ∧ w = w' := by
  by_cases h1 : 0 ≤ x
  · by_cases h2 : x ≤ 255
    · have HA := Lib.hid (show exitB x = true from decide_eq_true ⟨h1, h2⟩)
      go_enter Tryz.func130, Tryz.ntmps130
      go_wp2_with fail
      go_ret
      exact ⟨by rw [HA.out]; first | done | rfl, rfl⟩
    · have HA := Lib.hid (show exitB x = false from decide_eq_false (by omega))
      go_enter Tryz.func130, Tryz.ntmps130
      go_wp2_with fail
      go_ret
      exact ⟨by rw [HA.out]; first | done | rfl, rfl⟩
  · have HA := Lib.hid (show exitB x = false from decide_eq_false (by omega))
    go_enter Tryz.func130, Tryz.ntmps130
    go_wp2_with fail
    go_ret
    exact ⟨by rw [HA.out]; first | done | rfl, rfl⟩
set_option maxRecDepth 100000 in
set_option maxHeartbeats 1600000 in
theorem hasCmdSize_any (s : ByteArray) (w : World) (hs : s.size ≤ 9223372036854775807) : Calls Tryz.prog 106 #[.string s] w fun e w' => e = .returned (.bool (decide (s.size ≤ 60))) ∧ w = w' := by
  have HA := Lib.hid (show decide ((s.size : Int) ≤ 60) = decide (s.size ≤ 60) from by congr 1; apply propext; omega)
  go_enter Tryz.func106, Tryz.ntmps106
  go_wp2_with fail
  go_ret
  exact ⟨by rw [HA.out]; first | done | rfl, rfl⟩
set_option maxRecDepth 100000 in
set_option maxHeartbeats 1600000 in
theorem lifeOk_any (p : PaneS) (w : World) : Calls Tryz.prog 107 #[.agg (paneA p)] w fun e w' => e = .returned (.bool (lifeB p.life p.code p.pid)) ∧ Below w.heap.size w w' := by
  obtain ⟨i0, i1, i2, life, code, pid, t⟩ := p
  have hb0 := Lib.hid ((Below.refl w.heap.size w).alloc (Nat.le_refl _) (.cells (paneA ⟨i0, i1, i2, life, code, pid, t⟩) 106))
  show Calls _ _ _ _ (fun e w' => e = .returned (.bool (lifeB life code pid)) ∧ Below w.heap.size w w')
  by_cases h1 : life = 1
  · subst h1
    have HK := Lib.hid (show lifeB 1 code pid = decide (1 ≤ pid ∧ pid ≤ 1000000 ∧ code = 0) from rfl)
    rcases hp : idB pid with _ | _
    · have HA := Lib.hid (show lifeB 1 code pid = false by rw [HK.out]; unfold idB at hp; simp at hp ⊢; omega)
      go_enter Tryz.func107, Tryz.ntmps107
      go_wp2_with fail
      refine (isProcess_any pid _).mono ?_
      rintro e v1 ⟨rfl, rfl⟩
      rw [hp]
      go_wp2_with fail
      go_ret
      exact ⟨by rw [HA.out]; first | done | rfl, hb0.out⟩
    · have HA := Lib.hid (show lifeB 1 code pid = (code == 0) by rw [HK.out]; unfold idB at hp; simp at hp ⊢; by_cases h : code = 0 <;> simp [h] <;> omega)
      go_enter Tryz.func107, Tryz.ntmps107
      go_wp2_with fail
      refine (isProcess_any pid _).mono ?_
      rintro e v1 ⟨rfl, rfl⟩
      rw [hp]
      go_wp2_with fail
      go_ret
      exact ⟨by rw [HA.out]; first | done | rfl, hb0.out⟩
  by_cases h2 : life = 2
  · subst h2
    have HK := Lib.hid (show lifeB 2 code pid = decide (pid = 0 ∧ 0 ≤ code ∧ code ≤ 255) from rfl)
    rcases hp : exitB code with _ | _
    · have HA := Lib.hid (show lifeB 2 code pid = false by rw [HK.out]; unfold exitB at hp; simp at hp ⊢; omega)
      go_enter Tryz.func107, Tryz.ntmps107
      go_wp2_with fail
      refine (isExit_any code _).mono ?_
      rintro e v1 ⟨rfl, rfl⟩
      rw [hp]
      go_wp2_with fail
      go_ret
      exact ⟨by rw [HA.out]; first | done | rfl, hb0.out⟩
    · have HA := Lib.hid (show lifeB 2 code pid = (pid == 0) by rw [HK.out]; unfold exitB at hp; simp at hp ⊢; by_cases h : pid = 0 <;> simp [h] <;> omega)
      go_enter Tryz.func107, Tryz.ntmps107
      go_wp2_with fail
      refine (isExit_any code _).mono ?_
      rintro e v1 ⟨rfl, rfl⟩
      rw [hp]
      go_wp2_with fail
      go_ret
      exact ⟨by rw [HA.out]; first | done | rfl, hb0.out⟩
  by_cases h3 : life = 3
  · subst h3
    have HK := Lib.hid (show lifeB 3 code pid = decide (pid = 0 ∧ code = 0) from rfl)
    by_cases hc : code = 0
    · subst hc
      have HA := Lib.hid (show lifeB 3 0 pid = (pid == 0) by rw [HK.out]; by_cases h : pid = 0 <;> simp [h])
      go_enter Tryz.func107, Tryz.ntmps107
      go_wp2_with fail
      go_ret
      exact ⟨by rw [HA.out]; first | done | rfl, hb0.out⟩
    · have HA := Lib.hid (show lifeB 3 code pid = false by rw [HK.out]; simp; intro _; exact hc)
      have hc' : (code == 0) = false := by simp [hc]
      go_enter Tryz.func107, Tryz.ntmps107
      go_wp2_with fail
      go_ret
      exact ⟨by rw [HA.out]; first | done | rfl, hb0.out⟩
  · have HA := Lib.hid (show lifeB life code pid = false by unfold lifeB; rw [if_neg h1, if_neg h2, if_neg h3])
    have g1 : (life == 1) = false := by simp [h1]
    have g2 : (life == 2) = false := by simp [h2]
    have g3 : (life == 3) = false := by simp [h3]
    go_enter Tryz.func107, Tryz.ntmps107
    go_wp2_with fail
    go_ret
    exact ⟨by rw [HA.out]; first | done | rfl, hb0.out⟩
set_option maxRecDepth 100000 in
set_option maxHeartbeats 1600000 in
theorem impl_PaneOk_any (p : PaneS) (w : World) (hT : Dec.Tabs8 w) (h : TIn w p.t) (n1 : p.cmd.size ≤ 9223372036854775807) (n2 : p.dir.size ≤ 9223372036854775807) (hn : szT p.t ≤ 1048576) :
    Calls Tryz.prog 64 #[.agg (paneA p)] w fun e w' => e = .returned (.bool (okPd p.data)) ∧ Below w.heap.size w w' := by
  have HR := Lib.hid (fun W (hb : Below w.heap.size w W) => h.below hb)
  have HTB := Lib.hid (fun W (hb : Below w.heap.size w W) => Rune.tabs_below hT hb)
  have HK := Lib.hid (show okPd p.data = (idB p.id && decide (p.cmd.size ≤ 60) && decide (p.dir.size ≤ 60) && lifeB p.life p.code p.pid && okTd p.t.data) from rfl)
  have hb0 := Lib.hid ((Below.refl w.heap.size w).alloc (Nat.le_refl _) (.cells (paneA p) 106))
  have xb0 := Lib.hid (RowB.new w (paneA p) 106)
  clear h hT
  go_enter Tryz.func64, Tryz.ntmps64
  go_wp2_with fail
  refine (isPane_any p.id _).mono ?_
  rintro e v1 ⟨rfl, rfl⟩
  rcases q1 : idB p.id with _ | _
  · have HA := Lib.hid (show okPd p.data = false by rw [HK.out, q1]; rfl)
    go_wp2_with fail
    go_ret
    exact ⟨by rw [HA.out]; first | done | rfl, hb0.out⟩
  go_wp2_with fail
  refine (hasCmdSize_any p.cmd _ n1).mono ?_
  rintro e v1 ⟨rfl, rfl⟩
  rcases q2 : decide (p.cmd.size ≤ 60) with _ | _
  · have HA := Lib.hid (show okPd p.data = false by rw [HK.out, q1, q2]; rfl)
    go_wp2_with fail
    go_ret
    exact ⟨by rw [HA.out]; first | done | rfl, hb0.out⟩
  go_wp2_with fail
  refine (hasCmdSize_any p.dir _ n2).mono ?_
  rintro e v1 ⟨rfl, rfl⟩
  rcases q3 : decide (p.dir.size ≤ 60) with _ | _
  · have HA := Lib.hid (show okPd p.data = false by rw [HK.out, q1, q2, q3]; rfl)
    go_wp2_with fail
    go_ret
    exact ⟨by rw [HA.out]; first | done | rfl, hb0.out⟩
  go_wp2_with fail
  refine (lifeOk_any p _).mono ?_
  rintro e v1 ⟨rfl, hb1⟩
  have XA := Lib.hid (RowB.below xb0.out hb1 (by simp <;> omega))
  have za : w.heap.size < v1.heap.size := XA.out.lt
  have HB1 := Lib.hid (hb0.out.trans (hb1.mono hb0.out.size))
  clear hb1
  have hsg : seg v1 w.heap.size 6 35 = termA p.t := by rw [seg_row XA.out]; rfl
  rcases q4 : lifeB p.life p.code p.pid with _ | _
  · have HA := Lib.hid (show okPd p.data = false by rw [HK.out, q1, q2, q3, q4]; rfl)
    go_wp2_with fail
    go_ret
    exact ⟨by rw [HA.out]; first | done | rfl, HB1.out⟩
  have HA := Lib.hid (show okPd p.data = okTd p.t.data by rw [HK.out, q1, q2, q3, q4]; rfl)
  go_wp2_with fail
  refine (impl_TermOk_any p.t _ (HTB.out _ HB1.out) (HR.out _ HB1.out) hn).mono ?_
  rintro e v2 ⟨rfl, hb2⟩
  have HB2 := Lib.hid (HB1.out.trans (hb2.mono HB1.out.size))
  clear hb2
  go_wp2_with fail
  go_ret
  exact ⟨by rw [HA.out]; first | done | rfl, HB2.out⟩
end Go.Proofs.YtgnpgkkjcloghaaGreatDoor.St
