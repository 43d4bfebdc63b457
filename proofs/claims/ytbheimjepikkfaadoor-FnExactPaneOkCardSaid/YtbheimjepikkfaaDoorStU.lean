/- PaneOk on both sides. -/
import Derived.Test.YtbheimjepikkfaaDoorStT
namespace Go.Proofs.YtbheimjepikkfaaDoor.St
open Go.RowKit Go.Proofs.YtbheimjepikkfaaDoor.Bytes Go.Proofs.YtbheimjepikkfaaDoor.Rows_ Go.Proofs.YtbheimjepikkfaaDoor.RowK Go.Proofs.YtbheimjepikkfaaDoor.Gr Go.Proofs.YtbheimjepikkfaaDoor.DOk Go.Proofs.YtbheimjepikkfaaDoor.Opq Go.Proofs.YtbheimjepikkfaaDoor.Sc
set_option linter.unusedVariables false
attribute [local go_sem ↓] Go.wp_at_zero Go.wp_at_succ lm_lawsVp lm_implVp lm_lawsScr lm_implScr lm_lawsTerm lm_implTerm lm_lawsPane lm_implPane lr_implVp lr_implTerm lr_implPane sm_Vp sm_Scr sm_Term sm_Pane sr_Vp sr_Term sr_Pane
attribute [local go_sem] RowZ.set rowOf_set rowOf_setRow_other rowOf_setRow_same rowOf_setCell_other blkOf_ptr isHead_ptr aggN_agg isPtr_ptr offOf_ptr setRow_alloc rowZ_at rowZ_past rowZ_setRow_other rowOf_alloc_at rowOf_alloc_past rowOf_drew seg_alloc_past seg_alloc_at seg_setCell_other seg_setRow_other seg_drew cut_term_scr cut_term_vp cut_pane_term vpA_size termA_size paneA_size scrA_size one_vp one_scr one_term one_pane vp_at0 vp_at1 vp_at2 vp_at3 term_at0 term_at1 term_at2 term_at3 pane_at0 pane_at1 pane_at2 pane_at3 pane_at4 pane_at5

theorem bs_ofPane {t t' : PaneS} (h : t'.data = t.data) : t'.t.v.bs = t.t.v.bs := by
  have := congrArg (fun d : PaneD => d.t.v.bs) h
  exact this
theorem cmd_of {t t' : PaneS} (h : t'.data = t.data) : t'.cmd = t.cmd := by
  have := congrArg (fun d : PaneD => d.cmd) h
  exact this
theorem dir_of {t t' : PaneS} (h : t'.data = t.data) : t'.dir = t.dir := by
  have := congrArg (fun d : PaneD => d.dir) h
  exact this
theorem szT_le {p : PaneS} {n : Nat} (h : szP p ≤ n) : szT p.t ≤ n := by unfold szP at h; omega
def lifeB (life code pid : Int) : Bool :=
  if life = 1 then decide (1 ≤ pid ∧ pid ≤ 1000000 ∧ code = 0) else if life = 2 then decide (pid = 0 ∧ 0 ≤ code ∧ code ≤ 255) else if life = 3 then decide (pid = 0 ∧ code = 0) else false
def idB (x : Int) : Bool := decide (1 ≤ x ∧ x ≤ 1000000)
def exitB (x : Int) : Bool := decide (0 ≤ x ∧ x ≤ 255)
noncomputable def okPd (d : PaneD) : Bool := idB d.id && decide (d.cmd.size ≤ 60) && decide (d.dir.size ≤ 60) && lifeB d.life d.code d.pid && okTd d.t
set_option maxRecDepth 100000 in
set_option maxHeartbeats 1600000 in
theorem isPane_any (x : Int) (w : World) : Calls Tryd.prog 25 #[.int .i64 x] w fun e w' => e = .returned (.bool (idB x)) ∧ w = w' := by
  have HK := Lib.hid (show idB x = decide (1 ≤ x ∧ x ≤ 1000000) from rfl)
  by_cases h1 : 1 ≤ x
  · by_cases h2 : x ≤ 1000000
    · have HA := Lib.hid (show idB x = true by rw [HK.out]; exact decide_eq_true ⟨h1, h2⟩)
      go_enter Tryd.func25, Tryd.ntmps25
      go_wp2_with fail
      go_ret
      exact ⟨by rw [HA.out]; first | done | rfl, rfl⟩
    · have HA := Lib.hid (show idB x = false by rw [HK.out]; exact decide_eq_false (by omega))
      go_enter Tryd.func25, Tryd.ntmps25
      go_wp2_with fail
      go_ret
      exact ⟨by rw [HA.out]; first | done | rfl, rfl⟩
  · have HA := Lib.hid (show idB x = false by rw [HK.out]; exact decide_eq_false (by omega))
    go_enter Tryd.func25, Tryd.ntmps25
    go_wp2_with fail
    go_ret
    exact ⟨by rw [HA.out]; first | done | rfl, rfl⟩
set_option maxRecDepth 100000 in
set_option maxHeartbeats 1600000 in
theorem isProcess_any (x : Int) (w : World) : Calls Tryd.prog 57 #[.int .i64 x] w fun e w' => e = .returned (.bool (idB x)) ∧ w = w' := by
  go_enter Tryd.func57, Tryd.ntmps57
  go_wp2_with fail
  refine (isPane_any x _).mono ?_
  rintro e v1 ⟨rfl, rfl⟩
  go_wp2_with fail
  go_ret
  exact ⟨rfl, rfl⟩
set_option maxRecDepth 100000 in
set_option maxHeartbeats 1600000 in
theorem isExit_any (x : Int) (w : World) : Calls Tryd.prog 58 #[.int .i64 x] w fun e w' => e = .returned (.bool (exitB x)) ∧ w = w' := by
  by_cases h1 : 0 ≤ x
  · by_cases h2 : x ≤ 255
    · have HA := Lib.hid (show exitB x = true from decide_eq_true ⟨h1, h2⟩)
      go_enter Tryd.func58, Tryd.ntmps58
      go_wp2_with fail
      go_ret
      exact ⟨by rw [HA.out]; first | done | rfl, rfl⟩
    · have HA := Lib.hid (show exitB x = false from decide_eq_false (by omega))
      go_enter Tryd.func58, Tryd.ntmps58
      go_wp2_with fail
      go_ret
      exact ⟨by rw [HA.out]; first | done | rfl, rfl⟩
  · have HA := Lib.hid (show exitB x = false from decide_eq_false (by omega))
    go_enter Tryd.func58, Tryd.ntmps58
    go_wp2_with fail
    go_ret
    exact ⟨by rw [HA.out]; first | done | rfl, rfl⟩
set_option maxRecDepth 100000 in
set_option maxHeartbeats 1600000 in
theorem hasCmdSize_any (s : ByteArray) (w : World) (hs : s.size ≤ 9223372036854775807) : Calls Tryd.prog 26 #[.string s] w fun e w' => e = .returned (.bool (decide (s.size ≤ 60))) ∧ w = w' := by
  have HA := Lib.hid (show decide ((s.size : Int) ≤ 60) = decide (s.size ≤ 60) from by congr 1; apply propext; omega)
  go_enter Tryd.func26, Tryd.ntmps26
  go_wp2_with fail
  go_ret
  exact ⟨by rw [HA.out]; first | done | rfl, rfl⟩
set_option maxRecDepth 100000 in
set_option maxHeartbeats 1600000 in
theorem lifeOk_any (p : PaneS) (w : World) : Calls Tryd.prog 27 #[.agg (paneA p)] w fun e w' => e = .returned (.bool (lifeB p.life p.code p.pid)) ∧ Below w.heap.size w w' := by
  obtain ⟨i0, i1, i2, life, code, pid, t⟩ := p
  have hb0 := Lib.hid ((Below.refl w.heap.size w).alloc (Nat.le_refl _) (.cells (paneA ⟨i0, i1, i2, life, code, pid, t⟩) 56))
  show Calls _ _ _ _ (fun e w' => e = .returned (.bool (lifeB life code pid)) ∧ Below w.heap.size w w')
  by_cases h1 : life = 1
  · subst h1
    have HK := Lib.hid (show lifeB 1 code pid = decide (1 ≤ pid ∧ pid ≤ 1000000 ∧ code = 0) from rfl)
    rcases hp : idB pid with _ | _
    · have HA := Lib.hid (show lifeB 1 code pid = false by rw [HK.out]; unfold idB at hp; simp at hp ⊢; omega)
      go_enter Tryd.func27, Tryd.ntmps27
      go_wp2_with fail
      refine (isProcess_any pid _).mono ?_
      rintro e v1 ⟨rfl, rfl⟩
      rw [hp]
      go_wp2_with fail
      go_ret
      exact ⟨by rw [HA.out]; first | done | rfl, hb0.out⟩
    · have HA := Lib.hid (show lifeB 1 code pid = (code == 0) by rw [HK.out]; unfold idB at hp; simp at hp ⊢; by_cases h : code = 0 <;> simp [h] <;> omega)
      go_enter Tryd.func27, Tryd.ntmps27
      go_wp2_with fail
      refine (isProcess_any pid _).mono ?_
      rintro e v1 ⟨rfl, rfl⟩
      rw [hp]
      go_wp2_with fail
      go_ret
      exact ⟨by rw [HA.out]; first | done | rfl, hb0.out⟩
  by_cases h2 : life = 2
  · subst h2
    have HK := Lib.hid (show lifeB 2 code pid = decide (pid = 0 ∧ 0 ≤ code ∧ code ≤ 255) from rfl)
    rcases hp : exitB code with _ | _
    · have HA := Lib.hid (show lifeB 2 code pid = false by rw [HK.out]; unfold exitB at hp; simp at hp ⊢; omega)
      go_enter Tryd.func27, Tryd.ntmps27
      go_wp2_with fail
      refine (isExit_any code _).mono ?_
      rintro e v1 ⟨rfl, rfl⟩
      rw [hp]
      go_wp2_with fail
      go_ret
      exact ⟨by rw [HA.out]; first | done | rfl, hb0.out⟩
    · have HA := Lib.hid (show lifeB 2 code pid = (pid == 0) by rw [HK.out]; unfold exitB at hp; simp at hp ⊢; by_cases h : pid = 0 <;> simp [h] <;> omega)
      go_enter Tryd.func27, Tryd.ntmps27
      go_wp2_with fail
      refine (isExit_any code _).mono ?_
      rintro e v1 ⟨rfl, rfl⟩
      rw [hp]
      go_wp2_with fail
      go_ret
      exact ⟨by rw [HA.out]; first | done | rfl, hb0.out⟩
  by_cases h3 : life = 3
  · subst h3
    have HK := Lib.hid (show lifeB 3 code pid = decide (pid = 0 ∧ code = 0) from rfl)
    by_cases hc : code = 0
    · subst hc
      have HA := Lib.hid (show lifeB 3 0 pid = (pid == 0) by rw [HK.out]; by_cases h : pid = 0 <;> simp [h])
      go_enter Tryd.func27, Tryd.ntmps27
      go_wp2_with fail
      go_ret
      exact ⟨by rw [HA.out]; first | done | rfl, hb0.out⟩
    · have HA := Lib.hid (show lifeB 3 code pid = false by rw [HK.out]; simp; intro _; exact hc)
      have hc' : (code == 0) = false := by simp [hc]
      go_enter Tryd.func27, Tryd.ntmps27
      go_wp2_with fail
      go_ret
      exact ⟨by rw [HA.out]; first | done | rfl, hb0.out⟩
  · have HA := Lib.hid (show lifeB life code pid = false by unfold lifeB; rw [if_neg h1, if_neg h2, if_neg h3])
    have g1 : (life == 1) = false := by simp [h1]
    have g2 : (life == 2) = false := by simp [h2]
    have g3 : (life == 3) = false := by simp [h3]
    go_enter Tryd.func27, Tryd.ntmps27
    go_wp2_with fail
    go_ret
    exact ⟨by rw [HA.out]; first | done | rfl, hb0.out⟩
set_option maxRecDepth 100000 in
set_option maxHeartbeats 1600000 in
theorem impl_PaneOk_any (p : PaneS) (w : World) (hT : Dec.Tabs8 w) (h : TIn w p.t) (n1 : p.cmd.size ≤ 9223372036854775807) (n2 : p.dir.size ≤ 9223372036854775807) (hn : szT p.t ≤ 1048576) :
    Calls Tryd.prog 13 #[.agg (paneA p)] w fun e w' => e = .returned (.bool (okPd p.data)) ∧ Below w.heap.size w w' := by
  have HR := Lib.hid (fun W (hb : Below w.heap.size w W) => h.below hb)
  have HTB := Lib.hid (fun W (hb : Below w.heap.size w W) => Rune.tabs_below hT hb)
  have HK := Lib.hid (show okPd p.data = (idB p.id && decide (p.cmd.size ≤ 60) && decide (p.dir.size ≤ 60) && lifeB p.life p.code p.pid && okTd p.t.data) from rfl)
  have hb0 := Lib.hid ((Below.refl w.heap.size w).alloc (Nat.le_refl _) (.cells (paneA p) 56))
  have xb0 := Lib.hid (RowB.new w (paneA p) 56)
  clear h hT
  go_enter Tryd.func13, Tryd.ntmps13
  go_wp2_with fail
  refine (isPane_any p.id _).mono ?_
  rintro e v1 ⟨rfl, rfl⟩
  rcases q1 : idB p.id with _ | _
  · have HA := Lib.hid (show okPd p.data = false by rw [HK.out, q1]; rfl)
    go_wp2_with fail
    go_ret
    exact ⟨by rw [HA.out]; first | done | rfl, hb0.out⟩
  go_wp2_with fail
  refine (hasCmdSize_any p.cmd _ n1).mono ?_
  rintro e v1 ⟨rfl, rfl⟩
  rcases q2 : decide (p.cmd.size ≤ 60) with _ | _
  · have HA := Lib.hid (show okPd p.data = false by rw [HK.out, q1, q2]; rfl)
    go_wp2_with fail
    go_ret
    exact ⟨by rw [HA.out]; first | done | rfl, hb0.out⟩
  go_wp2_with fail
  refine (hasCmdSize_any p.dir _ n2).mono ?_
  rintro e v1 ⟨rfl, rfl⟩
  rcases q3 : decide (p.dir.size ≤ 60) with _ | _
  · have HA := Lib.hid (show okPd p.data = false by rw [HK.out, q1, q2, q3]; rfl)
    go_wp2_with fail
    go_ret
    exact ⟨by rw [HA.out]; first | done | rfl, hb0.out⟩
  go_wp2_with fail
  refine (lifeOk_any p _).mono ?_
  rintro e v1 ⟨rfl, hb1⟩
  have XA := Lib.hid (RowB.below xb0.out hb1 (by simp <;> omega))
  have za : w.heap.size < v1.heap.size := XA.out.lt
  have HB1 := Lib.hid (hb0.out.trans (hb1.mono hb0.out.size))
  clear hb1
  have hsg : seg v1 w.heap.size 6 35 = termA p.t := by rw [seg_row XA.out]; rfl
  rcases q4 : lifeB p.life p.code p.pid with _ | _
  · have HA := Lib.hid (show okPd p.data = false by rw [HK.out, q1, q2, q3, q4]; rfl)
    go_wp2_with fail
    go_ret
    exact ⟨by rw [HA.out]; first | done | rfl, HB1.out⟩
  have HA := Lib.hid (show okPd p.data = okTd p.t.data by rw [HK.out, q1, q2, q3, q4]; rfl)
  go_wp2_with fail
  refine (impl_TermOk_any p.t _ (HTB.out _ HB1.out) (HR.out _ HB1.out) hn).mono ?_
  rintro e v2 ⟨rfl, hb2⟩
  have HB2 := Lib.hid (HB1.out.trans (hb2.mono HB1.out.size))
  clear hb2
  go_wp2_with fail
  go_ret
  exact ⟨by rw [HA.out]; first | done | rfl, HB2.out⟩
set_option maxRecDepth 100000 in
set_option maxHeartbeats 1600000 in
theorem spec_PaneOk_any (p : PaneS) (w : World) (h : TIn w p.t) (n1 : p.cmd.size ≤ 9223372036854775807) (n2 : p.dir.size ≤ 9223372036854775807) (hn : szT p.t ≤ 1048576) :
    Calls Tryd.prog 11 #[.agg (paneA p)] w fun e w' => e = .returned (.bool (okPd p.data)) ∧ Below w.heap.size w w' := by
  have HR := Lib.hid (fun W (hb : Below w.heap.size w W) => h.below hb)
  obtain ⟨id, cmd, dir, life, code, pid, t⟩ := p
  have HK := Lib.hid (show okPd (PaneS.data ⟨id, cmd, dir, life, code, pid, t⟩) = (idB id && decide (cmd.size ≤ 60) && decide (dir.size ≤ 60) && lifeB life code pid && okTd t.data) from rfl)
  have hb0 := Lib.hid ((Below.refl w.heap.size w).alloc (Nat.le_refl _) (.cells (paneA ⟨id, cmd, dir, life, code, pid, t⟩) 56))
  have xb0 := Lib.hid (RowB.new w (paneA ⟨id, cmd, dir, life, code, pid, t⟩) 56)
  generalize okPd (PaneS.data ⟨id, cmd, dir, life, code, pid, t⟩) = ans at HK ⊢
  clear h
  simp only [] at hn HR n1 n2
  by_cases h1 : id < 1
  · have HA := Lib.hid (show ans = false by rw [HK.out, show idB id = false from decide_eq_false (by omega)]; rfl)
    go_enter Tryd.func11, Tryd.ntmps11
    go_wp2_with fail
    go_ret
    exact ⟨by rw [HA.out]; first | done | rfl, hb0.out⟩
  by_cases h2 : id > 1000000
  · have HA := Lib.hid (show ans = false by rw [HK.out, show idB id = false from decide_eq_false (by omega)]; rfl)
    go_enter Tryd.func11, Tryd.ntmps11
    go_wp2_with fail
    go_ret
    exact ⟨by rw [HA.out]; first | done | rfl, hb0.out⟩
  have q1 : idB id = true := decide_eq_true (by omega)
  by_cases h3 : (cmd.size : Int) > 60
  · have HA := Lib.hid (show ans = false by rw [HK.out, q1, show decide (cmd.size ≤ 60) = false from decide_eq_false (by omega)]; rfl)
    go_enter Tryd.func11, Tryd.ntmps11
    go_wp2_with fail
    go_ret
    exact ⟨by rw [HA.out]; first | done | rfl, hb0.out⟩
  have q2 : decide (cmd.size ≤ 60) = true := decide_eq_true (by omega)
  by_cases h4 : (dir.size : Int) > 60
  · have HA := Lib.hid (show ans = false by rw [HK.out, q1, q2, show decide (dir.size ≤ 60) = false from decide_eq_false (by omega)]; rfl)
    go_enter Tryd.func11, Tryd.ntmps11
    go_wp2_with fail
    go_ret
    exact ⟨by rw [HA.out]; first | done | rfl, hb0.out⟩
  have q3 : decide (dir.size ≤ 60) = true := decide_eq_true (by omega)
  have HK2 := Lib.hid (show ans = (lifeB life code pid && okTd t.data) by rw [HK.out, q1, q2, q3]; simp)
  clear HK q1 q2 q3
  go_enter Tryd.func11, Tryd.ntmps11
  go_wp2_with fail
  refine (spec_TermOk_any t _ (HR.out _ hb0.out) hn).mono ?_
  rintro e v1 ⟨rfl, hb1⟩
  have XA := Lib.hid (RowB.below xb0.out hb1 (by simp <;> omega))
  have za : w.heap.size < v1.heap.size := XA.out.lt
  have HB1 := Lib.hid (hb0.out.trans (hb1.mono hb0.out.size))
  clear hb1 hb0 xb0
  have c3 : v1.cell? ⟨w.heap.size, 3, none⟩ = some (.int .i64 life) := XA.out.cell 3
  have c4 : v1.cell? ⟨w.heap.size, 4, none⟩ = some (.int .i64 code) := XA.out.cell 4
  have c5 : v1.cell? ⟨w.heap.size, 5, none⟩ = some (.int .i64 pid) := XA.out.cell 5
  rcases q4 : okTd t.data with _ | _
  · have HA := Lib.hid (show ans = false by rw [HK2.out, q4]; simp)
    go_wp2_with fail
    go_ret
    exact ⟨by rw [HA.out]; first | done | rfl, HB1.out⟩
  have HL := Lib.hid (show ans = lifeB life code pid by rw [HK2.out, q4]; simp)
  clear HK2 q4
  by_cases l1 : life = 1
  · subst l1
    have HA := Lib.hid (show ans = (decide (pid ≥ 1) && decide (pid ≤ 1000000) && (code == 0)) by rw [HL.out]; show decide (1 ≤ pid ∧ pid ≤ 1000000 ∧ code = 0) = _; rw [Bool.eq_iff_iff]; simp; omega)
    by_cases p1 : pid ≥ 1
    · by_cases p2 : pid ≤ 1000000
      · have HA' := Lib.hid (show ans = (code == 0) by rw [HA.out, decide_eq_true p1, decide_eq_true p2]; simp)
        go_wp2_with fail
        go_ret
        exact ⟨by rw [HA'.out]; first | done | rfl, HB1.out⟩
      · have HA' := Lib.hid (show ans = false by rw [HA.out, decide_eq_false p2]; simp)
        go_wp2_with fail
        go_ret
        exact ⟨by rw [HA'.out]; first | done | rfl, HB1.out⟩
    · have HA' := Lib.hid (show ans = false by rw [HA.out, decide_eq_false p1]; simp)
      go_wp2_with fail
      go_ret
      exact ⟨by rw [HA'.out]; first | done | rfl, HB1.out⟩
  have g1 : (life == 1) = false := by simp [l1]
  by_cases l2 : life = 2
  · subst l2
    have HA := Lib.hid (show ans = ((pid == 0) && decide (code ≥ 0) && decide (code ≤ 255)) by rw [HL.out]; show decide (pid = 0 ∧ 0 ≤ code ∧ code ≤ 255) = _; rw [Bool.eq_iff_iff]; simp; omega)
    by_cases p0 : pid = 0
    · subst p0
      by_cases p1 : code ≥ 0
      · have HA' := Lib.hid (show ans = decide (code ≤ 255) by rw [HA.out, decide_eq_true p1]; simp)
        go_wp2_with fail
        go_ret
        exact ⟨by rw [HA'.out]; first | done | rfl, HB1.out⟩
      · have HA' := Lib.hid (show ans = false by rw [HA.out, decide_eq_false p1]; simp)
        go_wp2_with fail
        go_ret
        exact ⟨by rw [HA'.out]; first | done | rfl, HB1.out⟩
    · have p0' : (pid == 0) = false := by simp [p0]
      have HA' := Lib.hid (show ans = false by rw [HA.out, p0']; simp)
      go_wp2_with fail
      go_ret
      exact ⟨by rw [HA'.out]; first | done | rfl, HB1.out⟩
  have g2 : (life == 2) = false := by simp [l2]
  by_cases l3 : life = 3
  · subst l3
    have HA := Lib.hid (show ans = ((pid == 0) && (code == 0)) by rw [HL.out]; show decide (pid = 0 ∧ code = 0) = _; rw [Bool.eq_iff_iff]; simp)
    by_cases p0 : pid = 0
    · subst p0
      have HA' := Lib.hid (show ans = (code == 0) by rw [HA.out]; simp)
      go_wp2_with fail
      go_ret
      exact ⟨by rw [HA'.out]; first | done | rfl, HB1.out⟩
    · have p0' : (pid == 0) = false := by simp [p0]
      have HA' := Lib.hid (show ans = false by rw [HA.out, p0']; simp)
      go_wp2_with fail
      go_ret
      exact ⟨by rw [HA'.out]; first | done | rfl, HB1.out⟩
  · have g3 : (life == 3) = false := by simp [l3]
    have HA' := Lib.hid (show ans = false by rw [HL.out]; unfold lifeB; rw [if_neg l1, if_neg l2, if_neg l3])
    go_wp2_with fail
    go_ret
    exact ⟨by rw [HA'.out]; first | done | rfl, HB1.out⟩
end Go.Proofs.YtbheimjepikkfaaDoor.St
