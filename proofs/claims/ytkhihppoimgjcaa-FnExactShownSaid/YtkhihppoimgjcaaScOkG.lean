/- Which screens are valid, in the program. -/
import Derived.Test.YtkhihppoimgjcaaScOkP
import Derived.Test.YtkhihppoimgjcaaScSz
import Derived.Test.YtkhihppoimgjcaaScLaw
import Derived.Test.YtkhihppoimgjcaaScO
namespace Go.Proofs.Ytkhihppoimgjcaa.Sc
open Go.RowKit Go.Proofs.Ytkhihppoimgjcaa.Bytes Go.Proofs.Ytkhihppoimgjcaa.Rows_ Go.Proofs.Ytkhihppoimgjcaa.RowK Go.Proofs.Ytkhihppoimgjcaa.Gr Go.Proofs.Ytkhihppoimgjcaa.DOk Go.Proofs.Ytkhihppoimgjcaa.Opq Go.Proofs.Ytkhihppoimgjcaa.Attr
set_option linter.unusedVariables false
attribute [local go_sem ↓] Sc.exec_storeS Sc.exec_loadS
attribute [local go_sem] blkOf_ptr isHead_ptr aggN_agg setRow_alloc rowZ_at rowZ_past scrA_size one_scr rowOf_alloc_at rowOf_alloc_past
attribute [local go_sem] scr_at0 scr_at1 scr_at2 scr_at3 scr_at4 scr_at5 scr_at6 scr_at7 scr_at8 scr_at9 scr_at10 scr_at11 scr_at12 scr_at13 scr_at14 scr_at15 scr_at16 scr_at17 scr_at18 scr_at19 scr_at20 scr_at21 scr_at22 scr_at23 scr_at24 scr_at25 scr_at26 scr_at27 scr_at28 scr_at29 scr_at30
def gridsB (d : ScrD) : Bool := hasS d.mw d.mh d.w d.h && (hasS d.aw d.ah d.w d.h && (okG d.mw d.mh d.M && okG d.aw d.ah d.A))
theorem gridsB_iff {d : ScrD} : gridsB d = true ↔ C1 d := by
  unfold gridsB C1 hasS
  simp only [Bool.and_eq_true, decide_eq_true_eq]
  constructor
  · rintro ⟨⟨a, b⟩, ⟨c, e⟩, f, g⟩; exact ⟨f, g, a, b, c, e⟩
  · rintro ⟨f, g, a, b, c, e⟩; exact ⟨⟨a, b⟩, ⟨c, e⟩, f, g⟩
theorem gb1 {d : ScrD} (h : hasS d.mw d.mh d.w d.h = false) : gridsB d = false := by unfold gridsB; rw [h]; rfl
theorem gb2 {d : ScrD} (h : hasS d.aw d.ah d.w d.h = false) : gridsB d = false := by unfold gridsB; rw [h]; cases hasS d.mw d.mh d.w d.h <;> rfl
theorem gb3 {d : ScrD} (h : okG d.mw d.mh d.M = false) : gridsB d = false := by unfold gridsB; rw [h]; cases hasS d.mw d.mh d.w d.h <;> cases hasS d.aw d.ah d.w d.h <;> rfl
theorem gb4 {d : ScrD} (h : okG d.aw d.ah d.A = false) : gridsB d = false := by unfold gridsB; rw [h]; cases hasS d.mw d.mh d.w d.h <;> cases hasS d.aw d.ah d.w d.h <;> cases okG d.mw d.mh d.M <;> rfl
theorem gb5 {d : ScrD} (h1 : hasS d.mw d.mh d.w d.h = true) (h2 : hasS d.aw d.ah d.w d.h = true) (h3 : okG d.mw d.mh d.M = true) (h4 : okG d.aw d.ah d.A = true) : gridsB d = true := by unfold gridsB; rw [h1, h2, h3, h4]; rfl
def backB (d : ScrD) : Bool := d.rows.all okRow && decide ((d.rows.length : Int) ≤ d.lim)
theorem ob1 {d : ScrD} (h : gridsB d = false) : okD d = false := okD_f (fun h' : OkP d => by have := gridsB_iff.2 h'.1; rw [h] at this; cases this)
theorem ob2 {d : ScrD} (h : inB d.mw d.mh d.x d.y = false) : okD d = false := okD_f (fun h' : OkP d => of_decide_eq_false h (by
  obtain ⟨⟨_, _, e1, e2, _⟩, ⟨a, b, c, e, _⟩, _⟩ := h'; rw [e1, e2]; exact ⟨a, b, c, e⟩))
theorem ob3 {d : ScrD} (h : inB d.mw d.mh d.sx d.sy = false) : okD d = false := okD_f (fun h' : OkP d => of_decide_eq_false h (by
  obtain ⟨⟨_, _, e1, e2, _⟩, ⟨_, _, _, _, _, a, b, c, e, _⟩, _⟩ := h'; rw [e1, e2]; exact ⟨a, b, c, e⟩))
theorem ob4 {d : ScrD} (h1 : d.wrap = true) (h2 : ¬ d.x = d.w - 1) : okD d = false := okD_f (fun h' : OkP d => h2 (h'.2.1.2.2.2.2.1 h1))
theorem ob5 {d : ScrD} (h : okA d.fg d.bg = false) : okD d = false := okD_f (fun h' : OkP d => by have := h'.2.1.2.2.2.2.2.2.2.2.2.1; rw [h] at this; cases this)
theorem ob6 {d : ScrD} (h : okA d.sfg d.sbg = false) : okD d = false := okD_f (fun h' : OkP d => by have := h'.2.1.2.2.2.2.2.2.2.2.2.2; rw [h] at this; cases this)
theorem ob7 {d : ScrD} (h : regB d.top d.bot d.h = false) : okD d = false := okD_f (fun h' : OkP d => of_decide_eq_false h (by
  obtain ⟨_, _, ⟨a, b, c, e, _⟩, _⟩ := h'; exact ⟨a, b, c, e⟩))
theorem ob8 {d : ScrD} (h : okT (-1) d.w d.tabs = false) : okD d = false := okD_f (fun h' : OkP d => by have := h'.2.2.2.1; rw [h] at this; cases this)
theorem ob9 {d : ScrD} (h : okL d.lim = false) : okD d = false := okD_f (fun h' : OkP d => of_decide_eq_false h (by
  obtain ⟨_, _, ⟨_, _, _, _, a, b, _⟩, _⟩ := h'; exact ⟨a, b⟩))
theorem ob10 {d : ScrD} (h : backB d = false) : okD d = false := okD_f (fun h' : OkP d => by
  obtain ⟨_, _, ⟨_, _, _, _, _, _, a⟩, _, b⟩ := h'
  unfold backB at h; rw [b, decide_eq_true a] at h; cases h)
theorem ob11 {d : ScrD} (h1 : gridsB d = true) (h2 : inB d.mw d.mh d.x d.y = true) (h3 : inB d.mw d.mh d.sx d.sy = true) (h4 : d.wrap = true → d.x = d.w - 1) (h5 : okA d.fg d.bg = true) (h6 : okA d.sfg d.sbg = true)
    (h7 : regB d.top d.bot d.h = true) (h8 : okT (-1) d.w d.tabs = true) (h9 : okL d.lim = true) (h10 : backB d = true) : okD d = true := okD_t (by
  have c1 := gridsB_iff.1 h1
  have e1 := c1.2.2.1
  have e2 := c1.2.2.2.1
  obtain ⟨a1, a2, a3, a4⟩ := inB_t h2
  obtain ⟨b1, b2, b3, b4⟩ := inB_t h3
  obtain ⟨r1, r2, r3, r4⟩ : _ := of_decide_eq_true h7
  obtain ⟨l1, l2⟩ : _ := of_decide_eq_true h9
  unfold backB at h10
  rw [Bool.and_eq_true] at h10
  exact ⟨c1, ⟨a1, by omega, a3, by omega, h4, b1, by omega, b3, by omega, h5, h6⟩, ⟨r1, r2, r3, r4, l1, l2, of_decide_eq_true h10.2⟩, h8, h10.1⟩)
theorem back_of (s : ScrS) : backB s.data = (s.rows.all (fun r => okRow r.cs) && decide ((s.rows.length : Int) ≤ s.lim)) := by
  show ((s.rows.map (·.cs)).all okRow && decide (((s.rows.map (·.cs)).length : Int) ≤ s.lim)) = _
  rw [List.all_map, List.length_map]; rfl
theorem rows_len {s : ScrS} (hn : szS s ≤ 1048576) : ∀ r ∈ s.rows, r.cs.length ≤ 1099511627776 := fun r hr => by have := tot_mem hr; unfold szS at hn; omega
set_option maxRecDepth 100000 in
set_option maxHeartbeats 16000000 in
theorem hasGrids_any (s : ScrS) (w : World) (hr : RdS w w.heap.size s) (hn : szS s ≤ 1048576) : Calls Try.prog 75 #[.agg (scrA s)] w fun e w' => e = .returned (.bool (gridsB s.data)) ∧ Below w.heap.size w w' := by
  have H0 := Lib.hid ((Below.refl w.heap.size w).alloc (Nat.le_refl _) (.cells (scrA s) 39))
  have B0 := Lib.hid (RowB.new w (scrA s) 39)
  have hx0 := B0.out.cell
  obtain ⟨q1, hq1⟩ : ∃ q, q = hasS s.mw s.mh s.w s.h := ⟨_, rfl⟩
  have Q1 := Lib.hid (fun W (h : Below w.heap.size w W) => hasSize_any s.mw s.mh s.M.A s.M.cs.length s.M.c s.w s.h W)
  have K1 := Lib.hid (show hasS s.data.mw s.data.mh s.data.w s.data.h = q1 from hq1.symm)
  rw [← hq1] at Q1
  clear hq1
  obtain ⟨q2, hq2⟩ : ∃ q, q = hasS s.aw s.ah s.w s.h := ⟨_, rfl⟩
  have Q2 := Lib.hid (fun W (h : Below w.heap.size w W) => hasSize_any s.aw s.ah s.A.A s.A.cs.length s.A.c s.w s.h W)
  have K2 := Lib.hid (show hasS s.data.aw s.data.ah s.data.w s.data.h = q2 from hq2.symm)
  rw [← hq2] at Q2
  clear hq2
  obtain ⟨q3, hq3⟩ : ∃ q, q = okG s.mw s.mh s.M.cs := ⟨_, rfl⟩
  have Q3 := Lib.hid (fun W (h : Below w.heap.size w W) => impl_GridOk_any s.mw s.mh s.M.A s.M.cs.length s.M.c s.M.cs W ((hr.M.below (Nat.le_refl _) h).more h.size) rfl (by unfold szS at hn; omega))
  have K3 := Lib.hid (show okG s.data.mw s.data.mh s.data.M = q3 from hq3.symm)
  rw [← hq3] at Q3
  clear hq3
  obtain ⟨q4, hq4⟩ : ∃ q, q = okG s.aw s.ah s.A.cs := ⟨_, rfl⟩
  have Q4 := Lib.hid (fun W (h : Below w.heap.size w W) => impl_GridOk_any s.aw s.ah s.A.A s.A.cs.length s.A.c s.A.cs W ((hr.A.below (Nat.le_refl _) h).more h.size) rfl (by unfold szS at hn; omega))
  have K4 := Lib.hid (show okG s.data.aw s.data.ah s.data.A = q4 from hq4.symm)
  rw [← hq4] at Q4
  clear hq4
  clear hr hn
  go_enter Try.func75, Try.ntmps75
  go_wp2_with fail
  (with_reducible refine (Q1.out _ H0.out).mono ?_)
  rintro e v1 ⟨rfl, hb⟩
  have B1 := Lib.hid (B0.out.below hb B0.out.lt)
  have H1 := Lib.hid (H0.out.trans (hb.mono H0.out.size))
  have hx1 := B1.out.cell
  have row1 : rowOf v1 w.heap.size = scrA s := B1.out.row
  have z1 : w.heap.size < v1.heap.size := B1.out.lt
  clear hb
  cases hq1 : q1
  · have N := Lib.hid (gb1 (K1.out.trans hq1))
    subst hq1
    go_wp2_with fail
    go_ret
    exact ⟨Attr.rt_bool N.out.symm, H1.out⟩
  have T1 := Lib.hid (K1.out.trans hq1)
  subst hq1
  go_wp2_with fail
  (with_reducible refine (Q2.out _ H1.out).mono ?_)
  rintro e v2 ⟨rfl, hb⟩
  have B2 := Lib.hid (B1.out.below hb B1.out.lt)
  have H2 := Lib.hid (H1.out.trans (hb.mono H1.out.size))
  have hx2 := B2.out.cell
  have row2 : rowOf v2 w.heap.size = scrA s := B2.out.row
  have z2 : w.heap.size < v2.heap.size := B2.out.lt
  clear hb
  cases hq2 : q2
  · have N := Lib.hid (gb2 (K2.out.trans hq2))
    subst hq2
    go_wp2_with fail
    go_ret
    exact ⟨Attr.rt_bool N.out.symm, H2.out⟩
  have T2 := Lib.hid (K2.out.trans hq2)
  subst hq2
  go_wp2_with fail
  (with_reducible refine (Q3.out _ H2.out).mono ?_)
  rintro e v3 ⟨rfl, hb⟩
  have B3 := Lib.hid (B2.out.below hb B2.out.lt)
  have H3 := Lib.hid (H2.out.trans (hb.mono H2.out.size))
  have hx3 := B3.out.cell
  have row3 : rowOf v3 w.heap.size = scrA s := B3.out.row
  have z3 : w.heap.size < v3.heap.size := B3.out.lt
  clear hb
  cases hq3 : q3
  · have N := Lib.hid (gb3 (K3.out.trans hq3))
    subst hq3
    go_wp2_with fail
    go_ret
    exact ⟨Attr.rt_bool N.out.symm, H3.out⟩
  have T3 := Lib.hid (K3.out.trans hq3)
  subst hq3
  go_wp2_with fail
  (with_reducible refine (Q4.out _ H3.out).mono ?_)
  rintro e v4 ⟨rfl, hb⟩
  have B4 := Lib.hid (B3.out.below hb B3.out.lt)
  have H4 := Lib.hid (H3.out.trans (hb.mono H3.out.size))
  have hx4 := B4.out.cell
  have row4 : rowOf v4 w.heap.size = scrA s := B4.out.row
  have z4 : w.heap.size < v4.heap.size := B4.out.lt
  clear hb
  cases hq4 : q4
  · have N := Lib.hid (gb4 (K4.out.trans hq4))
    subst hq4
    go_wp2_with fail
    go_ret
    exact ⟨Attr.rt_bool N.out.symm, H4.out⟩
  have T4 := Lib.hid (K4.out.trans hq4)
  subst hq4
  have N := Lib.hid (gb5 T1.out T2.out T3.out T4.out)
  go_wp2_with fail
  go_ret
  exact ⟨Attr.rt_bool N.out.symm, H4.out⟩
end Go.Proofs.Ytkhihppoimgjcaa.Sc
