/- TermOk on both sides: a terminal is right if its parser and its screen are. -/
import Derived.Test.YtbheimjepikkfaaDoorStV
import Derived.Test.YtbheimjepikkfaaDoorVpD
import Derived.Test.YtbheimjepikkfaaDoorKiO
import Derived.Test.YtbheimjepikkfaaDoorKiK
namespace Go.Proofs.YtbheimjepikkfaaDoor.St
open Go.RowKit Go.Proofs.YtbheimjepikkfaaDoor.Bytes Go.Proofs.YtbheimjepikkfaaDoor.Rows_ Go.Proofs.YtbheimjepikkfaaDoor.RowK Go.Proofs.YtbheimjepikkfaaDoor.Gr Go.Proofs.YtbheimjepikkfaaDoor.DOk Go.Proofs.YtbheimjepikkfaaDoor.Opq Go.Proofs.YtbheimjepikkfaaDoor.Sc
set_option linter.unusedVariables false
attribute [local go_sem ↓] Go.wp_at_zero Go.wp_at_succ lm_lawsVp lm_implVp lm_lawsScr lm_implScr lm_lawsTerm lm_implTerm lm_lawsPane lm_implPane lr_implVp lr_implTerm lr_implPane sm_Vp sm_Scr sm_Term sm_Pane sr_Vp sr_Term sr_Pane
attribute [local go_sem] RowZ.set rowOf_set rowOf_setRow_other rowOf_setRow_same rowOf_setCell_other blkOf_ptr isHead_ptr aggN_agg isPtr_ptr offOf_ptr setRow_alloc rowZ_at rowZ_past rowZ_setRow_other rowOf_alloc_at rowOf_alloc_past rowOf_drew seg_alloc_past seg_alloc_at seg_setCell_other seg_setRow_other seg_drew cut_term_scr cut_term_vp cut_pane_term vpA_size termA_size paneA_size scrA_size one_vp one_scr one_term one_pane vp_at0 vp_at1 vp_at2 vp_at3 term_at0 term_at1 term_at2 term_at3 pane_at0 pane_at1 pane_at2 pane_at3 pane_at4 pane_at5

theorem lr_lawsTerm {ρ : Operand → Value} {d : Option Tmp} {x : Operand} {ty : TypeId} {pos : String} {af : Array Edge} {g : Option (Nat × Bool)} (w : World) (hp : isHead (ρ x) = true) (h : (rowOf w (blkOf (ρ x))).size = 35) :
    (execOp ρ ⟨d, .load 35 x, ty, pos, af, g⟩).run Tryd.prog w = .ok (.value (.agg (rowOf w (blkOf (ρ x))))) w := exec_loadR Tryd.underlying35 rfl size_lawsTerm w hp h
theorem lr_lawsPane {ρ : Operand → Value} {d : Option Tmp} {x : Operand} {ty : TypeId} {pos : String} {af : Array Edge} {g : Option (Nat × Bool)} (w : World) (hp : isHead (ρ x) = true) (h : (rowOf w (blkOf (ρ x))).size = 41) :
    (execOp ρ ⟨d, .load 52 x, ty, pos, af, g⟩).run Tryd.prog w = .ok (.value (.agg (rowOf w (blkOf (ρ x))))) w := exec_loadR Tryd.underlying52 rfl size_lawsPane w hp h
def okVd (d : VpD) : Bool := Vp.okVp d.st d.mark d.zs d.bs
noncomputable def okTd (d : TermD) : Bool := okVd d.v && okD d.s
/-- what is known of a terminal in memory of one's own -/
structure TIn (w : World) (t : TermS) : Prop where
  r : RdT w w.heap.size t
  g : Rng t.v.bs
  z : t.v.pA = none → t.v.bs.length = 0 ∧ t.v.pc = 0
  c : t.v.bs.length ≤ t.v.pc
theorem own_noneT {w : World} {base : Nat} {A : Option Addr} {n c : Nat} {zs : List Int} (h : Own w base A n c zs) : A = none → n = 0 ∧ c = 0 := by
  intro e
  rcases h.2 with ⟨hv, h0⟩ | ⟨g, cap, cur, hv, _⟩
  · injection hv with _ e2 e3
    exact ⟨e2, e3⟩
  · injection hv with e1
    rw [e] at e1; cases e1
theorem OwnT.in_ {w : World} {base : Nat} {t : TermS} (h : OwnT w base t) (hg : Rng t.v.bs) : TIn w t := ⟨h.rd, hg, own_noneT h.v.p, h.v.p.cap⟩
theorem TIn.below {w w' : World} {t : TermS} (h : TIn w t) (hb : Below w.heap.size w w') : TIn w' t := ⟨(h.r.below (Nat.le_refl _) hb).more hb.size, h.g, h.z, h.c⟩
theorem bs_ofTerm {t t' : TermS} (h : t'.data = t.data) : t'.v.bs = t.v.bs := by
  have := congrArg (fun d : TermD => d.v.bs) h
  exact this
theorem spec_okV (v : VpS) (w : World) (hr : RdV w w.heap.size v) (hg : Rng v.bs) (hz : v.pA = none → v.bs.length = 0 ∧ v.pc = 0) (hc : v.bs.length ≤ v.pc) (hn : szV v ≤ 1048576) :
    Calls Tryd.prog 17 #[.agg (vpA v)] w fun e w' => e = .returned (.bool (okVd v.data)) ∧ Below w.heap.size w w' := by
  unfold szV at hn
  exact Vp.spec_VpOk_any v.st v.mark v.aA v.zs.length v.ac v.zs v.pA v.bs.length v.pc v.bs w hr.a rfl (by omega) hr.p hg rfl hz (by omega) hc
theorem impl_okV (v : VpS) (w : World) (hT : Dec.Tabs8 w) (hr : RdV w w.heap.size v) (hg : Rng v.bs) (hn : szV v ≤ 1048576) :
    Calls Tryd.prog 21 #[.agg (vpA v)] w fun e w' => e = .returned (.bool (okVd v.data)) ∧ Below w.heap.size w w' := by
  unfold szV at hn
  exact Vp.impl_VpOk_any v.st v.mark v.aA v.zs.length v.ac v.zs v.pA v.bs.length v.pc v.bs w hT hr.a rfl (by omega) hr.p hg rfl (by omega)
set_option maxRecDepth 100000 in
set_option maxHeartbeats 1600000 in
theorem spec_TermOk_any (t : TermS) (w : World) (h : TIn w t) (hn : szT t ≤ 1048576) :
    Calls Tryd.prog 6 #[.agg (termA t)] w fun e w' => e = .returned (.bool (okTd t.data)) ∧ Below w.heap.size w w' := by
  have HR := Lib.hid (fun W (hb : Below w.heap.size w W) => h.below hb)
  unfold szT at hn
  have n1 : szV t.v ≤ 1048576 := by omega
  have n2 : szS t.s ≤ 1048576 := by omega
  have HK := Lib.hid (show okTd t.data = (okVd t.v.data && okD t.s.data) from rfl)
  have hb0 := Lib.hid ((Below.refl w.heap.size w).alloc (Nat.le_refl _) (.cells (termA t) 47))
  have xb0 := Lib.hid (RowB.new w (termA t) 47)
  clear h hn
  go_enter Tryd.func6, Tryd.ntmps6
  go_wp2_with fail
  refine (spec_okV t.v _ (HR.out _ hb0.out).r.v (HR.out _ hb0.out).g (HR.out _ hb0.out).z (HR.out _ hb0.out).c n1).mono ?_
  rintro e v1 ⟨rfl, hb1⟩
  have XA := Lib.hid (RowB.below xb0.out hb1 (by simp <;> omega))
  have za : w.heap.size < v1.heap.size := XA.out.lt
  have HB1 := Lib.hid (hb0.out.trans (hb1.mono hb0.out.size))
  clear hb1
  have hsg : seg v1 w.heap.size 4 31 = scrA t.s := by rw [seg_row XA.out]; rfl
  rcases hv : okVd t.v.data with _ | _
  · skip
    have HK' := Lib.hid (show okTd t.data = false by rw [HK.out, hv]; rfl)
    clear hv HK
    go_wp2_with fail
    go_ret
    exact ⟨by rw [HK'.out]; first | done | rfl, HB1.out⟩
  · have HK' := Lib.hid (show okTd t.data = okD t.s.data by rw [HK.out, hv]; rfl)
    clear hv HK
    go_wp2_with fail
    refine (spec_ScrOk_any t.s _ (HR.out _ HB1.out).r.s n2).mono ?_
    rintro e v2 ⟨rfl, hb2⟩
    have HB2 := Lib.hid (HB1.out.trans (hb2.mono HB1.out.size))
    clear hb2
    go_wp2_with fail
    go_ret
    exact ⟨by rw [HK'.out]; first | done | rfl, HB2.out⟩
set_option maxRecDepth 100000 in
set_option maxHeartbeats 1600000 in
theorem impl_TermOk_any (t : TermS) (w : World) (hT : Dec.Tabs8 w) (h : TIn w t) (hn : szT t ≤ 1048576) :
    Calls Tryd.prog 8 #[.agg (termA t)] w fun e w' => e = .returned (.bool (okTd t.data)) ∧ Below w.heap.size w w' := by
  have HR := Lib.hid (fun W (hb : Below w.heap.size w W) => h.below hb)
  have HTB := Lib.hid (fun W (hb : Below w.heap.size w W) => Rune.tabs_below hT hb)
  unfold szT at hn
  have n1 : szV t.v ≤ 1048576 := by omega
  have n2 : szS t.s ≤ 1048576 := by omega
  have HK := Lib.hid (show okTd t.data = (okVd t.v.data && okD t.s.data) from rfl)
  have hb0 := Lib.hid ((Below.refl w.heap.size w).alloc (Nat.le_refl _) (.cells (termA t) 47))
  have xb0 := Lib.hid (RowB.new w (termA t) 47)
  clear h hn hT
  go_enter Tryd.func8, Tryd.ntmps8
  go_wp2_with fail
  refine (impl_okV t.v _ (HTB.out _ hb0.out) (HR.out _ hb0.out).r.v (HR.out _ hb0.out).g n1).mono ?_
  rintro e v1 ⟨rfl, hb1⟩
  have XA := Lib.hid (RowB.below xb0.out hb1 (by simp <;> omega))
  have za : w.heap.size < v1.heap.size := XA.out.lt
  have HB1 := Lib.hid (hb0.out.trans (hb1.mono hb0.out.size))
  clear hb1
  have hsg : seg v1 w.heap.size 4 31 = scrA t.s := by rw [seg_row XA.out]; rfl
  rcases hv : okVd t.v.data with _ | _
  · skip
    have HK' := Lib.hid (show okTd t.data = false by rw [HK.out, hv]; rfl)
    clear hv HK
    go_wp2_with fail
    go_ret
    exact ⟨by rw [HK'.out]; first | done | rfl, HB1.out⟩
  · have HK' := Lib.hid (show okTd t.data = okD t.s.data by rw [HK.out, hv]; rfl)
    clear hv HK
    go_wp2_with fail
    refine (impl_ScrOk_any t.s _ (HR.out _ HB1.out).r.s n2).mono ?_
    rintro e v2 ⟨rfl, hb2⟩
    have HB2 := Lib.hid (HB1.out.trans (hb2.mono HB1.out.size))
    clear hb2
    go_wp2_with fail
    go_ret
    exact ⟨by rw [HK'.out]; first | done | rfl, HB2.out⟩
end Go.Proofs.YtbheimjepikkfaaDoor.St
