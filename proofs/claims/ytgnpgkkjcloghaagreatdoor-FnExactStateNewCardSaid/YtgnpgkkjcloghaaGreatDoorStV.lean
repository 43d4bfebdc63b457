/- The laws' helpers over parsers' states, terminals and panes: the copy, the size, the comparison where both hold the same. -/
import Derived.Test.YtgnpgkkjcloghaaGreatDoorStOp
import Derived.Deep.RegionWith
import Derived.Deep.DrawnRows
namespace Go.Proofs.YtgnpgkkjcloghaaGreatDoor.St
open Go.RowKit Go.Proofs.YtgnpgkkjcloghaaGreatDoor.Bytes Go.Proofs.YtgnpgkkjcloghaaGreatDoor.Rows_ Go.Proofs.YtgnpgkkjcloghaaGreatDoor.RowK Go.Proofs.YtgnpgkkjcloghaaGreatDoor.Gr Go.Proofs.YtgnpgkkjcloghaaGreatDoor.DOk Go.Proofs.YtgnpgkkjcloghaaGreatDoor.Opq Go.Proofs.YtgnpgkkjcloghaaGreatDoor.Sc
set_option linter.unusedVariables false
attribute [local go_sem ↓] Go.wp_at_zero Go.wp_at_succ lm_lawsVp lm_implVp lm_lawsScr lm_implScr lm_lawsTerm lm_implTerm lm_lawsPane lm_implPane lr_implVp lr_implTerm lr_implPane sm_Vp sm_Scr sm_Term sm_Pane sr_Vp sr_Term sr_Pane
attribute [local go_sem] RowZ.set rowOf_set rowOf_setRow_other rowOf_setRow_same rowOf_setCell_other blkOf_ptr isHead_ptr aggN_agg isPtr_ptr offOf_ptr setRow_alloc rowZ_at rowZ_past rowZ_setRow_other rowOf_alloc_at rowOf_alloc_past rowOf_drew seg_alloc_past seg_alloc_at seg_setCell_other seg_setRow_other seg_drew cut_term_scr cut_term_vp cut_pane_term vpA_size termA_size paneA_size scrA_size one_vp one_scr one_term one_pane vp_at0 vp_at1 vp_at2 vp_at3 term_at0 term_at1 term_at2 term_at3 pane_at0 pane_at1 pane_at2 pane_at3 pane_at4 pane_at5
set_option maxRecDepth 100000 in
set_option maxHeartbeats 1600000 in
theorem eqVp_yes (v v' : VpS) (w : World) (hr : RdV w w.heap.size v) (hr' : RdV w w.heap.size v') (he : v'.data = v.data) (hn : szV v ≤ 1048576) :
    Calls Tryz.prog 138 #[.agg (vpA v), .agg (vpA v')] w fun e w' => e = .returned (.bool true) ∧ Below w.heap.size w w' := by
  obtain ⟨st, mk, aA, ac, zs, pA, pc, bs⟩ := v
  obtain ⟨st', mk', aB, ad, zs', pB, pd, bs'⟩ := v'
  simp only [VpS.data, VpD.mk.injEq] at he
  obtain ⟨rfl, rfl, rfl, rfl⟩ := he
  have HR := Lib.hid (fun W (h : Below w.heap.size w W) => (hr.below (Nat.le_refl _) h).more h.size)
  have HR' := Lib.hid (fun W (h : Below w.heap.size w W) => (hr'.below (Nat.le_refl _) h).more h.size)
  unfold szV at hn
  simp only [] at hn
  have n1 : zs'.length ≤ 1048576 := by omega
  have n2 : bs'.length ≤ 1048576 := by omega
  have e1 : (st' != st') = false := by simp
  have e2 : (mk' != mk') = false := by simp
  clear hr hr' hn
  go_enter Tryz.func138, Tryz.ntmps138
  go_wp2_with fail
  refine (eqIntS_yes aA aB zs'.length ac ad zs' _ (HR.out _ ?hb).a (HR'.out _ ?hb').a rfl (by omega)).mono ?_
  case hb => repeat (first | exact Below.refl _ _ | refine Below.alloc ?_ (by simp <;> omega) _)
  case hb' => repeat (first | exact Below.refl _ _ | refine Below.alloc ?_ (by simp <;> omega) _)
  rintro e v1 ⟨rfl, hb1⟩
  have ne_ab : w.heap.size ≠ w.heap.size + 1 := by omega
  have ne_ba : w.heap.size + 1 ≠ w.heap.size := by omega
  have xa := RowB.below ((RowB.new w (vpA ⟨st', mk', aA, ac, zs', pA, pc, bs'⟩) 99).alloc _) hb1 (by simp <;> omega)
  have xb := RowB.below (RowB.new (w.alloc _) (vpA ⟨st', mk', aB, ad, zs', pB, pd, bs'⟩) _) hb1 (by simp <;> omega)
  simp only [World.size_alloc] at xb
  have XA := Lib.hid xa
  have XB := Lib.hid xb
  clear xa xb
  have za : w.heap.size < v1.heap.size := XA.out.lt
  have zb : w.heap.size + 1 < v1.heap.size := XB.out.lt
  have HB1 := Lib.hid (show Below w.heap.size w v1 from Below.trans (((Below.refl w.heap.size w).alloc (Nat.le_refl _) _).alloc (by simp) _) (hb1.mono (by simp <;> omega)))
  clear hb1
  have ca : v1.cell? ⟨w.heap.size, 3, none⟩ = some (.slice pA bs'.length pc) := XA.out.cell 3
  have cb : v1.cell? ⟨w.heap.size + 1, 3, none⟩ = some (.slice pB bs'.length pd) := XB.out.cell 3
  go_wp2_with fail
  refine (eqByteS_yes pA pB bs'.length pc bs'.length pd bs' _ (HR.out _ HB1.out).p (HR'.out _ HB1.out).p rfl rfl (by omega)).mono ?_
  rintro e v2 ⟨rfl, hb2⟩
  have HB2 := Lib.hid (HB1.out.trans (hb2.mono HB1.out.size))
  clear hb2
  go_wp2_with fail
  go_ret
  exact ⟨rfl, HB2.out⟩
set_option maxRecDepth 100000 in
set_option maxHeartbeats 1600000 in
theorem eqTerm_yes (t t' : TermS) (w : World) (hr : RdT w w.heap.size t) (hr' : RdT w w.heap.size t') (he : t'.data = t.data) (hn : szT t ≤ 1048576) :
    Calls Tryz.prog 117 #[.agg (termA t), .agg (termA t')] w fun e w' => e = .returned (.bool true) ∧ Below w.heap.size w w' := by
  simp only [TermS.data, TermD.mk.injEq] at he
  have HE := Lib.hid he
  have HR := Lib.hid (fun W (h : Below w.heap.size w W) => (hr.below (Nat.le_refl _) h).more h.size)
  have HR' := Lib.hid (fun W (h : Below w.heap.size w W) => (hr'.below (Nat.le_refl _) h).more h.size)
  unfold szT at hn
  have n1 : szV t.v ≤ 1048576 := by omega
  have n2 : szS t.s ≤ 1048576 := by omega
  clear hr hr' hn he
  have l1 : w.heap.size < w.heap.size + 1 := by omega
  have l2 : w.heap.size < w.heap.size + 1 + 1 := by omega
  have l3 : w.heap.size + 1 < w.heap.size + 1 + 1 := by omega
  go_enter Tryz.func117, Tryz.ntmps117
  go_wp2_with fail
  refine (eqVp_yes t.v t'.v _ (HR.out _ ?hb).v (HR'.out _ ?hb').v HE.out.1 n1).mono ?_
  case hb => repeat (first | exact Below.refl _ _ | refine Below.alloc ?_ (by simp <;> omega) _)
  case hb' => repeat (first | exact Below.refl _ _ | refine Below.alloc ?_ (by simp <;> omega) _)
  rintro e v1 ⟨rfl, hb1⟩
  have ne_ab : w.heap.size ≠ w.heap.size + 1 := by omega
  have ne_ba : w.heap.size + 1 ≠ w.heap.size := by omega
  have xa := RowB.below ((RowB.new w (termA t) 104).alloc _) hb1 (by simp <;> omega)
  have xb := RowB.below (RowB.new (w.alloc _) (termA t') _) hb1 (by simp <;> omega)
  simp only [World.size_alloc] at xb
  have XA := Lib.hid xa
  have XB := Lib.hid xb
  clear xa xb
  have za : w.heap.size < v1.heap.size := XA.out.lt
  have zb : w.heap.size + 1 < v1.heap.size := XB.out.lt
  have HB1 := Lib.hid (show Below w.heap.size w v1 from Below.trans (((Below.refl w.heap.size w).alloc (Nat.le_refl _) _).alloc (by simp) _) (hb1.mono (by simp <;> omega)))
  clear hb1
  have sa : seg v1 w.heap.size 4 31 = scrA t.s := by rw [seg_row XA.out]; rfl
  have sb : seg v1 (w.heap.size + 1) 4 31 = scrA t'.s := by rw [seg_row XB.out]; rfl
  go_wp2_with fail
  refine (eqScr_yes (HR.out _ HB1.out).s (HR'.out _ HB1.out).s HE.out.2 n2).mono ?_
  rintro e v2 ⟨rfl, hb2⟩
  have HB2 := Lib.hid (HB1.out.trans (hb2.mono HB1.out.size))
  clear hb2
  go_wp2_with fail
  go_ret
  exact ⟨rfl, HB2.out⟩
set_option maxRecDepth 100000 in
set_option maxHeartbeats 1600000 in
theorem eqPane_yes (p p' : PaneS) (w : World) (hr : RdT w w.heap.size p.t) (hr' : RdT w w.heap.size p'.t) (he : p'.data = p.data) (hn : szT p.t ≤ 1048576) :
    Calls Tryz.prog 75 #[.agg (paneA p), .agg (paneA p')] w fun e w' => e = .returned (.bool true) ∧ Below w.heap.size w w' := by
  obtain ⟨i0, i1, i2, i3, i4, i5, t⟩ := p
  obtain ⟨j0, j1, j2, j3, j4, j5, t'⟩ := p'
  simp only [PaneS.data, PaneD.mk.injEq] at he
  obtain ⟨rfl, rfl, rfl, rfl, rfl, rfl, he⟩ := he
  simp only [] at hr hr' hn
  have HE := Lib.hid he
  have HR := Lib.hid (fun W (h : Below w.heap.size w W) => (hr.below (Nat.le_refl _) h).more h.size)
  have HR' := Lib.hid (fun W (h : Below w.heap.size w W) => (hr'.below (Nat.le_refl _) h).more h.size)
  have e0 : (j0 != j0) = false := by simp
  have e1 : (!(j1.toList == j1.toList)) = false := by simp
  have e2 : (!(j2.toList == j2.toList)) = false := by simp
  have e3 : (j3 != j3) = false := by simp
  have e4 : (j4 != j4) = false := by simp
  have e5 : (j5 != j5) = false := by simp
  clear hr hr' he
  have l1 : w.heap.size < w.heap.size + 1 := by omega
  have l2 : w.heap.size < w.heap.size + 1 + 1 := by omega
  have l3 : w.heap.size + 1 < w.heap.size + 1 + 1 := by omega
  go_enter Tryz.func75, Tryz.ntmps75
  go_wp2_with fail
  refine (eqTerm_yes t t' _ (HR.out _ ?hb) (HR'.out _ ?hb') HE.out hn).mono ?_
  case hb => repeat (first | exact Below.refl _ _ | refine Below.alloc ?_ (by simp <;> omega) _)
  case hb' => repeat (first | exact Below.refl _ _ | refine Below.alloc ?_ (by simp <;> omega) _)
  rintro e v1 ⟨rfl, hb1⟩
  have HB1 := Lib.hid (show Below w.heap.size w v1 from Below.trans (((Below.refl w.heap.size w).alloc (Nat.le_refl _) _).alloc (by simp) _) (hb1.mono (by simp <;> omega)))
  clear hb1
  go_wp2_with fail
  go_ret
  exact ⟨rfl, HB1.out⟩
end Go.Proofs.YtgnpgkkjcloghaaGreatDoor.St

