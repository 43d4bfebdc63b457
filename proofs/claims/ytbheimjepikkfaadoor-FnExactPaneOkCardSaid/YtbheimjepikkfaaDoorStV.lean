/- The laws' helpers over parsers' states, terminals and panes: the copy, the size, the comparison where both hold the same. -/
import Derived.Test.YtbheimjepikkfaaDoorStOp
import Derived.Deep.RegionWith
import Derived.Deep.DrawnRows
namespace Go.Proofs.YtbheimjepikkfaaDoor.St
open Go.RowKit Go.Proofs.YtbheimjepikkfaaDoor.Bytes Go.Proofs.YtbheimjepikkfaaDoor.Rows_ Go.Proofs.YtbheimjepikkfaaDoor.RowK Go.Proofs.YtbheimjepikkfaaDoor.Gr Go.Proofs.YtbheimjepikkfaaDoor.DOk Go.Proofs.YtbheimjepikkfaaDoor.Opq Go.Proofs.YtbheimjepikkfaaDoor.Sc
set_option linter.unusedVariables false
attribute [local go_sem ↓] Go.wp_at_zero Go.wp_at_succ lm_lawsVp lm_implVp lm_lawsScr lm_implScr lm_lawsTerm lm_implTerm lm_lawsPane lm_implPane lr_implVp lr_implTerm lr_implPane sm_Vp sm_Scr sm_Term sm_Pane sr_Vp sr_Term sr_Pane
attribute [local go_sem] RowZ.set rowOf_set rowOf_setRow_other rowOf_setRow_same rowOf_setCell_other blkOf_ptr isHead_ptr aggN_agg isPtr_ptr offOf_ptr setRow_alloc rowZ_at rowZ_past rowZ_setRow_other rowOf_alloc_at rowOf_alloc_past rowOf_drew seg_alloc_past seg_alloc_at seg_setCell_other seg_setRow_other seg_drew cut_term_scr cut_term_vp cut_pane_term vpA_size termA_size paneA_size scrA_size one_vp one_scr one_term one_pane vp_at0 vp_at1 vp_at2 vp_at3 term_at0 term_at1 term_at2 term_at3 pane_at0 pane_at1 pane_at2 pane_at3 pane_at4 pane_at5
set_option maxRecDepth 100000 in
set_option maxHeartbeats 1600000 in
theorem toVp_any (v : VpS) (w : World) (hr : RdV w w.heap.size v) (hn : szV v ≤ 1048576) :
    Calls Tryd.prog 19 #[.agg (vpA v)] w fun e w' => ∃ v', e = .returned (.agg (vpA v')) ∧ OwnV w' w.heap.size v' ∧ v'.data = v.data ∧ Below w.heap.size w w' := by
  have HR := Lib.hid (fun W (h : Below w.heap.size w W) => (hr.below (Nat.le_refl _) h).more h.size)
  unfold szV at hn
  have n1 : v.zs.length ≤ 1048576 := by omega
  have n2 : v.bs.length ≤ 1048576 := by omega
  clear hr hn
  go_enter Tryd.func19, Tryd.ntmps19
  go_wp2_with fail
  refine (toIntS_any v.aA v.zs.length v.ac v.zs _ (HR.out _ ?hb).a rfl (by omega)).mono ?_
  case hb => repeat (first | exact Below.refl _ _ | refine Below.alloc ?_ (by simp <;> omega) _)
  rintro e v1 ⟨A1, c1, rfl, ho1, hb1⟩
  have ne_ao : w.heap.size ≠ w.heap.size + 1 + 1 := by omega
  have ne_ro : w.heap.size + 1 ≠ w.heap.size + 1 + 1 := by omega
  have ne_ra : w.heap.size + 1 ≠ w.heap.size := by omega
  have ne_ar : w.heap.size ≠ w.heap.size + 1 := by omega
  have ne_or : w.heap.size + 1 + 1 ≠ w.heap.size + 1 := by omega
  have xa := RowB.below (((RowB.new w (vpA v) 25).alloc _).alloc _) hb1 (by simp <;> omega)
  have xr := RowB.below ((RowB.new (w.alloc _) _ _).alloc _) hb1 (by simp <;> omega)
  have xo := RowB.below (RowB.new ((w.alloc _).alloc _) _ _) hb1 (by simp <;> omega)
  simp only [World.size_alloc] at xr xo
  have XA1 := Lib.hid xa
  have XR1 := Lib.hid xr
  have XO1 := Lib.hid xo
  clear xa xr xo
  have za : w.heap.size < v1.heap.size := XA1.out.lt
  have zr : w.heap.size + 1 < v1.heap.size := XR1.out.lt
  have zo : w.heap.size + 1 + 1 < v1.heap.size := XO1.out.lt
  have HB1 := Lib.hid (show Below w.heap.size w v1 from Below.trans (((((Below.refl w.heap.size w).alloc (Nat.le_refl _) _).alloc (by simp) _).alloc (by simp <;> omega) _)) (hb1.mono (by simp <;> omega)))
  have HO1 := Lib.hid (ho1.more (base' := w.heap.size + 3) (by simp <;> omega))
  clear ho1 hb1
  have co : v1.cell? ⟨w.heap.size + 1 + 1, 2, none⟩ = some (.slice none 0 0) := XO1.out.cell 2
  have fo : v1.frozen? ⟨w.heap.size + 1 + 1, 2, none⟩ = false := XO1.out.free 2
  have ca : v1.cell? ⟨w.heap.size, 3, none⟩ = some (.slice v.pA v.bs.length v.pc) := XA1.out.cell 3
  go_wp2_with fail
  refine (toByteS_any v.pA v.bs.length v.pc v.bs _ (HR.out _ ?hb).p rfl (by omega)).mono ?_
  case hb => exact HB1.out.setCell (by simp <;> omega) _
  rintro e v2 ⟨A2, c2, rfl, ho2, hb2⟩
  clear co fo ca
  have XR2 := Lib.hid (RowB.below (XR1.out.other (by omega)) hb2 (by simp only [World.size_setCell]; omega))
  have XO2 := Lib.hid (RowB.below (XO1.out.set) hb2 (by simp only [World.size_setCell]; omega))
  have HA2 := Lib.hid (show OwnI v2 (w.heap.size + 3) A1 v.zs.length c1 v.zs from OwnI.below (own_setK HO1.out _ _ _ (by omega)) (Nat.le_refl _) hb2)
  have HP2 := Lib.hid (ho2.more (base' := w.heap.size + 3) (by simp only [World.size_setCell]; omega))
  have zv : v1.heap.size ≤ v2.heap.size := by have := hb2.size; simp only [World.size_setCell] at this; exact this
  have HB2 := Lib.hid ((HB1.out.setCell (p := ⟨w.heap.size + 1 + 1, 2, none⟩) (by simp <;> omega) (.slice A1 v.zs.length c1)).trans (hb2.mono (by simp only [World.size_setCell]; omega)))
  clear ho2 hb2 HO1 XA1 HB1
  have co : v2.cell? ⟨w.heap.size + 1 + 1, 3, none⟩ = some (.slice none 0 0) := XO2.out.cell 3
  have fo : v2.frozen? ⟨w.heap.size + 1 + 1, 3, none⟩ = false := XO2.out.free 3
  have rz : RowZ v2 (w.heap.size + 1) 4 := RowZ.of XR2.out 4 rfl
  have hput : (rowOf v2 (w.heap.size + 1 + 1)).setIfInBounds 3 (.slice A2 v.bs.length c2) = vpA ⟨v.st, v.mark, A1, c1, v.zs, A2, c2, v.bs⟩ := by rw [XO2.out.row]; rfl
  have zr2 : w.heap.size + 1 < v2.heap.size := by omega
  have zo2 : w.heap.size + 1 + 1 < v2.heap.size := by omega
  go_wp2_with fail
  refine bodyPost_ret (v := .agg (vpA ⟨v.st, v.mark, A1, c1, v.zs, A2, c2, v.bs⟩)) (res_Vp rfl _ _ (w.heap.size + 1) _ rfl (RowB.setRow (XR2.out.other (by omega))) rfl) rfl ⟨_, rfl, ⟨?_, ?_⟩, rfl, ?_⟩
  · exact own_moreK (own_setRow (own_setK HA2.out _ _ _ (by omega)) _ _ (by omega)) (by omega)
  · exact own_moreK (own_setRow (own_setK HP2.out _ _ _ (by omega)) _ _ (by omega)) (by omega)
  · exact below_setRow (HB2.out.setCell (by simp <;> omega) _) (by omega) _
set_option maxRecDepth 100000 in
set_option maxHeartbeats 1600000 in
theorem szVp_any (v : VpS) (left : Int) (w : World) (hn : LenV v) (h0 : 0 ≤ left) (h1 : left ≤ 1048576) :
    Calls Tryd.prog 15 #[.agg (vpA v), .int .i64 left] w (Sc.Left left (szV v) w.heap.size w) := by
  have n1 := hn.a
  have n2 := hn.p
  have HZ := Lib.hid (show szV v = v.zs.length + v.bs.length from rfl)
  clear hn
  have hb0 := Lib.hid ((Below.refl w.heap.size w).alloc (Nat.le_refl _) (.cells (vpA v) 25))
  have HS := Lib.hid (fun W => szIntS_any v.aA v.zs.length v.ac left W n1 h0 h1)
  by_cases ha : left < (v.zs.length : Int)
  · rw [if_pos ha] at HS
    go_enter Tryd.func15, Tryd.ntmps15
    go_wp2_with fail
    refine (HS.out _).mono ?_
    rintro e w' ⟨rfl, rfl⟩
    go_wp2_with fail
    go_ret
    exact ⟨-1, rfl, .inl rfl, hb0.out⟩
  · rw [if_neg ha] at HS
    have h2 : 0 ≤ left - (v.zs.length : Int) := by omega
    have HT := Lib.hid (fun W => OpOk.szByteS_any v.pA v.bs.length v.pc (left - (v.zs.length : Int)) W n2 h2 (by omega))
    by_cases hb : left - (v.zs.length : Int) < (v.bs.length : Int)
    · rw [if_pos hb] at HT
      go_enter Tryd.func15, Tryd.ntmps15
      go_wp2_with fail
      refine (HS.out _).mono ?_
      rintro e w' ⟨rfl, rfl⟩
      go_wp2_with fail
      refine (HT.out _).mono ?_
      rintro e w' ⟨rfl, rfl⟩
      go_wp2_with fail
      go_ret
      exact ⟨-1, rfl, .inl rfl, hb0.out⟩
    · rw [if_neg hb] at HT
      have h3 : 0 ≤ left - (v.zs.length : Int) - (v.bs.length : Int) := by omega
      go_enter Tryd.func15, Tryd.ntmps15
      go_wp2_with fail
      refine (HS.out _).mono ?_
      rintro e w' ⟨rfl, rfl⟩
      go_wp2_with fail
      refine (HT.out _).mono ?_
      rintro e w' ⟨rfl, rfl⟩
      go_wp2_with fail
      go_ret
      exact ⟨_, rfl, .inr ⟨h3, by rw [HZ.out]; omega⟩, hb0.out⟩
set_option maxRecDepth 100000 in
set_option maxHeartbeats 1600000 in
theorem eqVp_yes (v v' : VpS) (w : World) (hr : RdV w w.heap.size v) (hr' : RdV w w.heap.size v') (he : v'.data = v.data) (hn : szV v ≤ 1048576) :
    Calls Tryd.prog 23 #[.agg (vpA v), .agg (vpA v')] w fun e w' => e = .returned (.bool true) ∧ Below w.heap.size w w' := by
  obtain ⟨st, mk, aA, ac, zs, pA, pc, bs⟩ := v
  obtain ⟨st', mk', aB, ad, zs', pB, pd, bs'⟩ := v'
  simp only [VpS.data, VpD.mk.injEq] at he
  obtain ⟨rfl, rfl, rfl, rfl⟩ := he
  have HR := Lib.hid (fun W (h : Below w.heap.size w W) => (hr.below (Nat.le_refl _) h).more h.size)
  have HR' := Lib.hid (fun W (h : Below w.heap.size w W) => (hr'.below (Nat.le_refl _) h).more h.size)
  unfold szV at hn
  simp only [] at hn
  have n1 : zs'.length ≤ 1048576 := by omega
  have n2 : bs'.length ≤ 1048576 := by omega
  have e1 : (st' != st') = false := by simp
  have e2 : (mk' != mk') = false := by simp
  clear hr hr' hn
  go_enter Tryd.func23, Tryd.ntmps23
  go_wp2_with fail
  refine (eqIntS_yes aA aB zs'.length ac ad zs' _ (HR.out _ ?hb).a (HR'.out _ ?hb').a rfl (by omega)).mono ?_
  case hb => repeat (first | exact Below.refl _ _ | refine Below.alloc ?_ (by simp <;> omega) _)
  case hb' => repeat (first | exact Below.refl _ _ | refine Below.alloc ?_ (by simp <;> omega) _)
  rintro e v1 ⟨rfl, hb1⟩
  have ne_ab : w.heap.size ≠ w.heap.size + 1 := by omega
  have ne_ba : w.heap.size + 1 ≠ w.heap.size := by omega
  have xa := RowB.below ((RowB.new w (vpA ⟨st', mk', aA, ac, zs', pA, pc, bs'⟩) 38).alloc _) hb1 (by simp <;> omega)
  have xb := RowB.below (RowB.new (w.alloc _) (vpA ⟨st', mk', aB, ad, zs', pB, pd, bs'⟩) _) hb1 (by simp <;> omega)
  simp only [World.size_alloc] at xb
  have XA := Lib.hid xa
  have XB := Lib.hid xb
  clear xa xb
  have za : w.heap.size < v1.heap.size := XA.out.lt
  have zb : w.heap.size + 1 < v1.heap.size := XB.out.lt
  have HB1 := Lib.hid (show Below w.heap.size w v1 from Below.trans (((Below.refl w.heap.size w).alloc (Nat.le_refl _) _).alloc (by simp) _) (hb1.mono (by simp <;> omega)))
  clear hb1
  have ca : v1.cell? ⟨w.heap.size, 3, none⟩ = some (.slice pA bs'.length pc) := XA.out.cell 3
  have cb : v1.cell? ⟨w.heap.size + 1, 3, none⟩ = some (.slice pB bs'.length pd) := XB.out.cell 3
  go_wp2_with fail
  refine (eqByteS_yes pA pB bs'.length pc bs'.length pd bs' _ (HR.out _ HB1.out).p (HR'.out _ HB1.out).p rfl rfl (by omega)).mono ?_
  rintro e v2 ⟨rfl, hb2⟩
  have HB2 := Lib.hid (HB1.out.trans (hb2.mono HB1.out.size))
  clear hb2
  go_wp2_with fail
  go_ret
  exact ⟨rfl, HB2.out⟩
set_option maxRecDepth 100000 in
set_option maxHeartbeats 1600000 in
theorem toTerm_any (t : TermS) (w : World) (hr : RdT w w.heap.size t) (hn : szT t ≤ 1048576) :
    Calls Tryd.prog 7 #[.agg (termA t)] w fun e w' => ∃ t', e = .returned (.agg (termA t')) ∧ OwnT w' w.heap.size t' ∧ t'.data = t.data ∧ Below w.heap.size w w' := by
  have HR := Lib.hid (fun W (h : Below w.heap.size w W) => (hr.below (Nat.le_refl _) h).more h.size)
  unfold szT at hn
  have n1 : szV t.v ≤ 1048576 := by omega
  have n2 : szS t.s ≤ 1048576 := by omega
  clear hr hn
  have l1 : w.heap.size < w.heap.size + 1 := by omega
  have l2 : w.heap.size < w.heap.size + 1 + 1 := by omega
  have l3 : w.heap.size + 1 < w.heap.size + 1 + 1 := by omega
  go_enter Tryd.func7, Tryd.ntmps7
  go_wp2_with fail
  refine (toVp_any t.v _ (HR.out _ ?hb).v n1).mono ?_
  case hb => repeat (first | exact Below.refl _ _ | refine Below.alloc ?_ (by simp <;> omega) _)
  rintro e v1 ⟨a, rfl, ho1, hd1, hb1⟩
  have ne_ao : w.heap.size ≠ w.heap.size + 1 + 1 := by omega
  have ne_ro : w.heap.size + 1 ≠ w.heap.size + 1 + 1 := by omega
  have ne_ra : w.heap.size + 1 ≠ w.heap.size := by omega
  have ne_ar : w.heap.size ≠ w.heap.size + 1 := by omega
  have ne_or : w.heap.size + 1 + 1 ≠ w.heap.size + 1 := by omega
  have xa := RowB.below (((RowB.new w (termA t) 35).alloc _).alloc _) hb1 (by simp <;> omega)
  have xr := RowB.below ((RowB.new (w.alloc _) _ _).alloc _) hb1 (by simp <;> omega)
  have xo := RowB.below (RowB.new ((w.alloc _).alloc _) _ _) hb1 (by simp <;> omega)
  simp only [World.size_alloc] at xr xo
  have XA1 := Lib.hid xa
  have XR1 := Lib.hid xr
  have XO1 := Lib.hid xo
  clear xa xr xo
  have za : w.heap.size < v1.heap.size := XA1.out.lt
  have zr : w.heap.size + 1 < v1.heap.size := XR1.out.lt
  have zo : w.heap.size + 1 + 1 < v1.heap.size := XO1.out.lt
  have HB1 := Lib.hid (show Below w.heap.size w v1 from Below.trans (((((Below.refl w.heap.size w).alloc (Nat.le_refl _) _).alloc (by simp) _).alloc (by simp <;> omega) _)) (hb1.mono (by simp <;> omega)))
  have HO1 := Lib.hid (ho1.more (base' := w.heap.size + 3) (by simp <;> omega))
  have HD1 := Lib.hid hd1
  clear ho1 hb1 hd1
  have rm : Room v1 (w.heap.size + 1 + 1) 0 4 := Room.of XO1.out (by simp)
  have hsg : seg v1 w.heap.size 4 31 = scrA t.s := by rw [seg_row XA1.out]; rfl
  go_wp2_with fail
  refine (toScr_any t.s _ (HR.out _ ?hb).s n2).mono ?_
  case hb => exact below_setRow HB1.out (by omega) _
  rintro e v2 ⟨s1, rfl, ho2, hd2, hb2⟩
  clear rm hsg
  have XR2 := Lib.hid (RowB.below (XR1.out.setRow_other (by omega)) hb2 (by simp; omega))
  have XO2 := Lib.hid (RowB.below (XO1.out.setRow) hb2 (by simp; omega))
  have zv : v1.heap.size ≤ v2.heap.size := by have := hb2.size; simp at this; exact this
  have HA2 := Lib.hid (OwnV.below (HO1.out.row_ _ _ (by omega)) (Nat.le_refl _) hb2)
  have HA1 := Lib.hid (show ∀ g, (Value.slice a.aA a.zs.length a.ac).ownBlock = some g → g < v1.heap.size from fun g hg => (HO1.out.a.blk g hg).2)
  have HS2 := Lib.hid (ho2.more (base' := w.heap.size + 3) (by simp; omega))
  have HS1 := Lib.hid (show ∀ i, SS s1 i → v1.heap.size ≤ i from fun i hi => by have := (ho2.blk i hi).1; simp at this; exact this)
  have HB2 := Lib.hid ((below_setRow HB1.out (b := w.heap.size + 1 + 1) (by omega) (put (rowOf v1 (w.heap.size + 1 + 1)) 0 (vpA a))).trans (hb2.mono (by simp; omega)))
  have HD2 := Lib.hid hd2
  clear ho2 hb2 HO1 XA1 HB1 hd2
  have rm : Room v2 (w.heap.size + 1 + 1) 4 31 := Room.of XO2.out (by rw [XO1.out.row]; exact Nat.le_refl 35)
  have ic : IsC v2 (w.heap.size + 1 + 1) := IsC.of XO2.out
  have rz : RowZ v2 (w.heap.size + 1) 35 := RowZ.of XR2.out 35 rfl
  have hput : put (rowOf v2 (w.heap.size + 1 + 1)) 4 (scrA s1) = termA ⟨a, s1⟩ := by rw [XO2.out.row, XO1.out.row]; rfl
  have zr2 : w.heap.size + 1 < v2.heap.size := by omega
  have zo2 : w.heap.size + 1 + 1 < v2.heap.size := by omega
  go_wp2_with fail
  refine bodyPost_ret (v := .agg (termA ⟨a, s1⟩)) (res_Term rfl _ _ (w.heap.size + 1) _ rfl (RowB.setRow (XR2.out.setRow_other (by omega))) rfl) rfl ⟨_, rfl, ⟨?_, ?_, ?_⟩, ?_, ?_⟩
  · exact ((HA2.out.row_ _ _ (by omega)).row_ _ _ (by omega)).more (by omega)
  · exact ((HS2.out.row_ _ _ (by omega)).row_ _ _ (by omega)).more (by omega)
  · intro i hi hi'
    have h1 := HS1.out i hi
    have h2 := HA1.out i hi'
    omega
  · show TermD.mk _ _ = _
    rw [HD1.out, HD2.out]; rfl
  · exact below_setRow (below_setRow HB2.out (by omega) _) (by omega) _
set_option maxRecDepth 100000 in
set_option maxHeartbeats 1600000 in
theorem szTerm_any (t : TermS) (left : Int) (w : World) (hr : RdT w w.heap.size t) (hn : LenT t) (h0 : 0 ≤ left) (h1 : left ≤ 1048576) :
    Calls Tryd.prog 5 #[.agg (termA t), .int .i64 left] w (Sc.Left left (szT t) w.heap.size w) := by
  have HR := Lib.hid (fun W (h : Below w.heap.size w W) => (hr.below (Nat.le_refl _) h).more h.size)
  have HN := Lib.hid hn
  have HZ := Lib.hid (show szT t = szV t.v + szS t.s from rfl)
  clear hr hn
  go_enter Tryd.func5, Tryd.ntmps5
  go_wp2_with fail
  refine (szVp_any t.v left _ HN.out.v h0 h1).mono ?_
  rintro e v1 ⟨r, rfl, hr, hb1⟩
  have xa := RowB.below (RowB.new w (termA t) 35) hb1 (by simp <;> omega)
  have XA := Lib.hid xa
  have za : w.heap.size < v1.heap.size := xa.lt
  have HB1 := Lib.hid (show Below w.heap.size w v1 from Below.trans ((Below.refl w.heap.size w).alloc (Nat.le_refl _) _) (hb1.mono (by simp)))
  clear hb1 xa
  rcases hr with rfl | ⟨hr0, hr1⟩
  · go_wp2_with fail
    go_ret
    exact ⟨-1, rfl, .inl rfl, HB1.out⟩
  have HR1 := Lib.hid hr1
  have hr2 : r ≤ 1048576 := by omega
  clear hr1
  have hsg : seg v1 w.heap.size 4 31 = scrA t.s := by rw [seg_row XA.out]; rfl
  go_wp2_with fail
  refine (szScr_any t.s r _ (HR.out _ HB1.out).s.r HN.out.s hr0 hr2).mono ?_
  rintro e v2 ⟨q, rfl, hq, hb2⟩
  have HB2 := Lib.hid (HB1.out.trans (hb2.mono HB1.out.size))
  clear hb2 hsg
  rcases hq with rfl | ⟨hq0, hq1⟩
  · go_wp2_with fail
    go_ret
    exact ⟨-1, rfl, .inl rfl, HB2.out⟩
  have HQ := Lib.hid hq1
  clear hq1
  go_wp2_with fail
  go_ret
  exact ⟨q, rfl, .inr ⟨hq0, by have := HQ.out; have := HR1.out; rw [HZ.out]; omega⟩, HB2.out⟩
set_option maxRecDepth 100000 in
set_option maxHeartbeats 1600000 in
theorem eqTerm_yes (t t' : TermS) (w : World) (hr : RdT w w.heap.size t) (hr' : RdT w w.heap.size t') (he : t'.data = t.data) (hn : szT t ≤ 1048576) :
    Calls Tryd.prog 9 #[.agg (termA t), .agg (termA t')] w fun e w' => e = .returned (.bool true) ∧ Below w.heap.size w w' := by
  simp only [TermS.data, TermD.mk.injEq] at he
  have HE := Lib.hid he
  have HR := Lib.hid (fun W (h : Below w.heap.size w W) => (hr.below (Nat.le_refl _) h).more h.size)
  have HR' := Lib.hid (fun W (h : Below w.heap.size w W) => (hr'.below (Nat.le_refl _) h).more h.size)
  unfold szT at hn
  have n1 : szV t.v ≤ 1048576 := by omega
  have n2 : szS t.s ≤ 1048576 := by omega
  clear hr hr' hn he
  have l1 : w.heap.size < w.heap.size + 1 := by omega
  have l2 : w.heap.size < w.heap.size + 1 + 1 := by omega
  have l3 : w.heap.size + 1 < w.heap.size + 1 + 1 := by omega
  go_enter Tryd.func9, Tryd.ntmps9
  go_wp2_with fail
  refine (eqVp_yes t.v t'.v _ (HR.out _ ?hb).v (HR'.out _ ?hb').v HE.out.1 n1).mono ?_
  case hb => repeat (first | exact Below.refl _ _ | refine Below.alloc ?_ (by simp <;> omega) _)
  case hb' => repeat (first | exact Below.refl _ _ | refine Below.alloc ?_ (by simp <;> omega) _)
  rintro e v1 ⟨rfl, hb1⟩
  have ne_ab : w.heap.size ≠ w.heap.size + 1 := by omega
  have ne_ba : w.heap.size + 1 ≠ w.heap.size := by omega
  have xa := RowB.below ((RowB.new w (termA t) 47).alloc _) hb1 (by simp <;> omega)
  have xb := RowB.below (RowB.new (w.alloc _) (termA t') _) hb1 (by simp <;> omega)
  simp only [World.size_alloc] at xb
  have XA := Lib.hid xa
  have XB := Lib.hid xb
  clear xa xb
  have za : w.heap.size < v1.heap.size := XA.out.lt
  have zb : w.heap.size + 1 < v1.heap.size := XB.out.lt
  have HB1 := Lib.hid (show Below w.heap.size w v1 from Below.trans (((Below.refl w.heap.size w).alloc (Nat.le_refl _) _).alloc (by simp) _) (hb1.mono (by simp <;> omega)))
  clear hb1
  have sa : seg v1 w.heap.size 4 31 = scrA t.s := by rw [seg_row XA.out]; rfl
  have sb : seg v1 (w.heap.size + 1) 4 31 = scrA t'.s := by rw [seg_row XB.out]; rfl
  go_wp2_with fail
  refine (eqScr_yes (HR.out _ HB1.out).s (HR'.out _ HB1.out).s HE.out.2 n2).mono ?_
  rintro e v2 ⟨rfl, hb2⟩
  have HB2 := Lib.hid (HB1.out.trans (hb2.mono HB1.out.size))
  clear hb2
  go_wp2_with fail
  go_ret
  exact ⟨rfl, HB2.out⟩
set_option maxRecDepth 100000 in
set_option maxHeartbeats 1600000 in
theorem toPane_any (p : PaneS) (w : World) (hr : RdT w w.heap.size p.t) (hn : szT p.t ≤ 1048576) :
    Calls Tryd.prog 12 #[.agg (paneA p)] w fun e w' => ∃ p', e = .returned (.agg (paneA p')) ∧ OwnT w' w.heap.size p'.t ∧ p'.data = p.data ∧ Below w.heap.size w w' := by
  have HR := Lib.hid (fun W (h : Below w.heap.size w W) => (hr.below (Nat.le_refl _) h).more h.size)
  clear hr
  have l1 : w.heap.size < w.heap.size + 1 := by omega
  have l2 : w.heap.size < w.heap.size + 1 + 1 := by omega
  have l3 : w.heap.size + 1 < w.heap.size + 1 + 1 := by omega
  go_enter Tryd.func12, Tryd.ntmps12
  go_wp2_with fail
  refine (toTerm_any p.t _ (HR.out _ ?hb) hn).mono ?_
  case hb => repeat (first | exact Below.refl _ _ | refine Below.alloc ?_ (by simp <;> omega) _)
  rintro e v1 ⟨a, rfl, ho1, hd1, hb1⟩
  have ne_ao : w.heap.size ≠ w.heap.size + 1 + 1 := by omega
  have ne_ro : w.heap.size + 1 ≠ w.heap.size + 1 + 1 := by omega
  have ne_ra : w.heap.size + 1 ≠ w.heap.size := by omega
  have ne_ar : w.heap.size ≠ w.heap.size + 1 := by omega
  have ne_or : w.heap.size + 1 + 1 ≠ w.heap.size + 1 := by omega
  have xa := RowB.below (((RowB.new w (paneA p) 52).alloc _).alloc _) hb1 (by simp <;> omega)
  have xr := RowB.below ((RowB.new (w.alloc _) _ _).alloc _) hb1 (by simp <;> omega)
  have xo := RowB.below (RowB.new ((w.alloc _).alloc _) _ _) hb1 (by simp <;> omega)
  simp only [World.size_alloc] at xr xo
  have XA1 := Lib.hid xa
  have XR1 := Lib.hid xr
  have XO1 := Lib.hid xo
  clear xa xr xo
  have za : w.heap.size < v1.heap.size := XA1.out.lt
  have zr : w.heap.size + 1 < v1.heap.size := XR1.out.lt
  have zo : w.heap.size + 1 + 1 < v1.heap.size := XO1.out.lt
  have HB1 := Lib.hid (show Below w.heap.size w v1 from Below.trans (((((Below.refl w.heap.size w).alloc (Nat.le_refl _) _).alloc (by simp) _).alloc (by simp <;> omega) _)) (hb1.mono (by simp <;> omega)))
  have HO1 := Lib.hid (ho1.more (base' := w.heap.size + 3) (by simp <;> omega))
  have HD1 := Lib.hid hd1
  clear ho1 hb1 hd1 XA1
  have rm : Room v1 (w.heap.size + 1 + 1) 6 35 := Room.of XO1.out (by simp)
  have ic : IsC v1 (w.heap.size + 1 + 1) := IsC.of XO1.out
  have rz : RowZ v1 (w.heap.size + 1) 41 := RowZ.of XR1.out 41 rfl
  have hput : put (rowOf v1 (w.heap.size + 1 + 1)) 6 (termA a) = paneA ⟨p.id, p.cmd, p.dir, p.life, p.code, p.pid, a⟩ := by rw [XO1.out.row]; rfl
  go_wp2_with fail
  refine bodyPost_ret (v := .agg (paneA ⟨p.id, p.cmd, p.dir, p.life, p.code, p.pid, a⟩)) (res_Pane rfl _ _ (w.heap.size + 1) _ rfl (RowB.setRow (XR1.out.setRow_other (by omega))) rfl) rfl ⟨_, rfl, ?_, ?_, ?_⟩
  · exact ((HO1.out.row_ _ _ (by omega)).row_ _ _ (by omega)).more (by omega)
  · show PaneD.mk _ _ _ _ _ _ _ = _
    rw [HD1.out]; rfl
  · exact below_setRow (below_setRow HB1.out (by omega) _) (by omega) _
set_option maxRecDepth 100000 in
set_option maxHeartbeats 1600000 in
theorem szPane_any (p : PaneS) (left : Int) (w : World) (hr : RdT w w.heap.size p.t) (hn : LenP p) (h0 : 0 ≤ left) (h1 : left ≤ 1048576) :
    Calls Tryd.prog 10 #[.agg (paneA p), .int .i64 left] w (Sc.Left left (szP p) w.heap.size w) := by
  have HR := Lib.hid (fun W (h : Below w.heap.size w W) => (hr.below (Nat.le_refl _) h).more h.size)
  have n1 := hn.c
  have n2 := hn.d
  have HN := Lib.hid hn.t
  have HZ := Lib.hid (show szP p = p.cmd.size + p.dir.size + szT p.t from rfl)
  clear hr hn
  have hb0 := Lib.hid ((Below.refl w.heap.size w).alloc (Nat.le_refl _) (.cells (paneA p) 52))
  by_cases ha : left - (p.cmd.size : Int) < 0
  · go_enter Tryd.func10, Tryd.ntmps10
    go_wp2_with fail
    go_ret
    exact ⟨-1, rfl, .inl rfl, hb0.out⟩
  have h2 : 0 ≤ left - (p.cmd.size : Int) := by omega
  by_cases hc : left - (p.cmd.size : Int) - (p.dir.size : Int) < 0
  · go_enter Tryd.func10, Tryd.ntmps10
    go_wp2_with fail
    go_ret
    exact ⟨-1, rfl, .inl rfl, hb0.out⟩
  have h3 : 0 ≤ left - (p.cmd.size : Int) - (p.dir.size : Int) := by omega
  go_enter Tryd.func10, Tryd.ntmps10
  go_wp2_with fail
  refine (szTerm_any p.t _ _ (HR.out _ hb0.out) HN.out h3 (by omega)).mono ?_
  rintro e v1 ⟨q, rfl, hq, hb1⟩
  have HB1 := Lib.hid (hb0.out.trans (hb1.mono hb0.out.size))
  clear hb1
  rcases hq with rfl | ⟨hq0, hq1⟩
  · go_wp2_with fail
    go_ret
    exact ⟨-1, rfl, .inl rfl, HB1.out⟩
  have HQ := Lib.hid hq1
  clear hq1
  go_wp2_with fail
  go_ret
  exact ⟨q, rfl, .inr ⟨hq0, by have := HQ.out; rw [HZ.out]; omega⟩, HB1.out⟩
set_option maxRecDepth 100000 in
set_option maxHeartbeats 1600000 in
theorem eqPane_yes (p p' : PaneS) (w : World) (hr : RdT w w.heap.size p.t) (hr' : RdT w w.heap.size p'.t) (he : p'.data = p.data) (hn : szT p.t ≤ 1048576) :
    Calls Tryd.prog 14 #[.agg (paneA p), .agg (paneA p')] w fun e w' => e = .returned (.bool true) ∧ Below w.heap.size w w' := by
  obtain ⟨i0, i1, i2, i3, i4, i5, t⟩ := p
  obtain ⟨j0, j1, j2, j3, j4, j5, t'⟩ := p'
  simp only [PaneS.data, PaneD.mk.injEq] at he
  obtain ⟨rfl, rfl, rfl, rfl, rfl, rfl, he⟩ := he
  simp only [] at hr hr' hn
  have HE := Lib.hid he
  have HR := Lib.hid (fun W (h : Below w.heap.size w W) => (hr.below (Nat.le_refl _) h).more h.size)
  have HR' := Lib.hid (fun W (h : Below w.heap.size w W) => (hr'.below (Nat.le_refl _) h).more h.size)
  have e0 : (j0 != j0) = false := by simp
  have e1 : (!(j1.toList == j1.toList)) = false := by simp
  have e2 : (!(j2.toList == j2.toList)) = false := by simp
  have e3 : (j3 != j3) = false := by simp
  have e4 : (j4 != j4) = false := by simp
  have e5 : (j5 != j5) = false := by simp
  clear hr hr' he
  have l1 : w.heap.size < w.heap.size + 1 := by omega
  have l2 : w.heap.size < w.heap.size + 1 + 1 := by omega
  have l3 : w.heap.size + 1 < w.heap.size + 1 + 1 := by omega
  go_enter Tryd.func14, Tryd.ntmps14
  go_wp2_with fail
  refine (eqTerm_yes t t' _ (HR.out _ ?hb) (HR'.out _ ?hb') HE.out hn).mono ?_
  case hb => repeat (first | exact Below.refl _ _ | refine Below.alloc ?_ (by simp <;> omega) _)
  case hb' => repeat (first | exact Below.refl _ _ | refine Below.alloc ?_ (by simp <;> omega) _)
  rintro e v1 ⟨rfl, hb1⟩
  have HB1 := Lib.hid (show Below w.heap.size w v1 from Below.trans (((Below.refl w.heap.size w).alloc (Nat.le_refl _) _).alloc (by simp) _) (hb1.mono (by simp <;> omega)))
  clear hb1
  go_wp2_with fail
  go_ret
  exact ⟨rfl, HB1.out⟩
end Go.Proofs.YtbheimjepikkfaaDoor.St
