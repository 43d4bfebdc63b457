/- Texts that lay in modules of their own: StX, StL. -/
import Derived.Test.YtgnpgkkjcloghaaGreatDoorStV
import Derived.Test.YtgnpgkkjcloghaaGreatDoorKm6
import Derived.Deep.RegionWith
import Derived.Deep.DrawnRows
namespace Go.Proofs.YtgnpgkkjcloghaaGreatDoor.St
open Go.RowKit Go.Proofs.YtgnpgkkjcloghaaGreatDoor.Bytes Go.Proofs.YtgnpgkkjcloghaaGreatDoor.Rows_ Go.Proofs.YtgnpgkkjcloghaaGreatDoor.RowK Go.Proofs.YtgnpgkkjcloghaaGreatDoor.Gr Go.Proofs.YtgnpgkkjcloghaaGreatDoor.DOk Go.Proofs.YtgnpgkkjcloghaaGreatDoor.Opq Go.Proofs.YtgnpgkkjcloghaaGreatDoor.Sc
set_option linter.unusedVariables false
attribute [local go_sem ↓] Go.wp_at_zero Go.wp_at_succ lm_lawsVp lm_implVp lm_lawsScr lm_implScr lm_lawsTerm lm_implTerm lm_lawsPane lm_implPane lm_lawsWin lm_implWin lm_lawsSess lm_implSess lr_implVp lr_implTerm lr_implPane lr_implWin lr_implSess lr_lawsState lr_implState sm_Vp sm_Scr sm_Term sm_Pane sm_Win sm_Sess sr_Vp sr_Term sr_Pane sr_Win sr_Sess sr_State
attribute [local go_sem] RowZ.set rowOf_set rowOf_setRow_other rowOf_setRow_same rowOf_setCell_other blkOf_ptr isHead_ptr aggN_agg isPtr_ptr offOf_ptr setRow_alloc rowZ_at rowZ_past rowZ_setRow_other rowOf_alloc_at rowOf_alloc_past rowOf_drew seg_alloc_past seg_alloc_at seg_setCell_other seg_setRow_other seg_drew cut_term_scr cut_term_vp cut_pane_term vpA_size termA_size paneA_size winA_size sessA_size stA_size scrA_size one_vp one_scr one_term one_pane one_win one_sess one_st vp_at0 vp_at1 vp_at2 vp_at3 term_at0 term_at1 term_at2 term_at3 pane_at0 pane_at1 pane_at2 pane_at3 pane_at4 pane_at5 win_at0 win_at1 win_at2 win_at3 win_at4 sess_at0 sess_at1 sess_at2 st_at0 st_at1 st_at2 st_at3 st_at4 st_at5 st_at6
set_option maxRecDepth 100000 in
set_option maxHeartbeats 1600000 in
theorem eqWin_yes (x y : WinS) (w : World) (hr : Tr.RdN w w.heap.size x.tA x.tree) (hr' : Tr.RdN w w.heap.size y.tA y.tree) (he : y.data = x.data) (hn : x.tree.length ≤ 1048576) :
    Calls Tryz.prog 76 #[.agg (winA x), .agg (winA y)] w fun e w' => e = .returned (.bool true) ∧ Below w.heap.size w w' := by
  obtain ⟨i0, i1, tA, tc, i2, i3, i4⟩ := x
  obtain ⟨j0, j1, tB, td, j2, j3, j4⟩ := y
  simp only [WinS.data, WinD.mk.injEq] at he
  obtain ⟨rfl, rfl, rfl, rfl, rfl⟩ := he
  simp only [] at hr hr' hn
  have HR := Lib.hid (fun W (h : Below w.heap.size w W) => (hr.below (Nat.le_refl _) h).more h.size)
  have HR' := Lib.hid (fun W (h : Below w.heap.size w W) => (hr'.below (Nat.le_refl _) h).more h.size)
  have e0 : (j0 != j0) = false := by simp
  have e1 : (!(j1.toList == j1.toList)) = false := by simp
  have e3 : (j3 != j3) = false := by simp
  have e4 : (j4 != j4) = false := by simp
  clear hr hr'
  have l1 : w.heap.size < w.heap.size + 1 := by omega
  have l2 : w.heap.size < w.heap.size + 1 + 1 := by omega
  have l3 : w.heap.size + 1 < w.heap.size + 1 + 1 := by omega
  go_enter Tryz.func76, Tryz.ntmps76
  go_wp2_with fail
  refine (Tr.eqNodeS_yes tA tB j2.length tc td j2 _ (HR.out _ ?hb) (HR'.out _ ?hb') rfl (by omega)).mono ?_
  case hb => repeat (first | exact Below.refl _ _ | refine Below.alloc ?_ (by simp <;> omega) _)
  case hb' => repeat (first | exact Below.refl _ _ | refine Below.alloc ?_ (by simp <;> omega) _)
  rintro e v1 ⟨rfl, hb1⟩
  have ne_ab : w.heap.size ≠ w.heap.size + 1 := by omega
  have ne_ba : w.heap.size + 1 ≠ w.heap.size := by omega
  have xa := RowB.below ((RowB.new w (winA ⟨j0, j1, tA, tc, j2, j3, j4⟩) 90).alloc _) hb1 (by simp <;> omega)
  have xb := RowB.below (RowB.new (w.alloc _) (winA ⟨j0, j1, tB, td, j2, j3, j4⟩) _) hb1 (by simp <;> omega)
  simp only [World.size_alloc] at xb
  have XA := Lib.hid xa
  have XB := Lib.hid xb
  clear xa xb
  have za : w.heap.size < v1.heap.size := XA.out.lt
  have zb : w.heap.size + 1 < v1.heap.size := XB.out.lt
  have HB1 := Lib.hid (show Below w.heap.size w v1 from Below.trans (((Below.refl w.heap.size w).alloc (Nat.le_refl _) _).alloc (by simp) _) (hb1.mono (by simp <;> omega)))
  clear hb1
  have ca3 : v1.cell? ⟨w.heap.size, 3, none⟩ = some (.int .i64 j3) := XA.out.cell 3
  have cb3 : v1.cell? ⟨w.heap.size + 1, 3, none⟩ = some (.int .i64 j3) := XB.out.cell 3
  have ca4 : v1.cell? ⟨w.heap.size, 4, none⟩ = some (.bool j4) := XA.out.cell 4
  have cb4 : v1.cell? ⟨w.heap.size + 1, 4, none⟩ = some (.bool j4) := XB.out.cell 4
  go_wp2_with fail
  go_ret
  exact ⟨rfl, HB1.out⟩
set_option maxRecDepth 100000 in
set_option maxHeartbeats 1600000 in
theorem eqSess_yes (x y : SessS) (w : World) (hr : RdI w w.heap.size x.wA x.wins) (hr' : RdI w w.heap.size y.wA y.wins) (he : y.data = x.data) (hn : x.wins.length ≤ 1048576) :
    Calls Tryz.prog 77 #[.agg (sessA x), .agg (sessA y)] w fun e w' => e = .returned (.bool true) ∧ Below w.heap.size w w' := by
  obtain ⟨i0, wA, wc, i1, i2⟩ := x
  obtain ⟨j0, wB, wd, j1, j2⟩ := y
  simp only [SessS.data, SessD.mk.injEq] at he
  obtain ⟨rfl, rfl, rfl⟩ := he
  simp only [] at hr hr' hn
  have HR := Lib.hid (fun W (h : Below w.heap.size w W) => (hr.below (Nat.le_refl _) h).more h.size)
  have HR' := Lib.hid (fun W (h : Below w.heap.size w W) => (hr'.below (Nat.le_refl _) h).more h.size)
  have e0 : (!(j0.toList == j0.toList)) = false := by simp
  have e2 : (j2 != j2) = false := by simp
  clear hr hr'
  have l1 : w.heap.size < w.heap.size + 1 := by omega
  have l2 : w.heap.size < w.heap.size + 1 + 1 := by omega
  have l3 : w.heap.size + 1 < w.heap.size + 1 + 1 := by omega
  go_enter Tryz.func77, Tryz.ntmps77
  go_wp2_with fail
  refine (eqIntS_yes wA wB j1.length wc wd j1 _ (HR.out _ ?hb) (HR'.out _ ?hb') rfl (by omega)).mono ?_
  case hb => repeat (first | exact Below.refl _ _ | refine Below.alloc ?_ (by simp <;> omega) _)
  case hb' => repeat (first | exact Below.refl _ _ | refine Below.alloc ?_ (by simp <;> omega) _)
  rintro e v1 ⟨rfl, hb1⟩
  have ne_ab : w.heap.size ≠ w.heap.size + 1 := by omega
  have ne_ba : w.heap.size + 1 ≠ w.heap.size := by omega
  have xa := RowB.below ((RowB.new w (sessA ⟨j0, wA, wc, j1, j2⟩) 97).alloc _) hb1 (by simp <;> omega)
  have xb := RowB.below (RowB.new (w.alloc _) (sessA ⟨j0, wB, wd, j1, j2⟩) _) hb1 (by simp <;> omega)
  simp only [World.size_alloc] at xb
  have XA := Lib.hid xa
  have XB := Lib.hid xb
  clear xa xb
  have za : w.heap.size < v1.heap.size := XA.out.lt
  have zb : w.heap.size + 1 < v1.heap.size := XB.out.lt
  have HB1 := Lib.hid (show Below w.heap.size w v1 from Below.trans (((Below.refl w.heap.size w).alloc (Nat.le_refl _) _).alloc (by simp) _) (hb1.mono (by simp <;> omega)))
  clear hb1
  have ca2 : v1.cell? ⟨w.heap.size, 2, none⟩ = some (.int .i64 j2) := XA.out.cell 2
  have cb2 : v1.cell? ⟨w.heap.size + 1, 2, none⟩ = some (.int .i64 j2) := XB.out.cell 2
  go_wp2_with fail
  go_ret
  exact ⟨rfl, HB1.out⟩
end Go.Proofs.YtgnpgkkjcloghaaGreatDoor.St
namespace Go.Proofs.YtgnpgkkjcloghaaGreatDoor.St
open Go.RowKit Go.Proofs.YtgnpgkkjcloghaaGreatDoor.Bytes Go.Proofs.YtgnpgkkjcloghaaGreatDoor.Rows_ Go.Proofs.YtgnpgkkjcloghaaGreatDoor.RowK Go.Proofs.YtgnpgkkjcloghaaGreatDoor.Gr Go.Proofs.YtgnpgkkjcloghaaGreatDoor.DOk Go.Proofs.YtgnpgkkjcloghaaGreatDoor.Opq Go.Proofs.YtgnpgkkjcloghaaGreatDoor.Sc
set_option linter.unusedVariables false
attribute [local go_sem ↓] Go.wp_at_zero Go.wp_at_succ lm_lawsVp lm_implVp lm_lawsScr lm_implScr lm_lawsTerm lm_implTerm lm_lawsPane lm_implPane lm_lawsWin lm_implWin lm_lawsSess lm_implSess lr_implVp lr_implTerm lr_implPane lr_implWin lr_implSess lr_lawsState lr_implState sm_Vp sm_Scr sm_Term sm_Pane sm_Win sm_Sess sr_Vp sr_Term sr_Pane sr_Win sr_Sess sr_State
attribute [local go_sem] RowZ.set rowOf_set rowOf_setRow_other rowOf_setRow_same rowOf_setCell_other blkOf_ptr isHead_ptr aggN_agg isPtr_ptr offOf_ptr setRow_alloc rowZ_at rowZ_past rowZ_setRow_other rowOf_alloc_at rowOf_alloc_past rowOf_drew seg_alloc_past seg_alloc_at seg_setCell_other seg_setRow_other seg_drew cut_term_scr cut_term_vp cut_pane_term vpA_size termA_size paneA_size winA_size sessA_size stA_size scrA_size one_vp one_scr one_term one_pane one_win one_sess one_st vp_at0 vp_at1 vp_at2 vp_at3 term_at0 term_at1 term_at2 term_at3 pane_at0 pane_at1 pane_at2 pane_at3 pane_at4 pane_at5 win_at0 win_at1 win_at2 win_at3 win_at4 sess_at0 sess_at1 sess_at2 st_at0 st_at1 st_at2 st_at3 st_at4 st_at5 st_at6
theorem map_at {α β : Type} {g : α → β} {l l' : List α} (h : l'.map g = l.map g) (k : Nat) (h1 : k < l.length) (h2 : k < l'.length) : g l'[k] = g l[k] := by
  have e := congrArg (fun x => x[k]?) h
  simp only [List.getElem?_map, List.getElem?_eq_getElem h1, List.getElem?_eq_getElem h2, Option.map_some, Option.some.injEq] at e
  exact e
theorem undrew {W v : World} {B : Nat} (h : Below B W.drew v) : Below B W v := ⟨h.os, h.tape, h.output, h.size, h.block⟩
set_option maxRecDepth 100000 in
set_option maxHeartbeats 1600000 in
theorem eqPaneS_yes (A A' : Option Addr) (n c c' : Nat) (ps qs : List PaneS) (w : World) (hr : RdK 41 w w.heap.size A (ps.map paneL)) (hr' : RdK 41 w w.heap.size A' (qs.map paneL)) (hp : RdPs w w.heap.size ps) (hp' : RdPs w w.heap.size qs) (he : qs.map PaneS.data = ps.map PaneS.data) (hl : ps.length = n) (hn : n ≤ 1048576) (hs : ∀ p ∈ ps, szT p.t ≤ 1048576) :
    Calls Tryz.prog 31 #[.slice A n c, .slice A' n c'] w fun e w' => e = .returned (.bool true) ∧ Below w.heap.size w w' := by
  have HL := Lib.hid hl
  have HL' := Lib.hid (show qs.length = n by rw [map_len he]; exact hl)
  have HR := Lib.hid hr
  have HR' := Lib.hid hr'
  have HS := Lib.hid hs
  have HE := Lib.hid he
  have HPA := Lib.hid (fun W (h : Below w.heap.size w W) => (hp.below (Nat.le_refl _) h).more h.size)
  have HPB := Lib.hid (fun W (h : Below w.heap.size w W) => (hp'.below (Nat.le_refl _) h).more h.size)
  have hnn : (n != n) = false := by simp
  clear hl hr hr' hp hp' hs he
  go_enter Tryz.func31, Tryz.ntmps31
  go_wp2_with fail
  go_loopw [5] (fun i wr => ∃ k : Nat, k ≤ n ∧ i = .int .i64 k ∧ Below w.heap.size w wr) (fun i _ => n - (intOf i).toNat)
  case atStart => exact ⟨0, Nat.zero_le _, rfl, Below.refl _ _⟩
  case round =>
    obtain ⟨k, hk, rfl, hb⟩ := hrel
    have hz : w.heap.size ≤ wr.heap.size := hb.size
    by_cases hlt : k < n
    · have hl1 : k < ps.length := by rw [HL.out]; exact hlt
      have hl2 : k < qs.length := by rw [HL'.out]; exact hlt
      obtain ⟨b, o, rfl, hB, hsg0⟩ := rdK_seg (L := paneL) (fun _ => rfl) (HR.out.below (Nat.le_refl _) hb) hl1
      obtain ⟨b', o', rfl, hB', hsg1⟩ := rdK_seg (L := paneL) (fun _ => rfl) (HR'.out.below (Nat.le_refl _) hb) hl2
      have HB := Lib.hid hb
      have HSn := Lib.hid (HS.out _ (List.getElem_mem hl1))
      have HEn := Lib.hid (map_at HE.out k hl1 hl2)
      have HPa := Lib.hid (fun W (h : Below w.heap.size w W) => HPA.out W h _ (List.getElem_mem hl1))
      have HPb := Lib.hid (fun W (h : Below w.heap.size w W) => HPB.out W h _ (List.getElem_mem hl2))
      have hsa : seg wr b (o + k * 41) 41 = paneA ps[k] := hsg0
      have hsb : seg wr b' (o' + k * 41) 41 = paneA qs[k] := hsg1
      clear hb hsg0 hsg1
      generalize ps[k] = p at *
      generalize qs[k] = q at *
      go_wp2_with fail
      go_region_with ((go_at_call 75; refine (eqPane_yes p q _ (HPa.out _ (by first | exact HB.out | exact ⟨HB.out.os, HB.out.tape, HB.out.output, HB.out.size, HB.out.block⟩)) (HPb.out _ (by first | exact HB.out | exact ⟨HB.out.os, HB.out.tape, HB.out.output, HB.out.size, HB.out.block⟩)) HEn.out HSn.out).mono ?_; rintro e v1 ⟨rfl, hb1'⟩; have hb1 : Below wr.heap.size wr v1 := undrew hb1'; clear hb1'))
      all_goals
        have HB1 := Lib.hid (HB.out.trans (hb1.mono hz))
        clear hb1
        go_wp2_with fail
        exact ⟨⟨k + 1, by omega, by go_num, HB1.out⟩, by simp [intOf]; omega⟩
    · obtain rfl : n = k := by omega
      go_wp2_with fail
      go_ret
      exact ⟨rfl, hb⟩
end Go.Proofs.YtgnpgkkjcloghaaGreatDoor.St
