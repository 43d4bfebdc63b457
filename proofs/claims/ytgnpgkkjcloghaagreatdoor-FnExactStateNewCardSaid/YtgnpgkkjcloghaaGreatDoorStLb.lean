/- The laws' helpers over rows of windows and sessions: the copy, the size, the comparison where both hold the same. -/
import Derived.Test.YtgnpgkkjcloghaaGreatDoorKm7
import Derived.Deep.RegionWith
import Derived.Deep.DrawnRows
namespace Go.Proofs.YtgnpgkkjcloghaaGreatDoor.St
open Go.RowKit Go.Proofs.YtgnpgkkjcloghaaGreatDoor.Bytes Go.Proofs.YtgnpgkkjcloghaaGreatDoor.Rows_ Go.Proofs.YtgnpgkkjcloghaaGreatDoor.RowK Go.Proofs.YtgnpgkkjcloghaaGreatDoor.Gr Go.Proofs.YtgnpgkkjcloghaaGreatDoor.DOk Go.Proofs.YtgnpgkkjcloghaaGreatDoor.Opq Go.Proofs.YtgnpgkkjcloghaaGreatDoor.Sc
set_option linter.unusedVariables false
attribute [local go_sem ↓] Go.wp_at_zero Go.wp_at_succ lm_lawsVp lm_implVp lm_lawsScr lm_implScr lm_lawsTerm lm_implTerm lm_lawsPane lm_implPane lm_lawsWin lm_implWin lm_lawsSess lm_implSess lr_implVp lr_implTerm lr_implPane lr_implWin lr_implSess lr_lawsState lr_implState sm_Vp sm_Scr sm_Term sm_Pane sm_Win sm_Sess sr_Vp sr_Term sr_Pane sr_Win sr_Sess sr_State
attribute [local go_sem] RowZ.set rowOf_set rowOf_setRow_other rowOf_setRow_same rowOf_setCell_other blkOf_ptr isHead_ptr aggN_agg isPtr_ptr offOf_ptr setRow_alloc rowZ_at rowZ_past rowZ_setRow_other rowOf_alloc_at rowOf_alloc_past rowOf_drew seg_alloc_past seg_alloc_at seg_setCell_other seg_setRow_other seg_drew cut_term_scr cut_term_vp cut_pane_term vpA_size termA_size paneA_size winA_size sessA_size stA_size scrA_size one_vp one_scr one_term one_pane one_win one_sess one_st vp_at0 vp_at1 vp_at2 vp_at3 term_at0 term_at1 term_at2 term_at3 pane_at0 pane_at1 pane_at2 pane_at3 pane_at4 pane_at5 win_at0 win_at1 win_at2 win_at3 win_at4 sess_at0 sess_at1 sess_at2 st_at0 st_at1 st_at2 st_at3 st_at4 st_at5 st_at6
set_option maxRecDepth 100000 in
set_option maxHeartbeats 1600000 in
theorem eqWinS_yes (A A' : Option Addr) (n c c' : Nat) (ps qs : List WinS) (w : World) (hr : RdK 5 w w.heap.size A (ps.map winL)) (hr' : RdK 5 w w.heap.size A' (qs.map winL)) (hp : RdWs w w.heap.size ps) (hp' : RdWs w w.heap.size qs) (he : qs.map WinS.data = ps.map WinS.data) (hl : ps.length = n) (hn : n ≤ 1048576) (hs : ∀ p ∈ ps, p.tree.length ≤ 1048576) :
    Calls Tryz.prog 32 #[.slice A n c, .slice A' n c'] w fun e w' => e = .returned (.bool true) ∧ Below w.heap.size w w' := by
  have HL := Lib.hid hl
  have HL' := Lib.hid (show qs.length = n by rw [map_len he]; exact hl)
  have HR := Lib.hid hr
  have HR' := Lib.hid hr'
  have HS := Lib.hid hs
  have HE := Lib.hid he
  have HPA := Lib.hid (fun W (h : Below w.heap.size w W) => (hp.below (Nat.le_refl _) h).more h.size)
  have HPB := Lib.hid (fun W (h : Below w.heap.size w W) => (hp'.below (Nat.le_refl _) h).more h.size)
  have hnn : (n != n) = false := by simp
  clear hl hr hr' hp hp' hs he
  go_enter Tryz.func32, Tryz.ntmps32
  go_wp2_with fail
  go_loopw [5] (fun i wr => ∃ k : Nat, k ≤ n ∧ i = .int .i64 k ∧ Below w.heap.size w wr) (fun i _ => n - (intOf i).toNat)
  case atStart => exact ⟨0, Nat.zero_le _, rfl, Below.refl _ _⟩
  case round =>
    obtain ⟨k, hk, rfl, hb⟩ := hrel
    have hz : w.heap.size ≤ wr.heap.size := hb.size
    by_cases hlt : k < n
    · have hl1 : k < ps.length := by rw [HL.out]; exact hlt
      have hl2 : k < qs.length := by rw [HL'.out]; exact hlt
      obtain ⟨b, o, rfl, hB, hsg0⟩ := rdK_seg (L := winL) (fun _ => rfl) (HR.out.below (Nat.le_refl _) hb) hl1
      obtain ⟨b', o', rfl, hB', hsg1⟩ := rdK_seg (L := winL) (fun _ => rfl) (HR'.out.below (Nat.le_refl _) hb) hl2
      have HB := Lib.hid hb
      have HSn := Lib.hid (HS.out _ (List.getElem_mem hl1))
      have HEn := Lib.hid (map_at HE.out k hl1 hl2)
      have HPa := Lib.hid (fun W (h : Below w.heap.size w W) => HPA.out W h _ (List.getElem_mem hl1))
      have HPb := Lib.hid (fun W (h : Below w.heap.size w W) => HPB.out W h _ (List.getElem_mem hl2))
      have hsa : seg wr b (o + k * 5) 5 = winA ps[k] := hsg0
      have hsb : seg wr b' (o' + k * 5) 5 = winA qs[k] := hsg1
      clear hb hsg0 hsg1
      generalize ps[k] = p at *
      generalize qs[k] = q at *
      go_wp2_with fail
      go_region_with ((go_at_call 76; refine (eqWin_yes p q _ (HPa.out _ (by first | exact HB.out | exact ⟨HB.out.os, HB.out.tape, HB.out.output, HB.out.size, HB.out.block⟩)) (HPb.out _ (by first | exact HB.out | exact ⟨HB.out.os, HB.out.tape, HB.out.output, HB.out.size, HB.out.block⟩)) HEn.out HSn.out).mono ?_; rintro e v1 ⟨rfl, hb1'⟩; have hb1 : Below wr.heap.size wr v1 := undrew hb1'; clear hb1'))
      all_goals
        have HB1 := Lib.hid (HB.out.trans (hb1.mono hz))
        clear hb1
        go_wp2_with fail
        exact ⟨⟨k + 1, by omega, by go_num, HB1.out⟩, by simp [intOf]; omega⟩
    · obtain rfl : n = k := by omega
      go_wp2_with fail
      go_ret
      exact ⟨rfl, hb⟩
set_option maxRecDepth 100000 in
set_option maxHeartbeats 1600000 in
theorem eqSessS_yes (A A' : Option Addr) (n c c' : Nat) (ps qs : List SessS) (w : World) (hr : RdK 3 w w.heap.size A (ps.map sessL)) (hr' : RdK 3 w w.heap.size A' (qs.map sessL)) (hp : RdEs w w.heap.size ps) (hp' : RdEs w w.heap.size qs) (he : qs.map SessS.data = ps.map SessS.data) (hl : ps.length = n) (hn : n ≤ 1048576) (hs : ∀ p ∈ ps, p.wins.length ≤ 1048576) :
    Calls Tryz.prog 33 #[.slice A n c, .slice A' n c'] w fun e w' => e = .returned (.bool true) ∧ Below w.heap.size w w' := by
  have HL := Lib.hid hl
  have HL' := Lib.hid (show qs.length = n by rw [map_len he]; exact hl)
  have HR := Lib.hid hr
  have HR' := Lib.hid hr'
  have HS := Lib.hid hs
  have HE := Lib.hid he
  have HPA := Lib.hid (fun W (h : Below w.heap.size w W) => (hp.below (Nat.le_refl _) h).more h.size)
  have HPB := Lib.hid (fun W (h : Below w.heap.size w W) => (hp'.below (Nat.le_refl _) h).more h.size)
  have hnn : (n != n) = false := by simp
  clear hl hr hr' hp hp' hs he
  go_enter Tryz.func33, Tryz.ntmps33
  go_wp2_with fail
  go_loopw [5] (fun i wr => ∃ k : Nat, k ≤ n ∧ i = .int .i64 k ∧ Below w.heap.size w wr) (fun i _ => n - (intOf i).toNat)
  case atStart => exact ⟨0, Nat.zero_le _, rfl, Below.refl _ _⟩
  case round =>
    obtain ⟨k, hk, rfl, hb⟩ := hrel
    have hz : w.heap.size ≤ wr.heap.size := hb.size
    by_cases hlt : k < n
    · have hl1 : k < ps.length := by rw [HL.out]; exact hlt
      have hl2 : k < qs.length := by rw [HL'.out]; exact hlt
      obtain ⟨b, o, rfl, hB, hsg0⟩ := rdK_seg (L := sessL) (fun _ => rfl) (HR.out.below (Nat.le_refl _) hb) hl1
      obtain ⟨b', o', rfl, hB', hsg1⟩ := rdK_seg (L := sessL) (fun _ => rfl) (HR'.out.below (Nat.le_refl _) hb) hl2
      have HB := Lib.hid hb
      have HSn := Lib.hid (HS.out _ (List.getElem_mem hl1))
      have HEn := Lib.hid (map_at HE.out k hl1 hl2)
      have HPa := Lib.hid (fun W (h : Below w.heap.size w W) => HPA.out W h _ (List.getElem_mem hl1))
      have HPb := Lib.hid (fun W (h : Below w.heap.size w W) => HPB.out W h _ (List.getElem_mem hl2))
      have hsa : seg wr b (o + k * 3) 3 = sessA ps[k] := hsg0
      have hsb : seg wr b' (o' + k * 3) 3 = sessA qs[k] := hsg1
      clear hb hsg0 hsg1
      generalize ps[k] = p at *
      generalize qs[k] = q at *
      go_wp2_with fail
      go_region_with ((go_at_call 77; refine (eqSess_yes p q _ (HPa.out _ (by first | exact HB.out | exact ⟨HB.out.os, HB.out.tape, HB.out.output, HB.out.size, HB.out.block⟩)) (HPb.out _ (by first | exact HB.out | exact ⟨HB.out.os, HB.out.tape, HB.out.output, HB.out.size, HB.out.block⟩)) HEn.out HSn.out).mono ?_; rintro e v1 ⟨rfl, hb1'⟩; have hb1 : Below wr.heap.size wr v1 := undrew hb1'; clear hb1'))
      all_goals
        have HB1 := Lib.hid (HB.out.trans (hb1.mono hz))
        clear hb1
        go_wp2_with fail
        exact ⟨⟨k + 1, by omega, by go_num, HB1.out⟩, by simp [intOf]; omega⟩
    · obtain rfl : n = k := by omega
      go_wp2_with fail
      go_ret
      exact ⟨rfl, hb⟩
end Go.Proofs.YtgnpgkkjcloghaaGreatDoor.St

