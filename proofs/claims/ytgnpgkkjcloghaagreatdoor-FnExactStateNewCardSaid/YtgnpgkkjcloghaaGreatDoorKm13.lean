/- Texts that lay in modules of their own: StB, Shows, RunePlain, RuneS, BegPlain. -/
import Derived.Test.YtgnpgkkjcloghaaGreatDoorStAa
import Derived.Test.YtgnpgkkjcloghaaGreatDoorKm12
import Derived.Deep.RegionWith
import Derived.Deep.DrawnRows
import Derived.BigQuiet
import Derived.Test.YtgnpgkkjcloghaaGreatDoorKm1
import Derived.Lib.DecodeN
import Derived.Test.YtgnpgkkjcloghaaGreatDoorKiA
import Derived.Laws.AppendOwnNone
import Derived.Laws.OwnMore
import Derived.Laws.BytesArg
import Derived.Deep.QuietTactic
import Derived.LoopN
import Derived.IntWalk
import Derived.Outline
namespace Go.Proofs.YtgnpgkkjcloghaaGreatDoor.St
open Go.RowKit Go.Proofs.YtgnpgkkjcloghaaGreatDoor.Bytes Go.Proofs.YtgnpgkkjcloghaaGreatDoor.Rows_ Go.Proofs.YtgnpgkkjcloghaaGreatDoor.RowK Go.Proofs.YtgnpgkkjcloghaaGreatDoor.Gr Go.Proofs.YtgnpgkkjcloghaaGreatDoor.DOk Go.Proofs.YtgnpgkkjcloghaaGreatDoor.Opq Go.Proofs.YtgnpgkkjcloghaaGreatDoor.Sc
set_option linter.unusedVariables false
attribute [local go_sem ↓] Go.wp_at_zero Go.wp_at_succ lm_lawsVp lm_implVp lm_lawsScr lm_implScr lm_lawsTerm lm_implTerm lm_lawsPane lm_implPane lm_lawsWin lm_implWin lm_lawsSess lm_implSess lr_implVp lr_implTerm lr_implPane lr_implWin lr_implSess lr_lawsState lr_implState sm_Vp sm_Scr sm_Term sm_Pane sm_Win sm_Sess sr_Vp sr_Term sr_Pane sr_Win sr_Sess sr_State
attribute [local go_sem] RowZ.set rowOf_set rowOf_setRow_other rowOf_setRow_same rowOf_setCell_other blkOf_ptr isHead_ptr aggN_agg isPtr_ptr offOf_ptr setRow_alloc rowZ_at rowZ_past rowZ_setRow_other rowOf_alloc_at rowOf_alloc_past rowOf_drew seg_alloc_past seg_alloc_at seg_setCell_other seg_setRow_other seg_drew cut_term_scr cut_term_vp cut_pane_term vpA_size termA_size paneA_size winA_size sessA_size stA_size scrA_size one_vp one_scr one_term one_pane one_win one_sess one_st vp_at0 vp_at1 vp_at2 vp_at3 term_at0 term_at1 term_at2 term_at3 pane_at0 pane_at1 pane_at2 pane_at3 pane_at4 pane_at5 win_at0 win_at1 win_at2 win_at3 win_at4 sess_at0 sess_at1 sess_at2 st_at0 st_at1 st_at2 st_at3 st_at4 st_at5 st_at6
def areaD (d : StD) (a : Int) : Int × Int := match d.wins.find? (fun d => hasI (Tr.leavesD d.tree) a) with
  | none => (0, 0)
  | some x => if (x.zoom && (x.active == a)) = true then (d.w, d.h) else ((Tr.pofR (Tr.listD x.tree d.w d.h) a).w, (Tr.pofR (Tr.listD x.tree d.w d.h) a).h)
theorem idx_cases {α : Type} (p : α → Bool) (l : List α) : (idx p l = -1 ∧ l.find? p = none) ∨ ∃ (i : Nat) (h : i < l.length), idx p l = (i : Int) ∧ l.find? p = some l[i] := by
  rcases h : l.findIdx? p with _ | i
  · refine .inl ⟨by unfold idx; rw [h], ?_⟩
    rw [List.findIdx?_eq_none_iff] at h
    rw [List.find?_eq_none]
    intro x hx
    rw [h x hx]; simp
  · obtain ⟨hi, h1, h2⟩ := List.findIdx?_eq_some_iff_getElem.1 h
    exact .inr ⟨i, hi, by unfold idx; rw [h], Tr.find_hit l i hi (fun j hj hlt => by have := h2 j hlt; simpa using this) h1⟩
theorem area_no {d : StD} {a : Int} (h : d.wins.find? (fun d => hasI (Tr.leavesD d.tree) a) = none) : areaD d a = (0, 0) := by unfold areaD; rw [h]
theorem area_zoom {d : StD} {a : Int} {x : WinD} (h : d.wins.find? (fun d => hasI (Tr.leavesD d.tree) a) = some x) (hz : (x.zoom && (x.active == a)) = true) : areaD d a = (d.w, d.h) := by unfold areaD; rw [h]; simp only [hz, if_true]
theorem area_at {d : StD} {a : Int} {x : WinD} (h : d.wins.find? (fun d => hasI (Tr.leavesD d.tree) a) = some x) (hz : (x.zoom && (x.active == a)) = false) : areaD d a = ((Tr.pofR (Tr.listD x.tree d.w d.h) a).w, (Tr.pofR (Tr.listD x.tree d.w d.h) a).h) := by unfold areaD; rw [h]; simp only [hz]; rfl
set_option maxRecDepth 100000 in
set_option maxHeartbeats 1600000 in
theorem impl_Area_any (B : Nat) (s : StS) (a : Int) (w : World) (hr : RdSt w w.heap.size s) (hn : szSt s ≤ 1048576) (hi : InWs w B s.wins) :
    Calls Tryz.prog 73 #[.agg (stA s), .int .i64 a] w fun e w' => e = .returned (.tuple #[.int .i64 (areaD s.data a).1, .int .i64 (areaD s.data a).2]) ∧ Below w.heap.size w w' := by
  have HR := Lib.hid (fun W (h : Below w.heap.size w W) => (hr.below (Nat.le_refl _) h).more h.size)
  have HI := Lib.hid (fun W (h : Below w.heap.size w W) => hi.below h)
  have n1 : s.wins.length ≤ 1048576 := by unfold szSt at hn; omega
  have HB0 := Lib.hid ((Below.refl w.heap.size w).alloc (Nat.le_refl _) (.cells (stA s) 33))
  have HW := Lib.hid (impl_WinOf_any B s a _ (HR.out _ HB0.out) hn (HI.out _ HB0.out))
  have HID := Lib.hid (show s.data.wins = s.wins.map WinS.data from rfl)
  have HDW := Lib.hid (show s.data.w = s.w ∧ s.data.h = s.h from ⟨rfl, rfl⟩)
  clear hr hn hi
  rcases idx_cases (fun d => hasI (Tr.leavesD d.tree) a) s.data.wins with ⟨hv, hf⟩ | ⟨i, hlt, hv, hf⟩
  · have HV := Lib.hid (area_no hf)
    rw [hv] at HW
    clear hv hf
    have l1 : w.heap.size < w.heap.size + 1 := by omega
    have l2 : w.heap.size < w.heap.size + 1 + 1 := by omega
    have l3 : w.heap.size + 1 < w.heap.size + 1 + 1 := by omega
    go_enter Tryz.func73, Tryz.ntmps73
    go_wp2_with fail
    refine HW.out.mono ?_
    rintro e v1 ⟨rfl, hb1⟩
    have HB1 := Lib.hid (HB0.out.trans (hb1.mono HB0.out.size))
    clear hb1
    go_wp2_with fail
    refine bodyPost_ret (v := .tuple #[.int .i64 0, .int .i64 0]) (by simp [results, Tryz.results73, go_sem]) rfl ⟨by rw [HV.out], ?_⟩
    exact HB1.out
  · have hlt' : i < s.wins.length := by simpa [StS.data] using hlt
    have hx : s.data.wins[i] = s.wins[i].data := by simp [StS.data]
    rw [hx] at hf
    rw [hv] at HW
    have HF := Lib.hid hf
    clear hv hf hx hlt
    cases hz : (s.wins[i].zoom && (s.wins[i].active == a))
    · have HV := Lib.hid (show areaD s.data a = ((Tr.pofR (Tr.listD s.wins[i].tree s.w s.h) a).w, (Tr.pofR (Tr.listD s.wins[i].tree s.w s.h) a).h) from area_at HF.out hz)
      have l1 : w.heap.size < w.heap.size + 1 := by omega
      have l2 : w.heap.size < w.heap.size + 1 + 1 := by omega
      have l3 : w.heap.size + 1 < w.heap.size + 1 + 1 := by omega
      go_enter Tryz.func73, Tryz.ntmps73
      go_wp2_with fail
      refine HW.out.mono ?_
      rintro e v1 ⟨rfl, hb1⟩
      have XS := Lib.hid (RowB.below (RowB.new w (stA s) 33) hb1 (by simp))
      have zs : w.heap.size < v1.heap.size := XS.out.lt
      have HB1 := Lib.hid (HB0.out.trans (hb1.mono HB0.out.size))
      have cs0 : v1.cell? ⟨w.heap.size, 0, none⟩ = some (.int .i64 s.w) := XS.out.cell 0
      have cs1 : v1.cell? ⟨w.heap.size, 1, none⟩ = some (.int .i64 s.h) := XS.out.cell 1
      have cs5 : v1.cell? ⟨w.heap.size, 5, none⟩ = some (.slice s.wA s.wins.length s.wc) := XS.out.cell 5
      clear hb1
      obtain ⟨b, o, hA, hBb, hsg0⟩ := rdK_seg (L := winL) (fun _ => rfl) (HR.out _ HB1.out).wr hlt'
      have hsg : seg v1 b (o + i * 5) 5 = winA s.wins[i] := hsg0
      rw [hA] at cs5
      have HIN := Lib.hid (HI.out _ HB1.out _ (List.getElem_mem hlt'))
      clear hsg0 hA HF HW HID
      have hi0 : ¬ ((i : Int) < 0) := by omega
      generalize s.wins[i] = x at *
      generalize hsz : s.wins.length = n at *
      have HQ0 := Lib.hid hz
      clear hz hsz
      cases hz1 : x.zoom
      · go_wp2_with fail
        refine (Tr.impl_PlaceOf_any x.tA x.tree.length x.tc B x.tree s.w s.h a _ (HIN.out.below ((Below.refl _ _).alloc (Nat.le_refl _) _))).mono ?_
        rintro e v2 ⟨rfl, hb2⟩
        have HB2 := Lib.hid ((HB1.out.alloc HB1.out.size (.cells (winA x) 90)).trans (hb2.mono (by have := HB1.out.size; simp; omega)))
        clear hb2
        generalize Tr.pofR (Tr.listD x.tree s.w s.h) a = r at *
        obtain ⟨r0, r1, r2, r3, r4⟩ := r
        generalize (Tr.pofD (Tr.listD x.tree s.w s.h) a).isSome = okp at *
        go_wp2_with fail
        go_quiet (fail)
        go_wp2_with fail
        refine bodyPost_ret (v := .tuple #[.int .i64 r3, .int .i64 r4]) (by simp [results, Tryz.results73, go_sem]) rfl ⟨by rw [HV.out], ?_⟩
        exact below_drewN (HB2.out.alloc HB2.out.size _) _
      · have hz2 : (x.active == a) = false := by have := HQ0.out; rw [hz1] at this; simpa using this
        go_wp2_with fail
        refine (Tr.impl_PlaceOf_any x.tA x.tree.length x.tc B x.tree s.w s.h a _ (HIN.out.below ((Below.refl _ _).alloc (Nat.le_refl _) _))).mono ?_
        rintro e v2 ⟨rfl, hb2⟩
        have HB2 := Lib.hid ((HB1.out.alloc HB1.out.size (.cells (winA x) 90)).trans (hb2.mono (by have := HB1.out.size; simp; omega)))
        clear hb2
        generalize Tr.pofR (Tr.listD x.tree s.w s.h) a = r at *
        obtain ⟨r0, r1, r2, r3, r4⟩ := r
        generalize (Tr.pofD (Tr.listD x.tree s.w s.h) a).isSome = okp at *
        go_wp2_with fail
        go_quiet (fail)
        go_wp2_with fail
        refine bodyPost_ret (v := .tuple #[.int .i64 r3, .int .i64 r4]) (by simp [results, Tryz.results73, go_sem]) rfl ⟨by rw [HV.out], ?_⟩
        exact below_drewN (HB2.out.alloc HB2.out.size _) _
    · have HV := Lib.hid (show areaD s.data a = (s.w, s.h) from area_zoom HF.out hz)
      have l1 : w.heap.size < w.heap.size + 1 := by omega
      have l2 : w.heap.size < w.heap.size + 1 + 1 := by omega
      have l3 : w.heap.size + 1 < w.heap.size + 1 + 1 := by omega
      go_enter Tryz.func73, Tryz.ntmps73
      go_wp2_with fail
      refine HW.out.mono ?_
      rintro e v1 ⟨rfl, hb1⟩
      have XS := Lib.hid (RowB.below (RowB.new w (stA s) 33) hb1 (by simp))
      have zs : w.heap.size < v1.heap.size := XS.out.lt
      have HB1 := Lib.hid (HB0.out.trans (hb1.mono HB0.out.size))
      have cs0 : v1.cell? ⟨w.heap.size, 0, none⟩ = some (.int .i64 s.w) := XS.out.cell 0
      have cs1 : v1.cell? ⟨w.heap.size, 1, none⟩ = some (.int .i64 s.h) := XS.out.cell 1
      have cs5 : v1.cell? ⟨w.heap.size, 5, none⟩ = some (.slice s.wA s.wins.length s.wc) := XS.out.cell 5
      clear hb1
      obtain ⟨b, o, hA, hBb, hsg0⟩ := rdK_seg (L := winL) (fun _ => rfl) (HR.out _ HB1.out).wr hlt'
      have hsg : seg v1 b (o + i * 5) 5 = winA s.wins[i] := hsg0
      rw [hA] at cs5
      have HIN := Lib.hid (HI.out _ HB1.out _ (List.getElem_mem hlt'))
      clear hsg0 hA HF HW HID
      have hi0 : ¬ ((i : Int) < 0) := by omega
      generalize s.wins[i] = x at *
      generalize hsz : s.wins.length = n at *
      have HQ0 := Lib.hid hz
      clear hz hsz
      have hz1 : x.zoom = true := by have := HQ0.out; simp at this; exact this.1
      have hz2 : (x.active == a) = true := by have := HQ0.out; simp at this; simpa using this.2
      go_wp2_with fail
      go_quiet (fail)
      go_wp2_with fail
      refine bodyPost_ret (v := .tuple #[.int .i64 s.w, .int .i64 s.h]) (by simp [results, Tryz.results73, go_sem]) rfl ⟨by rw [HV.out], ?_⟩
      exact below_drewN (HB1.out.alloc HB1.out.size _) _
end Go.Proofs.YtgnpgkkjcloghaaGreatDoor.St
namespace Go.Proofs.YtgnpgkkjcloghaaGreatDoor.Rune
open Go.RowKit
set_option linter.unusedVariables false
set_option maxRecDepth 100000 in
set_option maxHeartbeats 400000 in
theorem impl_Shows_any (r : Int) (w : World) : Calls Tryz.prog 192 #[.int .i64 r] w fun e w' => e = .returned (.bool (showB r)) ∧ w = w' := by
  go_enter Tryz.func192, Tryz.ntmps192
  go_wp2
  all_goals
    go_ret
    exact ⟨rt_bool (by unfold showB; rw [Bool.eq_iff_iff]; simp <;> omega), rfl⟩
end Go.Proofs.YtgnpgkkjcloghaaGreatDoor.Rune
namespace Go.Proofs.YtgnpgkkjcloghaaGreatDoor.RunePl
set_option linter.unusedVariables false
def showP (r : Int) : Prop := (32 ≤ r ∧ r ≤ 126) ∨ (160 ≤ r ∧ r ≤ 65535 ∧ (r < 55296 ∨ 57343 < r))
instance (r : Int) : Decidable (showP r) := by unfold showP; infer_instance
def one (b0 : Int) : Prop := showP b0 ∧ b0 < 128
def r2 (b0 b1 : Int) : Int := (b0 - 192) * 64 + b1 - 128
def r3 (b0 b1 b2 : Int) : Int := ((b0 - 224) * 64 + b1 - 128) * 64 + b2 - 128
def two (b0 b1 : Int) : Prop := showP (r2 b0 b1) ∧ ¬ r2 b0 b1 < 128 ∧ r2 b0 b1 < 2048 ∧ 192 + r2 b0 b1 / 64 = b0 ∧ 128 + r2 b0 b1 % 64 = b1
def three (b0 b1 b2 : Int) : Prop := showP (r3 b0 b1 b2) ∧ ¬ r3 b0 b1 b2 < 2048 ∧ 224 + r3 b0 b1 b2 / 4096 = b0 ∧ 128 + r3 b0 b1 b2 / 64 % 64 = b1 ∧ 128 + r3 b0 b1 b2 % 64 = b2
instance (b0 : Int) : Decidable (one b0) := by unfold one; infer_instance
instance (b0 b1 : Int) : Decidable (two b0 b1) := by unfold two; infer_instance
instance (b0 b1 b2 : Int) : Decidable (three b0 b1 b2) := by unfold three; infer_instance
end Go.Proofs.YtgnpgkkjcloghaaGreatDoor.RunePl
namespace Go.Proofs.YtgnpgkkjcloghaaGreatDoor.Rune
open Go.RowKit Go.Proofs.YtgnpgkkjcloghaaGreatDoor.Bytes Go.Proofs.YtgnpgkkjcloghaaGreatDoor.RunePl
set_option linter.unusedVariables false
theorem toList_inj {a b : ByteArray} (h : a.toList = b.toList) : a = b := by
  rw [Lib.toList_data, Lib.toList_data] at h
  exact ByteArray.ext (by simpa using h)
end Go.Proofs.YtgnpgkkjcloghaaGreatDoor.Rune
namespace Go.Proofs.YtgnpgkkjcloghaaGreatDoor.Rune
open Go.Proofs.YtgnpgkkjcloghaaGreatDoor.RunePl Go.Proofs.YtgnpgkkjcloghaaGreatDoor.Bytes
set_option linter.unusedVariables false
def begP (zs : List Int) : Prop :=
  (zs.length = 1 ∧ 194 ≤ zs.getD 0 0 ∧ zs.getD 0 0 < 240) ∨
  (zs.length = 2 ∧ 224 ≤ zs.getD 0 0 ∧ zs.getD 0 0 < 240 ∧ 128 ≤ zs.getD 1 0 ∧ zs.getD 1 0 ≤ 191 ∧ (zs.getD 0 0 = 224 → 160 ≤ zs.getD 1 0) ∧ (zs.getD 0 0 = 237 → zs.getD 1 0 ≤ 159))
instance (zs : List Int) : Decidable (begP zs) := by unfold begP; infer_instance
def begB (zs : List Int) : Bool := decide (begP zs)
theorem natb {b : Int} (h0 : 0 ≤ b) (h1 : b < 256) : ∃ m : Nat, b = m ∧ m < 256 := ⟨b.toNat, by omega, by omega⟩
end Go.Proofs.YtgnpgkkjcloghaaGreatDoor.Rune
