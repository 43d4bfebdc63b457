/- Panes, windows and sessions looked up: PaneAt, WinAt, SessAt in the model, WinOf on both sides. -/
import Derived.Test.YtgnpgkkjcloghaaGreatDoorKm8
import Derived.Test.YtgnpgkkjcloghaaGreatDoorKm11
import Derived.Deep.RegionWith
import Derived.Deep.DrawnRows
import Derived.Laws.EntriesVeiled
import Derived.Shelf.Abstract
namespace Go.Proofs.YtgnpgkkjcloghaaGreatDoor.St
open Go.RowKit Go.Proofs.YtgnpgkkjcloghaaGreatDoor.Bytes Go.Proofs.YtgnpgkkjcloghaaGreatDoor.Rows_ Go.Proofs.YtgnpgkkjcloghaaGreatDoor.RowK Go.Proofs.YtgnpgkkjcloghaaGreatDoor.Gr Go.Proofs.YtgnpgkkjcloghaaGreatDoor.DOk Go.Proofs.YtgnpgkkjcloghaaGreatDoor.Opq Go.Proofs.YtgnpgkkjcloghaaGreatDoor.Sc
set_option linter.unusedVariables false
attribute [local go_sem ↓] Go.wp_at_zero Go.wp_at_succ lm_lawsVp lm_implVp lm_lawsScr lm_implScr lm_lawsTerm lm_implTerm lm_lawsPane lm_implPane lm_lawsWin lm_implWin lm_lawsSess lm_implSess lr_implVp lr_implTerm lr_implPane lr_implWin lr_implSess lr_lawsState lr_implState sm_Vp sm_Scr sm_Term sm_Pane sm_Win sm_Sess sr_Vp sr_Term sr_Pane sr_Win sr_Sess sr_State
attribute [local go_sem] RowZ.set rowOf_set rowOf_setRow_other rowOf_setRow_same rowOf_setCell_other blkOf_ptr isHead_ptr aggN_agg isPtr_ptr offOf_ptr setRow_alloc rowZ_at rowZ_past rowZ_setRow_other rowOf_alloc_at rowOf_alloc_past rowOf_drew seg_alloc_past seg_alloc_at seg_setCell_other seg_setRow_other seg_drew cut_term_scr cut_term_vp cut_pane_term vpA_size termA_size paneA_size winA_size sessA_size stA_size scrA_size one_vp one_scr one_term one_pane one_win one_sess one_st vp_at0 vp_at1 vp_at2 vp_at3 term_at0 term_at1 term_at2 term_at3 pane_at0 pane_at1 pane_at2 pane_at3 pane_at4 pane_at5 win_at0 win_at1 win_at2 win_at3 win_at4 sess_at0 sess_at1 sess_at2 st_at0 st_at1 st_at2 st_at3 st_at4 st_at5 st_at6
def idx {α : Type} (p : α → Bool) (l : List α) : Int := match l.findIdx? p with | some i => (i : Int) | none => -1
theorem idx_hit {α : Type} {p : α → Bool} (l : List α) (k : Nat) (hk : k < l.length) (ha : ∀ j (hj : j < l.length), j < k → p l[j] = false) (h : p l[k] = true) : idx p l = (k : Int) := by unfold idx; rw [Tr.find_at l k hk ha h]
theorem idx_miss {α : Type} {p : α → Bool} (l : List α) (h : ∀ j (hj : j < l.length), p l[j] = false) : idx p l = -1 := by unfold idx; rw [Tr.find_none l h]
theorem idx_map {α β : Type} {f : α → β} {p : β → Bool} (l : List α) : idx p (l.map f) = idx (fun x => p (f x)) l := by unfold idx; rw [List.findIdx?_map]; rfl
theorem next_ {α : Type} {p : α → Bool} {l : List α} {k : Nat} (ha : ∀ j (hj : j < l.length), j < k → p l[j] = false) (hk : k < l.length) (h0 : p l[k] = false) : ∀ j (hj : j < l.length), j < k + 1 → p l[j] = false := fun j hj h => by
  rcases Nat.lt_or_ge j k with h1 | h1
  · exact ha j hj h1
  · have : j = k := by omega
    subst this; exact h0
theorem idxV_cases (zs : List Int) (z : Int) : (hasI zs z = true ∧ ∃ i : Nat, Tr.idxV zs z = (i : Int)) ∨ (hasI zs z = false ∧ Tr.idxV zs z = -1) := by
  have h := List.findIdx?_isSome (xs := zs) (p := (· == z))
  unfold hasI Tr.idxV
  rcases hf : zs.findIdx? (· == z) with _ | i
  · rw [hf] at h; exact .inr ⟨h.symm, rfl⟩
  · rw [hf] at h; exact .inl ⟨h.symm, i, rfl⟩
set_option maxRecDepth 100000 in
set_option maxHeartbeats 1600000 in
theorem containsI_any (A : Option Addr) (n c B : Nat) (zs : List Int) (z : Int) (w : World) (hr : RdI w B A zs) (hl : zs.length = n) (hn : n ≤ 1048576) :
    Calls Tryz.prog 67 #[.slice A n c, .int .i64 z] w fun e w' => e = .returned (.bool (hasI zs z)) ∧ w = w' := by
  have HI := Lib.hid (fun W (h : W = w) => h ▸ Tr.indexI_any A n c B zs z w hr hl (by omega))
  rcases idxV_cases zs z with ⟨h, i, hi⟩ | ⟨h, hi⟩
  · have hh := Lib.hid h
    rw [hi] at HI
    clear h hr hl
    go_enter Tryz.func67, Tryz.ntmps67
    go_wp2_with fail
    refine (HI.out _ rfl).mono ?_
    rintro e w' ⟨rfl, rfl⟩
    have hp : (0 : Int) ≤ (i : Int) := by omega
    go_wp2_with fail
    go_ret
    exact ⟨Bytes.ret_bool (by rw [hh.out]), rfl⟩
  · have hh := Lib.hid h
    rw [hi] at HI
    clear h hr hl
    go_enter Tryz.func67, Tryz.ntmps67
    go_wp2_with fail
    refine (HI.out _ rfl).mono ?_
    rintro e w' ⟨rfl, rfl⟩
    go_wp2_with fail
    go_ret
    exact ⟨Bytes.ret_bool (by rw [hh.out]), rfl⟩
def InWs (w : World) (B : Nat) (xs : List WinS) : Prop := ∀ x ∈ xs, Tr.InN w B x.tA x.tree.length x.tc x.tree
theorem InWs.below {w w' : World} {B : Nat} {xs : List WinS} (h : InWs w B xs) (hb : Below w.heap.size w w') : InWs w' B xs := fun x hx => (h x hx).below hb
set_option maxRecDepth 100000 in
set_option maxHeartbeats 1600000 in
theorem spec_WinAt_any (s : StS) (a : Int) (w : World) (hr : RdSt w w.heap.size s) (hn : szSt s ≤ 1048576) :
    Calls Tryz.prog 50 #[.agg (stA s), .int .i64 a] w fun e w' => e = .returned (.int .i64 (idx (fun d => d.id == a) s.data.wins)) ∧ Below w.heap.size w w' := by
  have HR := Lib.hid (fun W (h : Below w.heap.size w W) => (hr.below (Nat.le_refl _) h).more h.size)
  have n1 : s.wins.length ≤ 1048576 := by unfold szSt at hn; omega
  have HID := Lib.hid (show idx (fun d => d.id == a) s.data.wins = idx (fun p : WinS => p.id == a) s.wins from idx_map s.wins)
  clear hr hn
  obtain ⟨sw, sh, sl, sn, pA, pc, panes, wA, wc, wins, eA, ec, sess⟩ := s
  simp only [] at n1 HR HID
  have l1 : w.heap.size < w.heap.size + 1 := by omega
  have l2 : w.heap.size < w.heap.size + 1 + 1 := by omega
  have l3 : w.heap.size + 1 < w.heap.size + 1 + 1 := by omega
  go_enter Tryz.func50, Tryz.ntmps50
  go_wp2_with fail
  go_loopw [10] (fun i wr => ∃ k : Nat, k ≤ wins.length ∧ i = .int .i64 k ∧ Below w.heap.size w wr ∧ Hid (∀ j (hj : j < wins.length), j < k → (fun p : WinS => p.id == a) wins[j] = false)) (fun i _ => wins.length - (intOf i).toNat)
  case atStart => exact ⟨0, Nat.zero_le _, rfl, (Below.refl _ _).alloc (Nat.le_refl _) _, Lib.hid (fun j _ h => absurd h (by omega))⟩
  case round =>
    obtain ⟨k, hk, rfl, hb, HA⟩ := hrel
    have hz : w.heap.size ≤ wr.heap.size := hb.size
    by_cases hlt : k < wins.length
    · obtain ⟨b, o, rfl, hB, hsg0⟩ := rdK_seg (L := winL) (fun _ => rfl) (HR.out _ hb).wr hlt
      have HB := Lib.hid hb
      have hsg : seg wr b (o + k * 5) 5 = winA wins[k] := hsg0
      have HNX := Lib.hid (fun h0 => next_ (p := (fun p : WinS => p.id == a)) HA.out hlt h0)
      have HHit := Lib.hid (fun h0 => idx_hit (p := (fun p : WinS => p.id == a)) wins k hlt HA.out h0)
      have hbw : b < wr.heap.size := hB
      clear hb hsg0
      generalize wins[k] = p at *

      cases hq : (p.id == a)
      · have HN2 := Lib.hid (HNX.out hq)
        go_wp2_with fail
        exact ⟨⟨k + 1, by omega, by go_num, (HB.out.alloc hz _), HN2⟩, by simp [intOf]; omega⟩
      · have HF := Lib.hid (HHit.out hq)
        go_wp2_with fail
        go_ret
        exact ⟨Bytes.ret_int (by rw [HID.out]; exact HF.out.symm), (HB.out.alloc hz _)⟩
    · have hkl : k = wins.length := by omega
      subst hkl
      have HV := Lib.hid (idx_miss (p := (fun p : WinS => p.id == a)) wins (fun j hj => HA.out j hj hj))
      have HB := Lib.hid hb
      clear hb
      go_wp2_with fail
      go_ret
      exact ⟨Bytes.ret_int (by rw [HID.out]; exact HV.out.symm), HB.out⟩
set_option maxRecDepth 100000 in
set_option maxHeartbeats 1600000 in
theorem spec_SessAt_any (s : StS) (a : ByteArray) (w : World) (hr : RdSt w w.heap.size s) (hn : szSt s ≤ 1048576) :
    Calls Tryz.prog 49 #[.agg (stA s), .string a] w fun e w' => e = .returned (.int .i64 (idx (fun d => d.name.toList == a.toList) s.data.sess)) ∧ Below w.heap.size w w' := by
  have HR := Lib.hid (fun W (h : Below w.heap.size w W) => (hr.below (Nat.le_refl _) h).more h.size)
  have n1 : s.sess.length ≤ 1048576 := by unfold szSt at hn; omega
  have HID := Lib.hid (show idx (fun d => d.name.toList == a.toList) s.data.sess = idx (fun p : SessS => p.name.toList == a.toList) s.sess from idx_map s.sess)
  clear hr hn
  obtain ⟨sw, sh, sl, sn, pA, pc, panes, wA, wc, wins, eA, ec, sess⟩ := s
  simp only [] at n1 HR HID
  have l1 : w.heap.size < w.heap.size + 1 := by omega
  have l2 : w.heap.size < w.heap.size + 1 + 1 := by omega
  have l3 : w.heap.size + 1 < w.heap.size + 1 + 1 := by omega
  go_enter Tryz.func49, Tryz.ntmps49
  go_wp2_with fail
  go_loopw [10] (fun i wr => ∃ k : Nat, k ≤ sess.length ∧ i = .int .i64 k ∧ Below w.heap.size w wr ∧ Hid (∀ j (hj : j < sess.length), j < k → (fun p : SessS => p.name.toList == a.toList) sess[j] = false)) (fun i _ => sess.length - (intOf i).toNat)
  case atStart => exact ⟨0, Nat.zero_le _, rfl, (Below.refl _ _).alloc (Nat.le_refl _) _, Lib.hid (fun j _ h => absurd h (by omega))⟩
  case round =>
    obtain ⟨k, hk, rfl, hb, HA⟩ := hrel
    have hz : w.heap.size ≤ wr.heap.size := hb.size
    by_cases hlt : k < sess.length
    · obtain ⟨b, o, rfl, hB, hsg0⟩ := rdK_seg (L := sessL) (fun _ => rfl) (HR.out _ hb).e hlt
      have HB := Lib.hid hb
      have hsg : seg wr b (o + k * 3) 3 = sessA sess[k] := hsg0
      have HNX := Lib.hid (fun h0 => next_ (p := (fun p : SessS => p.name.toList == a.toList)) HA.out hlt h0)
      have HHit := Lib.hid (fun h0 => idx_hit (p := (fun p : SessS => p.name.toList == a.toList)) sess k hlt HA.out h0)
      have hbw : b < wr.heap.size := hB
      clear hb hsg0
      generalize sess[k] = p at *

      cases hq : (p.name.toList == a.toList)
      · have HN2 := Lib.hid (HNX.out hq)
        go_wp2_with fail
        exact ⟨⟨k + 1, by omega, by go_num, (HB.out.alloc hz _), HN2⟩, by simp [intOf]; omega⟩
      · have HF := Lib.hid (HHit.out hq)
        go_wp2_with fail
        go_ret
        exact ⟨Bytes.ret_int (by rw [HID.out]; exact HF.out.symm), (HB.out.alloc hz _)⟩
    · have hkl : k = sess.length := by omega
      subst hkl
      have HV := Lib.hid (idx_miss (p := (fun p : SessS => p.name.toList == a.toList)) sess (fun j hj => HA.out j hj hj))
      have HB := Lib.hid hb
      clear hb
      go_wp2_with fail
      go_ret
      exact ⟨Bytes.ret_int (by rw [HID.out]; exact HV.out.symm), HB.out⟩
set_option maxRecDepth 100000 in
set_option maxHeartbeats 1600000 in
theorem clo_WinOf (p : WinS) (a : Int) (Bc : Nat) (B : Nat) (w : World) (hB : Bc < w.heap.size) (hc : w.cell? ⟨Bc, 0, none⟩ = some (.int .i64 a)) (hi : Tr.InN w B p.tA p.tree.length p.tc p.tree) :
    Calls Tryz.prog 137 #[.agg (winA p), .pointer (some ⟨Bc, 0, none⟩)] w fun e w' => e = .returned (.bool (hasI (Tr.leavesD p.tree) a)) ∧ Below w.heap.size w w' := by
  have hne : Bc ≠ w.heap.size := by omega
  have hb1 := Lib.hid ((Below.refl w.heap.size w).alloc (Nat.le_refl _) (.cells (winA p) 90))
  have HI := Lib.hid (fun W (h : Below w.heap.size w W) => hi.below h)
  have HC := Lib.hid hc
  have hl : w.heap.size < w.heap.size + 1 := by omega
  clear hi
  go_enter Tryz.func137, Tryz.ntmps137
  go_wp2_with fail
  go_region_with (first
    | (go_at_call 70; refine (Tr.impl_Leaves_any p.tA p.tree.length p.tc B p.tree _ (HI.out _ (by first | exact hb1.out | exact ⟨hb1.out.os, hb1.out.tape, hb1.out.output, hb1.out.size, hb1.out.block⟩))).mono ?_; rintro e v1 ⟨A1, m1, c1, rfl, ho1, hbx⟩; have HO1 := Lib.hid ho1; have hm1 : m1 ≤ 31 := (by have := ho1.len; have := Tr.leavesD_len p.tree; omega); have hby : Below (w.heap.size + 1) (w.alloc (.cells (winA p) 90)) v1 := undrew (by simpa using hbx); have hcv : v1.cell? ⟨Bc, 0, none⟩ = some (.int .i64 a) := (hby.cell (p := ⟨Bc, 0, none⟩) (by show Bc < w.heap.size + 1; omega)).trans (((hb1.out).cell (p := ⟨Bc, 0, none⟩) hB).trans HC.out); have HBV := Lib.hid (hb1.out.trans (hby.mono (by omega))); clear ho1 hbx hby)
    | (go_at_call 67; refine (containsI_any A1 m1 c1 _ (Tr.leavesD p.tree) a _ HO1.out.rd HO1.out.len (by omega)).mono ?_; rintro e w1 ⟨rfl, rfl⟩))
  all_goals
    go_wp2_with fail
    go_ret
    exact ⟨rfl, HBV.out⟩
set_option maxRecDepth 100000 in
set_option maxHeartbeats 1600000 in
theorem indexFunc_WinOf (A : Option Addr) (n c : Nat) (ps : List WinS) (a : Int) (Bc : Nat) (B : Nat) (w : World) (hr : RdK 5 w w.heap.size A (ps.map winL)) (hl : ps.length = n) (hn : n ≤ 1048576) (hB : Bc < w.heap.size) (hc : w.cell? ⟨Bc, 0, none⟩ = some (.int .i64 a)) (hi : InWs w B ps) :
    Calls Tryz.prog 136 #[.slice A n c, .func (.func 137) #[] #[.pointer (some ⟨Bc, 0, none⟩)]] w fun e w' => e = .returned (.int .i64 (idx (fun p : WinS => hasI (Tr.leavesD p.tree) a) ps)) ∧ Below w.heap.size w w' := by
  have eg : ∀ args w, (callFunc 137 args).run Tryz.prog w = .ok (.enter 137 args) w := enters_of Tryz.func137 (by kernel_rfl) rfl
  have HR := Lib.hid hr
  have HL := Lib.hid hl
  have HC := Lib.hid hc
  have HI := Lib.hid hi
  clear hr hl hc hi
  go_enter Tryz.func136, Tryz.ntmps136
  go_wp2_with fail
  go_loopw [5, 8] (fun _ i wr => ∃ k : Nat, k ≤ n ∧ i = .int .i64 (k : Nat) ∧ Below w.heap.size w wr ∧ Hid (∀ j (hj : j < ps.length), j < k → (fun p : WinS => hasI (Tr.leavesD p.tree) a) ps[j] = false)) (fun _ i _ => n - (intOf i).toNat)
  case atStart => exact ⟨0, Nat.zero_le _, rfl, Below.refl _ _, Lib.hid (fun j _ h => absurd h (by omega))⟩
  case round =>
    obtain ⟨k, hk, rfl, hb, HA⟩ := hrel
    have hz : w.heap.size ≤ wr.heap.size := hb.size
    by_cases hlt : k < n
    · have hlt' : k < ps.length := by rw [HL.out]; exact hlt
      obtain ⟨b, o, rfl, hBb, hsg0⟩ := rdK_seg (L := winL) (fun _ => rfl) (HR.out.below (Nat.le_refl _) hb) hlt'
      have hsg : seg wr b (o + k * 5) 5 = winA ps[k] := hsg0
      have hcall := clo_WinOf ps[k] a Bc B wr (Nat.lt_of_lt_of_le hB hz) ((hb.cell (p := ⟨Bc, 0, none⟩) hB).trans HC.out) ((HI.out _ (List.getElem_mem hlt')).below hb)
      have HCALL := Lib.hid hcall
      have HNX := Lib.hid (fun h0 => next_ (p := (fun p : WinS => hasI (Tr.leavesD p.tree) a)) HA.out hlt' h0)
      have HHit := Lib.hid (fun h0 => idx_hit (p := (fun p : WinS => hasI (Tr.leavesD p.tree) a)) ps k hlt' HA.out h0)
      have HB := Lib.hid hb
      clear hb hcall hsg0
      generalize ps[k] = p at *

      cases hq : (hasI (Tr.leavesD p.tree) a)
      · have HN2 := Lib.hid (HNX.out hq)
        have hcall := HCALL.out
        rw [hq] at hcall
        clear HCALL
        go_wp2_with (go_at_call 137; refine hcall.mono ?_; rintro e w' ⟨rfl, hb'⟩)
        exact ⟨⟨k + 1, by omega, by go_num, HB.out.trans (hb'.mono hz), HN2⟩, by simp [intOf]; omega⟩
      · have HF := Lib.hid (HHit.out hq)
        have hcall := HCALL.out
        rw [hq] at hcall
        clear HCALL
        go_wp2_with (go_at_call 137; refine hcall.mono ?_; rintro e w' ⟨rfl, hb'⟩)
        go_ret
        exact ⟨Bytes.ret_int HF.out.symm, HB.out.trans (hb'.mono hz)⟩
    · obtain rfl : n = k := by omega
      have HV := Lib.hid (idx_miss (p := (fun p : WinS => hasI (Tr.leavesD p.tree) a)) ps (fun j hj => HA.out j hj (by have := HL.out; omega)))
      have HB := Lib.hid hb
      clear hb
      go_wp2_with fail
      go_ret
      exact ⟨Bytes.ret_int HV.out.symm, HB.out⟩
set_option maxRecDepth 100000 in
set_option maxHeartbeats 1600000 in
theorem impl_WinOf_any (B : Nat) (s : StS) (a : Int) (w : World) (hr : RdSt w w.heap.size s) (hn : szSt s ≤ 1048576) (hi : InWs w B s.wins) :
    Calls Tryz.prog 116 #[.agg (stA s), .int .i64 a] w fun e w' => e = .returned (.int .i64 (idx (fun d => hasI (Tr.leavesD d.tree) a) s.data.wins)) ∧ Below w.heap.size w w' := by
  have hmf : ∀ (fn : Fn) (first cap : Array Value) (w : World), (Instr.makeFunc fn first cap).run Tryz.prog w = .ok (.func fn first cap) w := fun _ _ _ _ => rfl
  have HR := Lib.hid (fun W (h : Below w.heap.size w W) => (hr.below (Nat.le_refl _) h).more h.size)
  have n1 : s.wins.length ≤ 1048576 := by unfold szSt at hn; omega
  have HI := Lib.hid hi
  have HID := Lib.hid (show idx (fun d => hasI (Tr.leavesD d.tree) a) s.data.wins = idx (fun p : WinS => hasI (Tr.leavesD p.tree) a) s.wins from idx_map s.wins)
  have HB0 := Lib.hid (((Below.refl w.heap.size w).alloc (Nat.le_refl _) (.cells (stA s) 33)).alloc (by simp) (.cells #[.int .i64 a] 3))
  have HCC := Lib.hid (show ((w.alloc (.cells (stA s) 33)).alloc (.cells #[.int .i64 a] 3)).cell? ⟨w.heap.size + 1, 0, none⟩ = some (.int .i64 a) from by rw [World.cell?_alloc_at _ _ _ _ (by simp)]; rfl)
  clear hr hn hi
  have l1 : w.heap.size < w.heap.size + 1 := by omega
  have l2 : w.heap.size < w.heap.size + 1 + 1 := by omega
  have l3 : w.heap.size + 1 < w.heap.size + 1 + 1 := by omega
  go_enter Tryz.func116, Tryz.ntmps116
  go_wp2_with (go_at_call 136; refine (indexFunc_WinOf s.wA s.wins.length s.wc s.wins a (w.heap.size + 1) B _ (HR.out _ HB0.out).wr rfl n1 (by simp) HCC.out (HI.out.below HB0.out)).mono ?_; rintro e w1 ⟨rfl, hb1⟩)
  go_ret
  exact ⟨Bytes.ret_int HID.out.symm, HB0.out.trans (hb1.mono (by simp <;> omega))⟩
end Go.Proofs.YtgnpgkkjcloghaaGreatDoor.St

