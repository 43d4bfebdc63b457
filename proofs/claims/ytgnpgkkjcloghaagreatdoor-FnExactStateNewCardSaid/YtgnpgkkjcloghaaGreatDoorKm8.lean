/- Texts that lay in modules of their own: StS, TrI1, TrAt. -/
import Derived.Test.YtgnpgkkjcloghaaGreatDoorStLb
import Derived.Deep.RegionWith
import Derived.Deep.DrawnRows
import Derived.Test.YtgnpgkkjcloghaaGreatDoorKm5
namespace Go.Proofs.YtgnpgkkjcloghaaGreatDoor.St
open Go.RowKit Go.Proofs.YtgnpgkkjcloghaaGreatDoor.Bytes Go.Proofs.YtgnpgkkjcloghaaGreatDoor.Rows_ Go.Proofs.YtgnpgkkjcloghaaGreatDoor.RowK Go.Proofs.YtgnpgkkjcloghaaGreatDoor.Gr Go.Proofs.YtgnpgkkjcloghaaGreatDoor.DOk Go.Proofs.YtgnpgkkjcloghaaGreatDoor.Opq Go.Proofs.YtgnpgkkjcloghaaGreatDoor.Sc
set_option linter.unusedVariables false
attribute [local go_sem ↓] Go.wp_at_zero Go.wp_at_succ lm_lawsVp lm_implVp lm_lawsScr lm_implScr lm_lawsTerm lm_implTerm lm_lawsPane lm_implPane lm_lawsWin lm_implWin lm_lawsSess lm_implSess lr_implVp lr_implTerm lr_implPane lr_implWin lr_implSess lr_lawsState lr_implState sm_Vp sm_Scr sm_Term sm_Pane sm_Win sm_Sess sr_Vp sr_Term sr_Pane sr_Win sr_Sess sr_State
attribute [local go_sem] RowZ.set rowOf_set rowOf_setRow_other rowOf_setRow_same rowOf_setCell_other blkOf_ptr isHead_ptr aggN_agg isPtr_ptr offOf_ptr setRow_alloc rowZ_at rowZ_past rowZ_setRow_other rowOf_alloc_at rowOf_alloc_past rowOf_drew seg_alloc_past seg_alloc_at seg_setCell_other seg_setRow_other seg_drew cut_term_scr cut_term_vp cut_pane_term vpA_size termA_size paneA_size winA_size sessA_size stA_size scrA_size one_vp one_scr one_term one_pane one_win one_sess one_st vp_at0 vp_at1 vp_at2 vp_at3 term_at0 term_at1 term_at2 term_at3 pane_at0 pane_at1 pane_at2 pane_at3 pane_at4 pane_at5 win_at0 win_at1 win_at2 win_at3 win_at4 sess_at0 sess_at1 sess_at2 st_at0 st_at1 st_at2 st_at3 st_at4 st_at5 st_at6
theorem szP_t (p : PaneS) : szT p.t ≤ szP p := by unfold szP; omega
theorem szW_t (p : WinS) : p.tree.length ≤ szW p := by unfold szW; omega
theorem szE_t (p : SessS) : p.wins.length ≤ szE p := by unfold szE; omega
set_option maxRecDepth 100000 in
set_option maxHeartbeats 1600000 in
theorem eqState_yes (s s' : StS) (w : World) (hr : RdSt w w.heap.size s) (hr' : RdSt w w.heap.size s') (he : s'.data = s.data) (hn : szSt s ≤ 1048576) :
    Calls Tryz.prog 9 #[.agg (stA s), .agg (stA s')] w fun e w' => e = .returned (.bool true) ∧ Below w.heap.size w w' := by
  simp only [StS.data, StD.mk.injEq] at he
  obtain ⟨q1, q2, q3, q4, q5, q6, q7⟩ := he
  have HR := Lib.hid (fun W (h : Below w.heap.size w W) => (hr.below (Nat.le_refl _) h).more h.size)
  have HR' := Lib.hid (fun W (h : Below w.heap.size w W) => (hr'.below (Nat.le_refl _) h).more h.size)
  unfold szSt at hn
  have n1 : s.panes.length ≤ 1048576 := by omega
  have n2 : s.wins.length ≤ 1048576 := by omega
  have n3 : s.sess.length ≤ 1048576 := by omega
  have N1 := Lib.hid (show ∀ p ∈ s.panes, szT p.t ≤ 1048576 from fun p hp => by have h1 := sumN_mem szP hp; have h2 := szP_t p; omega)
  have N2 := Lib.hid (show ∀ p ∈ s.wins, p.tree.length ≤ 1048576 from fun p hp => by have h1 := sumN_mem szW hp; have h2 := szW_t p; omega)
  have N3 := Lib.hid (show ∀ p ∈ s.sess, p.wins.length ≤ 1048576 from fun p hp => by have h1 := sumN_mem szE hp; have h2 := szE_t p; omega)
  have e0 : (s.w != s'.w) = false := by rw [q1]; simp
  have e1 : (s.h != s'.h) = false := by rw [q2]; simp
  have e2 : (s.lim != s'.lim) = false := by rw [q3]; simp
  have e3 : (s.next != s'.next) = false := by rw [q4]; simp
  have L1 := Lib.hid (map_len q5)
  have L2 := Lib.hid (map_len q6)
  have L3 := Lib.hid (map_len q7)
  have Q5 := Lib.hid q5
  have Q6 := Lib.hid q6
  have Q7 := Lib.hid q7
  clear hr hr' hn q1 q2 q3 q4 q5 q6 q7
  have l1 : w.heap.size < w.heap.size + 1 := by omega
  have l2 : w.heap.size < w.heap.size + 1 + 1 := by omega
  have l3 : w.heap.size + 1 < w.heap.size + 1 + 1 := by omega
  go_enter Tryz.func9, Tryz.ntmps9
  go_wp2_with fail
  rw [L1.out]
  refine (eqPaneS_yes s.pA s'.pA s.panes.length s.pc s'.pc s.panes s'.panes _ (HR.out _ ?hb).p (HR'.out _ ?hb').p (HR.out _ ?hb).pt (HR'.out _ ?hb').pt Q5.out rfl n1 N1.out).mono ?_
  case hb => repeat (first | exact Below.refl _ _ | refine Below.alloc ?_ (by simp <;> omega) _)
  case hb' => repeat (first | exact Below.refl _ _ | refine Below.alloc ?_ (by simp <;> omega) _)
  rintro e v1 ⟨rfl, hb1⟩
  have ne_ab : w.heap.size ≠ w.heap.size + 1 := by omega
  have ne_ba : w.heap.size + 1 ≠ w.heap.size := by omega
  have xa := RowB.below ((RowB.new w (stA s) 33).alloc _) hb1 (by simp <;> omega)
  have xb := RowB.below (RowB.new (w.alloc _) (stA s') _) hb1 (by simp <;> omega)
  simp only [World.size_alloc] at xb
  have XA := Lib.hid xa
  have XB := Lib.hid xb
  clear xa xb
  have za : w.heap.size < v1.heap.size := XA.out.lt
  have zb : w.heap.size + 1 < v1.heap.size := XB.out.lt
  have HB1 := Lib.hid (show Below w.heap.size w v1 from Below.trans (((Below.refl w.heap.size w).alloc (Nat.le_refl _) _).alloc (by simp) _) (hb1.mono (by simp <;> omega)))
  clear hb1
  have ca5 : v1.cell? ⟨w.heap.size, 5, none⟩ = some (.slice s.wA s.wins.length s.wc) := XA.out.cell 5
  have cb5 : v1.cell? ⟨w.heap.size + 1, 5, none⟩ = some (.slice s'.wA s.wins.length s'.wc) := by rw [XB.out.cell 5, ← L2.out]; rfl
  go_wp2_with fail
  refine (eqWinS_yes s.wA s'.wA s.wins.length s.wc s'.wc s.wins s'.wins _ (HR.out _ HB1.out).wr (HR'.out _ HB1.out).wr (HR.out _ HB1.out).wt (HR'.out _ HB1.out).wt Q6.out rfl n2 N2.out).mono ?_
  rintro e v2 ⟨rfl, hb2⟩
  clear ca5 cb5
  have HB2 := Lib.hid (HB1.out.trans (hb2.mono HB1.out.size))
  have XA2 := Lib.hid (RowB.below XA.out hb2 XA.out.lt)
  have XB2 := Lib.hid (RowB.below XB.out hb2 XB.out.lt)
  have za2 : w.heap.size < v2.heap.size := XA2.out.lt
  have zb2 : w.heap.size + 1 < v2.heap.size := XB2.out.lt
  clear hb2
  have ca6 : v2.cell? ⟨w.heap.size, 6, none⟩ = some (.slice s.eA s.sess.length s.ec) := XA2.out.cell 6
  have cb6 : v2.cell? ⟨w.heap.size + 1, 6, none⟩ = some (.slice s'.eA s.sess.length s'.ec) := by rw [XB2.out.cell 6, ← L3.out]; rfl
  go_wp2_with fail
  refine (eqSessS_yes s.eA s'.eA s.sess.length s.ec s'.ec s.sess s'.sess _ (HR.out _ HB2.out).e (HR'.out _ HB2.out).e (HR.out _ HB2.out).et (HR'.out _ HB2.out).et Q7.out rfl n3 N3.out).mono ?_
  rintro e v3 ⟨rfl, hb3⟩
  have HB3 := Lib.hid (HB2.out.trans (hb3.mono HB2.out.size))
  clear hb3
  go_wp2_with fail
  go_ret
  exact ⟨rfl, HB3.out⟩
end Go.Proofs.YtgnpgkkjcloghaaGreatDoor.St
namespace Go.Proofs.YtgnpgkkjcloghaaGreatDoor.Tr
open Go.RowKit Go.Proofs.YtgnpgkkjcloghaaGreatDoor.Bytes Go.Proofs.YtgnpgkkjcloghaaGreatDoor.Rows_ Go.Proofs.YtgnpgkkjcloghaaGreatDoor.RowK
set_option linter.unusedVariables false
abbrev nodeV (p : Int) (d : Bool) (f : Int) : Value := .agg #[.int .i64 p, .bool d, .int .i64 f]
def paneB (n : Int) : Bool := decide (1 ≤ n) && decide (n ≤ 1000000)
def sideB (n : Int) : Bool := decide (1 ≤ n) && decide (n ≤ 120)
set_option maxRecDepth 100000 in
set_option maxHeartbeats 800000 in
theorem isPane_any (n : Int) (w : World) :
    Calls Tryz.prog 58 #[.int .i64 n] w fun e w' => e = .returned (.bool (paneB n)) ∧ w = w' := by
  by_cases h1 : 1 ≤ n <;> by_cases h2 : n ≤ 1000000
  all_goals
    have HE := Lib.hid (show paneB n = (decide (1 ≤ n) && decide (n ≤ 1000000)) from rfl)
    go_enter Tryz.func58, Tryz.ntmps58
    go_wp2_with fail
    go_ret
    exact ⟨ret_bool (by rw [HE.out]; simp [h1, h2]), rfl⟩
set_option maxRecDepth 100000 in
set_option maxHeartbeats 800000 in
theorem isSide_any (n : Int) (w : World) :
    Calls Tryz.prog 100 #[.int .i64 n] w fun e w' => e = .returned (.bool (sideB n)) ∧ w = w' := by
  by_cases h1 : 1 ≤ n <;> by_cases h2 : n ≤ 120
  all_goals
    have HE := Lib.hid (show sideB n = (decide (1 ≤ n) && decide (n ≤ 120)) from rfl)
    go_enter Tryz.func100, Tryz.ntmps100
    go_wp2_with fail
    go_ret
    exact ⟨ret_bool (by rw [HE.out]; simp [h1, h2]), rfl⟩
set_option maxRecDepth 100000 in
set_option maxHeartbeats 1600000 in
theorem isLeaf_any (p f : Int) (d : Bool) (w : World) :
    Calls Tryz.prog 135 #[nodeV p d f] w fun e w' => e = .returned (.bool (leafB ⟨p, d, f⟩)) ∧ Below w.heap.size w w' := by
  have HE := Lib.hid (show leafB ⟨p, d, f⟩ = (paneB p && (!d && f == 0)) by simp [leafB, paneB, Bool.and_assoc])
  rw [HE.out]
  clear HE
  cases hp : paneB p <;> have HP := Lib.hid hp <;> clear hp <;> cases d <;> by_cases h0 : f = 0
  all_goals
    go_enter Tryz.func135, Tryz.ntmps135
    go_wp2_with fail
    refine (isPane_any p _).mono ?_
    rintro e v1 ⟨rfl, rfl⟩
    rw [HP.out]
    go_wp2_with fail
    go_ret
    exact ⟨ret_bool (by simp [h0]), (Below.refl _ _).alloc (Nat.le_refl _) _⟩
set_option maxRecDepth 100000 in
set_option maxHeartbeats 1600000 in
theorem isSplit_any (p f : Int) (d : Bool) (w : World) :
    Calls Tryz.prog 179 #[nodeV p d f] w fun e w' => e = .returned (.bool (splitB ⟨p, d, f⟩)) ∧ Below w.heap.size w w' := by
  have HE := Lib.hid (show splitB ⟨p, d, f⟩ = (p == 0 && sideB f) from rfl)
  rw [HE.out]
  clear HE
  cases hs : sideB f <;> have HS := Lib.hid hs <;> clear hs <;> by_cases h0 : p = 0
  all_goals
    go_enter Tryz.func179, Tryz.ntmps179
    go_wp2_with (go_at_call 100; refine (isSide_any f _).mono ?_; rintro e v1 ⟨rfl, rfl⟩; rw [HS.out])
    go_ret
    exact ⟨ret_bool (by simp [h0]), (Below.refl _ _).alloc (Nat.le_refl _) _⟩
end Go.Proofs.YtgnpgkkjcloghaaGreatDoor.Tr
namespace Go.Proofs.YtgnpgkkjcloghaaGreatDoor.Tr
open Go.RowKit Go.Proofs.YtgnpgkkjcloghaaGreatDoor.Bytes Go.Proofs.YtgnpgkkjcloghaaGreatDoor.Rows_ Go.Proofs.YtgnpgkkjcloghaaGreatDoor.RowK Go.Proofs.YtgnpgkkjcloghaaGreatDoor.Opq
open Tree
set_option linter.unusedVariables false
abbrev leafV (p : Int) : Value := .iface 204 (.agg #[.int .i64 p])
abbrev ptrV (g : Nat) : Value := .iface 205 (.pointer (some ⟨g, 0, none⟩))
abbrev splitC (d : Bool) (f : Int) (a b : Value) : Array Value := #[.bool d, .int .i64 f, a, b]
def TreeAt (w : World) : Tree → Nat → Nat → Value → Prop
  | leaf p, lo, hi, v => v = leafV p
  | split d f a b, lo, hi, v => ∃ g m va vb, v = ptrV g ∧ lo ≤ g ∧ g < m ∧ m ≤ hi ∧ RowB w g (splitC d f va vb) ∧ TreeAt w a (g + 1) m va ∧ TreeAt w b m hi vb
theorem TreeAt.below {w w' : World} {B : Nat} (hb : Below B w w') : ∀ {x : Tree} {lo hi : Nat} {v : Value}, TreeAt w x lo hi v → hi ≤ B → TreeAt w' x lo hi v
  | leaf p, _, _, _, h, _ => h
  | split d f a b, lo, hi, v, h, hB => by
    obtain ⟨g, m, va, vb, e, h1, h2, h3, hr, ha, hb'⟩ := h
    exact ⟨g, m, va, vb, e, h1, h2, h3, hr.below hb (by omega), TreeAt.below hb ha (by omega), TreeAt.below hb hb' hB⟩
theorem TreeAt.mono {w : World} : ∀ {x : Tree} {lo hi lo' hi' : Nat} {v : Value}, TreeAt w x lo hi v → lo' ≤ lo → hi ≤ hi' → TreeAt w x lo' hi' v
  | leaf p, _, _, _, _, _, h, _, _ => h
  | split d f a b, lo, hi, lo', hi', v, h, h1', h2' => by
    obtain ⟨g, m, va, vb, e, h1, h2, h3, hr, ha, hb'⟩ := h
    exact ⟨g, m, va, vb, e, by omega, h2, by omega, hr, ha, TreeAt.mono hb' (Nat.le_refl _) h2'⟩
theorem TreeAt.only {S : Nat → Prop} {w w' : World} (on : Only S w w') : ∀ {x : Tree} {lo hi : Nat} {v : Value}, TreeAt w x lo hi v → (∀ i, lo ≤ i → i < hi → ¬ S i) → TreeAt w' x lo hi v
  | leaf p, _, _, _, h, _ => h
  | split d f a b, lo, hi, v, h, hS => by
    obtain ⟨g, m, va, vb, e, h1, h2, h3, hr, ha, hb'⟩ := h
    exact ⟨g, m, va, vb, e, h1, h2, h3, hr.only on (hS g h1 (by omega)), TreeAt.only on ha (fun i hi hi' => hS i (by omega) (by omega)), TreeAt.only on hb' (fun i hi hi' => hS i (by omega) (by omega))⟩
theorem TreeAt.iface {w : World} : ∀ {x : Tree} {lo hi : Nat} {v : Value}, TreeAt w x lo hi v → ∃ t u, v = .iface t u
  | leaf p, _, _, _, h => ⟨_, _, h⟩
  | split d f a b, _, _, _, h => by obtain ⟨g, m, va, vb, e, _⟩ := h; exact ⟨_, _, e⟩
theorem TreeAt.drew {w : World} {x : Tree} {lo hi : Nat} {v : Value} (h : TreeAt w x lo hi v) (hh : hi ≤ w.heap.size) : TreeAt w.drew x lo hi v := TreeAt.below (w := w) (w' := w.drew) (B := w.heap.size) (show Below w.heap.size w w.drew from ⟨rfl, rfl, rfl, Nat.le_refl _, fun _ _ => rfl⟩) h hh
theorem RdN.tail {w : World} {B : Nat} {b o : Nat} {x : NodeD} {t : List NodeD} (h : RdN w B (some ⟨b, o, none⟩) (x :: t)) : RdN w B (some ⟨b, o + 3, none⟩) t := by
  intro hn
  obtain ⟨b', o', e, hlt, hc⟩ := h (by simp)
  injection e with e; injection e with e1 e2; subst e1 e2
  refine ⟨b, o + 3, rfl, hlt, fun i r hr j v hv => ?_⟩
  have := hc (i + 1) r (by simpa using hr) j v hv
  rw [show o + 3 + i * 3 + j = o + (i + 1) * 3 + j by omega]; exact this
theorem RdN.nil {w : World} {B : Nat} {A : Option Addr} : RdN w B A [] := fun h => by simp at h
/-- what reading a part off the front leaves -/
def ReadP (w : World) (B : Nat) (o : Option (Tree × List NodeD)) (e : Ending) (w' : World) : Prop :=
  Below w.heap.size w w' ∧ match o with
  | none => e = .returned (.tuple #[.nilIface, .slice none 0 0, .bool false])
  | some (x, r) => ∃ v A c, e = .returned (.tuple #[v, .slice A r.length c, .bool true]) ∧ TreeAt w' x w.heap.size w'.heap.size v ∧ RdN w' B A r ∧ r.length ≤ c ∧ c ≤ maxLen
end Go.Proofs.YtgnpgkkjcloghaaGreatDoor.Tr
