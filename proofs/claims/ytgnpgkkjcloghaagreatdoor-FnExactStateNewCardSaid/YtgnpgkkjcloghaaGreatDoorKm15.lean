/- Texts that lay in modules of their own: ChopK, GrOkD, AttrB, GrB. -/
import Derived.Test.YtgnpgkkjcloghaaGreatDoorRows
import Derived.WalkKit
import Derived.Orders
import Derived.Outline
import Derived.Test.YtgnpgkkjcloghaaGreatDoorKm1
import Derived.Test.YtgnpgkkjcloghaaGreatDoorKm13
namespace Go.Proofs.YtgnpgkkjcloghaaGreatDoor.Chop
open Go.RowKit
set_option linter.unusedVariables false
def ChopQ (Q : Exit → Act → World → Prop) (R : Act → World → Prop) : Exit → Act → World → Prop
  | .normal, a, w => R a w
  | e, a, w => Q e a w
theorem oper_chop {P : Program} {o : Oper} {a : Act} {w : World} {K K' : Act → World → Prop} {Q : Exit → Act → World → Prop} {R : Act → World → Prop} (h : ∀ a w, K a w → K' a w) (hh : o.wp P a w K (ChopQ Q R)) : o.wp P a w K' Q := by
  unfold Oper.wp at *
  generalize (execOp a.eval o).run P w = r at *
  cases r with
  | ok n w' =>
    cases n <;> simp only [Oper.upon] at hh ⊢ <;>
      first
        | exact h _ _ hh
        | exact Calls.mono hh (fun e w'' he => by cases e <;> first | exact h _ _ he | exact he)
        | exact Rows.mono hh (fun _ _ he => h _ _ he)
  | halt x w' => cases x <;> simp only [Oper.upon] at hh ⊢ <;> exact hh
theorem list_chop {P : Program} {ops : Array Oper} {Q : Exit → Act → World → Prop} {R : Act → World → Prop} {l2 : List Oper} (hR : ∀ a w, R a w → wpList P ops Q l2 a w) : ∀ (l1 : List Oper) (a : Act) (w : World), wpList P ops (ChopQ Q R) l1 a w → wpList P ops Q (l1 ++ l2) a w
  | [], a, w, h => hR a w h
  | o :: l1, a, w, h => by
    rw [List.cons_append]
    unfold wpList at h ⊢
    split
    · rename_i hw
      rw [if_pos hw] at h
      rcases h with h | ⟨h1, h2⟩
      · exact .inl (oper_chop (fun a w h => list_chop hR l1 a w h) h)
      · exact .inr ⟨h1, h2⟩
    · rename_i hw
      rw [if_neg hw] at h
      exact list_chop hR l1 _ _ h
/-- the first n operations, behind which a relation of one's own holds -/
theorem chop_rel (n : Nat) (R : Act → World → Prop) {P : Program} {ops : Array Oper} {Q : Exit → Act → World → Prop} {l : List Oper} {a : Act} {w : World}
    (h1 : ∀ Q' : Exit → Act → World → Prop, (∀ a w, R a w → Q' .normal a w) → wpList P ops Q' (l.take n) a w) (h2 : ∀ a w, R a w → wpList P ops Q (l.drop n) a w) : wpList P ops Q l a w := by
  have := list_chop (Q := Q) (R := R) (l2 := l.drop n) h2 _ _ _ (h1 (ChopQ Q R) (fun _ _ h => h))
  rwa [List.take_append_drop] at this
/-- what is known of a frame: its size, and some slots -/
structure Slot (N : Nat) (T : Array Value) (i : Nat) (v : Value) : Prop where
  at_ : T[i]? = some v
theorem forget {P : Program} {ops : Array Oper} {Q : Exit → Act → World → Prop} {l : List Oper} {T : Array Value} {d : List Deferred} {w : World} (h : ∀ T', T' = T → wpList P ops Q l ⟨T', d⟩ w) : wpList P ops Q l ⟨T, d⟩ w := h T rfl
theorem at_same (T : Array Value) (i : Nat) (v : Value) (h : i < T.size) : (T.setIfInBounds i v)[i]? = some v := by simp [h]
theorem at_ne (T : Array Value) (i j : Nat) (v : Value) (h : i ≠ j) : (T.setIfInBounds i v)[j]? = T[j]? := by simp [h]
theorem getD_same (T : Array Value) (i : Nat) (v : Value) (h : i < T.size) : (T.setIfInBounds i v).getD i undef = v := by simp [h]
theorem getD_ne (T : Array Value) (i j : Nat) (v : Value) (h : i ≠ j) : (T.setIfInBounds i v).getD j undef = T.getD j undef := by simp [h]
theorem elem_of {T : Array Value} {i : Nat} {v : Value} (h : T[i]? = some v) (hi : i < T.size) : T[i] = v := by rw [Array.getElem?_eq_getElem hi] at h; exact Option.some.inj h
theorem getD_of {T : Array Value} {i : Nat} {v : Value} (h : T[i]? = some v) : T.getD i undef = v := by simp [h]
end Go.Proofs.YtgnpgkkjcloghaaGreatDoor.Chop
namespace Go.Proofs.YtgnpgkkjcloghaaGreatDoor.Gr
open Go.RowKit Go.Proofs.YtgnpgkkjcloghaaGreatDoor.Bytes Go.Proofs.YtgnpgkkjcloghaaGreatDoor.Rows_ Go.Proofs.YtgnpgkkjcloghaaGreatDoor.RowK
set_option linter.unusedVariables false
def sizeB (gw gh : Int) : Bool := decide (1 ≤ gw ∧ gw ≤ 120 ∧ 1 ≤ gh ∧ gh ≤ 120 ∧ gw * gh ≤ 4000)
def okG (gw gh : Int) (cs : List CellD) : Bool := sizeB gw gh && (decide ((cs.length : Int) = gw * gh) && cs.all okC)
theorem sizeB_f {gw gh : Int} (h : ¬ (1 ≤ gw ∧ gw ≤ 120 ∧ 1 ≤ gh ∧ gh ≤ 120 ∧ gw * gh ≤ 4000)) : sizeB gw gh = false := decide_eq_false h
theorem sizeB_t {gw gh : Int} (h : 1 ≤ gw ∧ gw ≤ 120 ∧ 1 ≤ gh ∧ gh ≤ 120 ∧ gw * gh ≤ 4000) : sizeB gw gh = true := decide_eq_true h
theorem of_sizeB {gw gh : Int} (h : sizeB gw gh = true) : 1 ≤ gw ∧ gw ≤ 120 ∧ 1 ≤ gh ∧ gh ≤ 120 ∧ gw * gh ≤ 4000 := of_decide_eq_true h
theorem mul_bd {gw gh : Int} (h1 : 1 ≤ gw) (h2 : gw ≤ 120) (h3 : 1 ≤ gh) (h4 : gh ≤ 120) : 1 ≤ gw * gh ∧ gw * gh ≤ 14400 := by
  have a := Int.mul_le_mul h1 h3 (by omega) (by omega)
  have b := Int.mul_le_mul h2 h4 (by omega) (by omega)
  omega
theorem all_no {cs : List CellD} {k : Nat} (h : k < cs.length) (ho : okC cs[k] = false) : cs.all okC = false := by
  rw [List.all_eq_false]; exact ⟨cs[k], List.getElem_mem h, by rw [ho]; simp⟩
theorem all_next {cs : List CellD} {k : Nat} (h : k < cs.length) (ha : (cs.take k).all okC = true) (ho : okC cs[k] = true) : (cs.take (k + 1)).all okC = true := by
  rw [List.take_succ_eq_append_getElem h, List.all_append, ha]; simp [ho]

def sideG (n : Int) : Bool := decide (1 ≤ n) && decide (n ≤ 120)
set_option maxRecDepth 100000 in
theorem isSideG_any (n : Int) (w : World) : Calls Tryz.prog 100 #[.int .i64 n] w fun e w' => e = .returned (.bool (sideG n)) ∧ w = w' := by
  by_cases h1 : 1 ≤ n <;> by_cases h2 : n ≤ 120
  all_goals
    have HE := Lib.hid (show sideG n = (decide (1 ≤ n) && decide (n ≤ 120)) from rfl)
    go_enter Tryz.func100, Tryz.ntmps100
    go_wp2_with fail
    go_ret
    exact ⟨Attr.rt_bool (by rw [HE.out]; simp [h1, h2]), rfl⟩
theorem sideG_t {n : Int} (h : sideG n = true) : 1 ≤ n ∧ n ≤ 120 := by simpa [sideG] using h
theorem sideG_f {n : Int} (h : sideG n = false) : ¬ (1 ≤ n ∧ n ≤ 120) := fun k => by simp [sideG, k] at h
set_option maxRecDepth 100000 in
set_option maxHeartbeats 800000 in
theorem isGridSize_any (gw gh : Int) (w : World) :
    Calls Tryz.prog 56 #[.int .i64 gw, .int .i64 gh] w fun e w' => e = .returned (.bool (sizeB gw gh)) ∧ w = w' := by
  cases hs1 : sideG gw <;> have S1 := Lib.hid hs1 <;> clear hs1
  · have HE := Lib.hid (sizeB_f (gw := gw) (gh := gh) (fun k => sideG_f S1.out ⟨k.1, k.2.1⟩))
    go_enter Tryz.func56, Tryz.ntmps56
    go_wp2_with (go_at_call 100; refine (isSideG_any gw _).mono ?_; rintro e v ⟨rfl, rfl⟩; rw [S1.out])
    go_ret
    exact ⟨Attr.rt_bool HE.out.symm, rfl⟩
  · cases hs2 : sideG gh <;> have S2 := Lib.hid hs2 <;> clear hs2
    · have HE := Lib.hid (sizeB_f (gw := gw) (gh := gh) (fun k => sideG_f S2.out ⟨k.2.2.1, k.2.2.2.1⟩))
      go_enter Tryz.func56, Tryz.ntmps56
      go_wp2_with fail
      refine (isSideG_any gw _).mono ?_
      rintro e v ⟨rfl, rfl⟩
      rw [S1.out]
      go_wp2_with fail
      refine (isSideG_any gh _).mono ?_
      rintro e v ⟨rfl, rfl⟩
      rw [S2.out]
      go_wp2_with fail
      go_ret
      exact ⟨Attr.rt_bool HE.out.symm, rfl⟩
    · obtain ⟨h1, h2⟩ := sideG_t S1.out
      obtain ⟨h3, h4⟩ := sideG_t S2.out
      obtain ⟨m1, m2⟩ := mul_bd h1 h2 h3 h4
      have HE := Lib.hid (show sizeB gw gh = decide (gw * gh ≤ 4000) by unfold sizeB; simp [h1, h2, h3, h4])
      go_enter Tryz.func56, Tryz.ntmps56
      go_wp2_with fail
      refine (isSideG_any gw _).mono ?_
      rintro e v ⟨rfl, rfl⟩
      rw [S1.out]
      go_wp2_with fail
      refine (isSideG_any gh _).mono ?_
      rintro e v ⟨rfl, rfl⟩
      rw [S2.out]
      go_wp2_with fail
      go_ret
      exact ⟨Attr.rt_bool HE.out.symm, rfl⟩

end Go.Proofs.YtgnpgkkjcloghaaGreatDoor.Gr
namespace Go.Proofs.YtgnpgkkjcloghaaGreatDoor.Attr
open Go.RowKit
set_option linter.unusedVariables false
def colB (n : Int) : Bool := decide (0 ≤ n ∧ n ≤ 8)
set_option maxRecDepth 100000 in
set_option maxHeartbeats 400000 in
theorem isColor_any (n : Int) (w : World) :
    Calls Tryz.prog 177 #[.int .i64 n] w fun e w' => e = .returned (.bool (colB n)) ∧ w = w' := by
  go_enter Tryz.func177, Tryz.ntmps177
  go_wp2
  all_goals
    go_ret
    exact ⟨rt_bool (by unfold colB; rw [Bool.eq_iff_iff]; simp <;> omega), rfl⟩
theorem okA_split (fg bg : Int) : okA fg bg = (colB fg && colB bg) := by
  unfold okA colB; rw [Bool.eq_iff_iff]; simp; omega

set_option maxRecDepth 100000 in
set_option maxHeartbeats 400000 in
theorem impl_AttrOk_any (fg bg : Int) (b u t : Bool) (w : World) :
    Calls Tryz.prog 158 #[.agg #[.int .i64 fg, .int .i64 bg, .bool b, .bool u, .bool t]] w fun e w' => e = .returned (.bool (okA fg bg)) ∧ Below w.heap.size w w' := by
  cases hf : colB fg <;> have HF := Lib.hid hf <;> clear hf <;> cases hg : colB bg <;> have HG := Lib.hid hg <;> clear hg <;>
  · go_enter Tryz.func158, Tryz.ntmps158
    go_wp2_with (go_at_call 177; refine (isColor_any _ _).mono ?_; rintro e w' ⟨rfl, rfl⟩; (first | rw [HF.out] | rw [HG.out]))
    go_ret
    exact ⟨rt_bool (by rw [okA_split, HF.out, HG.out]; rfl), (Below.refl _ _).alloc (Nat.le_refl _) _⟩
end Go.Proofs.YtgnpgkkjcloghaaGreatDoor.Attr
namespace Go.Proofs.YtgnpgkkjcloghaaGreatDoor.Gr
open Go.RowKit Go.Proofs.YtgnpgkkjcloghaaGreatDoor.Bytes Go.Proofs.YtgnpgkkjcloghaaGreatDoor.Rows_ Go.Proofs.YtgnpgkkjcloghaaGreatDoor.Attr Go.Proofs.YtgnpgkkjcloghaaGreatDoor.Rune
set_option linter.unusedVariables false
set_option maxRecDepth 100000 in
set_option maxHeartbeats 800000 in
theorem impl_CellOk_any (r fg bg : Int) (b u t : Bool) (w : World) :
    Calls Tryz.prog 189 #[.agg #[.int .i64 r, .int .i64 fg, .int .i64 bg, .bool b, .bool u, .bool t]] w fun e w' => e = .returned (.bool (showB r && okA fg bg)) ∧ Below w.heap.size w w' := by
  have h0 := Lib.hid ((Below.refl w.heap.size w).alloc (Nat.le_refl _) (.cells #[.int .i64 r, .int .i64 fg, .int .i64 bg, .bool b, .bool u, .bool t] 86))
  cases hs : showB r <;> have HS := Lib.hid hs <;> clear hs
  · go_enter Tryz.func189, Tryz.ntmps189
    go_wp2_with fail
    refine (impl_Shows_any _ _).mono ?_
    rintro e v1 ⟨rfl, rfl⟩
    rw [HS.out]
    go_wp2_with fail
    go_ret
    exact ⟨rfl, h0.out⟩
  · cases ha : okA fg bg <;> have HA := Lib.hid ha <;> clear ha <;>
    · go_enter Tryz.func189, Tryz.ntmps189
      go_wp2_with fail
      refine (impl_Shows_any _ _).mono ?_
      rintro e v1 ⟨rfl, rfl⟩
      rw [HS.out]
      go_wp2_with fail
      refine (impl_AttrOk_any _ _ _ _ _ _).mono ?_
      rintro e v1 ⟨rfl, hb1⟩
      rw [HA.out]
      have h1 := Lib.hid (h0.out.trans (hb1.mono (by simp)))
      clear hb1
      go_wp2_with fail
      go_ret
      exact ⟨rfl, h1.out⟩
end Go.Proofs.YtgnpgkkjcloghaaGreatDoor.Gr
