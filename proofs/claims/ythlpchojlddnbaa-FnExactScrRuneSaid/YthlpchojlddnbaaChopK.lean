/- A long region in pieces: the first operations alone, with a frame of which only some slots are known. -/
import Derived.Test.YthlpchojlddnbaaRows
import Derived.WalkKit
import Derived.Orders
import Derived.Outline
namespace Go.Proofs.Ythlpchojlddnbaa.Chop
open Go.RowKit
set_option linter.unusedVariables false
def ChopQ (Q : Exit → Act → World → Prop) (R : Act → World → Prop) : Exit → Act → World → Prop
  | .normal, a, w => R a w
  | e, a, w => Q e a w
theorem oper_chop {P : Program} {o : Oper} {a : Act} {w : World} {K K' : Act → World → Prop} {Q : Exit → Act → World → Prop} {R : Act → World → Prop} (h : ∀ a w, K a w → K' a w) (hh : o.wp P a w K (ChopQ Q R)) : o.wp P a w K' Q := by
  unfold Oper.wp at *
  generalize (execOp a.eval o).run P w = r at *
  cases r with
  | ok n w' =>
    cases n <;> simp only [Oper.upon] at hh ⊢ <;>
      first
        | exact h _ _ hh
        | exact Calls.mono hh (fun e w'' he => by cases e <;> first | exact h _ _ he | exact he)
        | exact Rows.mono hh (fun _ _ he => h _ _ he)
  | halt x w' => cases x <;> simp only [Oper.upon] at hh ⊢ <;> exact hh
theorem list_chop {P : Program} {ops : Array Oper} {Q : Exit → Act → World → Prop} {R : Act → World → Prop} {l2 : List Oper} (hR : ∀ a w, R a w → wpList P ops Q l2 a w) : ∀ (l1 : List Oper) (a : Act) (w : World), wpList P ops (ChopQ Q R) l1 a w → wpList P ops Q (l1 ++ l2) a w
  | [], a, w, h => hR a w h
  | o :: l1, a, w, h => by
    rw [List.cons_append]
    unfold wpList at h ⊢
    split
    · rename_i hw
      rw [if_pos hw] at h
      rcases h with h | ⟨h1, h2⟩
      · exact .inl (oper_chop (fun a w h => list_chop hR l1 a w h) h)
      · exact .inr ⟨h1, h2⟩
    · rename_i hw
      rw [if_neg hw] at h
      exact list_chop hR l1 _ _ h
/-- the first n operations, behind which a relation of one's own holds -/
theorem chop_rel (n : Nat) (R : Act → World → Prop) {P : Program} {ops : Array Oper} {Q : Exit → Act → World → Prop} {l : List Oper} {a : Act} {w : World}
    (h1 : ∀ Q' : Exit → Act → World → Prop, (∀ a w, R a w → Q' .normal a w) → wpList P ops Q' (l.take n) a w) (h2 : ∀ a w, R a w → wpList P ops Q (l.drop n) a w) : wpList P ops Q l a w := by
  have := list_chop (Q := Q) (R := R) (l2 := l.drop n) h2 _ _ _ (h1 (ChopQ Q R) (fun _ _ h => h))
  rwa [List.take_append_drop] at this
/-- what is known of a frame: its size, and some slots -/
structure Slot (N : Nat) (T : Array Value) (i : Nat) (v : Value) : Prop where
  at_ : T[i]? = some v
theorem forget {P : Program} {ops : Array Oper} {Q : Exit → Act → World → Prop} {l : List Oper} {T : Array Value} {d : List Deferred} {w : World} (h : ∀ T', T' = T → wpList P ops Q l ⟨T', d⟩ w) : wpList P ops Q l ⟨T, d⟩ w := h T rfl
theorem at_same (T : Array Value) (i : Nat) (v : Value) (h : i < T.size) : (T.setIfInBounds i v)[i]? = some v := by simp [h]
theorem at_ne (T : Array Value) (i j : Nat) (v : Value) (h : i ≠ j) : (T.setIfInBounds i v)[j]? = T[j]? := by simp [h]
theorem getD_same (T : Array Value) (i : Nat) (v : Value) (h : i < T.size) : (T.setIfInBounds i v).getD i undef = v := by simp [h]
theorem getD_ne (T : Array Value) (i j : Nat) (v : Value) (h : i ≠ j) : (T.setIfInBounds i v).getD j undef = T.getD j undef := by simp [h]
theorem elem_of {T : Array Value} {i : Nat} {v : Value} (h : T[i]? = some v) (hi : i < T.size) : T[i] = v := by rw [Array.getElem?_eq_getElem hi] at h; exact Option.some.inj h
theorem getD_of {T : Array Value} {i : Nat} {v : Value} (h : T[i]? = some v) : T.getD i undef = v := by simp [h]
end Go.Proofs.Ythlpchojlddnbaa.Chop

