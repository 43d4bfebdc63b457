/- A block that holds a disk by value; bodies carried along. -/
import Derived.Test.YtckiloacbanbmaaDoorMarkBase
namespace Go.Proofs.YtckiloacbanbmaaDoor.DOk
open Go.RowKit Go.Proofs.YtckiloacbanbmaaDoor.Bytes Go.Proofs.YtckiloacbanbmaaDoor.Rows_
set_option linter.unusedVariables false

/-- a block that holds a disk by value -/
def BoxW (w : World) (b : Nat) (cs : Array Value) : Prop := w.heap[b]? = some (.cells cs 35 (0, 0))
theorem BoxW.lt {w : World} {b : Nat} {cs : Array Value} (h : BoxW w b cs) : b < w.heap.size := (Array.getElem?_eq_some_iff.1 h).1
theorem BoxW.cell {w : World} {b : Nat} {cs : Array Value} (h : BoxW w b cs) (j : Nat) : w.cell? ⟨b, j, none⟩ = cs[j]? := by unfold BoxW at h; simp [World.cell?, h]
theorem BoxW.free {w : World} {b : Nat} {cs : Array Value} (h : BoxW w b cs) (j : Nat) : w.frozen? ⟨b, j, none⟩ = false := by unfold BoxW at h; simp [World.frozen?, h]
theorem BoxW.below {w w' : World} {b B : Nat} {cs : Array Value} (h : BoxW w b cs) (hb : Below B w w') (hB : b < B) : BoxW w' b cs := by unfold BoxW at h ⊢; rw [hb.block b hB]; exact h
theorem BoxW.other {w : World} {b b' j : Nat} {cs : Array Value} {v : Value} (h : BoxW w b cs) (hne : b ≠ b') : BoxW (w.setCell ⟨b', j, none⟩ v) b cs := by
  unfold BoxW at h ⊢; rw [Below.heap_setCell _ _ _ _ hne]; exact h
theorem BoxW.set3 {w : World} {b : Nat} {x0 x1 x2 x3 x4 x5 : Value} (h : BoxW w b #[x0, x1, x2, x3, x4, x5]) (v : Value) : BoxW (w.setCell ⟨b, 3, none⟩ v) b #[x0, x1, x2, v, x4, x5] := by
  unfold BoxW at h ⊢; simp [World.setCell, Array.getElem?_modify, h]
theorem BoxW.set4 {w : World} {b : Nat} {x0 x1 x2 x3 x4 x5 : Value} (h : BoxW w b #[x0, x1, x2, x3, x4, x5]) (v : Value) : BoxW (w.setCell ⟨b, 4, none⟩ v) b #[x0, x1, x2, x3, v, x5] := by
  unfold BoxW at h ⊢; simp [World.setCell, Array.getElem?_modify, h]
theorem BoxW.set5 {w : World} {b : Nat} {x0 x1 x2 x3 x4 x5 : Value} (h : BoxW w b #[x0, x1, x2, x3, x4, x5]) (v : Value) : BoxW (w.setCell ⟨b, 5, none⟩ v) b #[x0, x1, x2, x3, x4, v] := by
  unfold BoxW at h ⊢; simp [World.setCell, Array.getElem?_modify, h]
theorem OwnBs.snocF {w v : World} {base base' : Nat} {gs : List FileD} {g : FileD} (h : OwnBs w base gs) (hb : Below w.heap.size w v) (ho : Own v base' g.A g.n g.c g.bytes) (hB : w.heap.size ≤ base') (hbase : base ≤ base') : OwnBs v base (gs ++ [g]) := by
  refine ⟨fun f hf => ?_, List.pairwise_append.2 ⟨h.2, List.pairwise_singleton _ _, fun a ha b hb' => ?_⟩⟩
  · rcases List.mem_append.1 hf with hf | hf
    · exact (h.1 f hf).below (Nat.le_refl _) hb
    · rw [List.mem_singleton] at hf; subst hf; exact ho.more hbase
  · rw [List.mem_singleton] at hb'; subst hb'
    exact (h.1 a ha).ne_ ho hB
theorem own_set6 {w : World} {base K n : Nat} {E : TypeId} {v : Value} {xs : List Value} {c : Nat} (h : w.ownsRow base E K v n xs) (hc : c < base) (x1 x2 x3 x4 x5 x6 : Value) :
    ((((((w.setCell ⟨c, 0, none⟩ x1).setCell ⟨c, 1, none⟩ x2).setCell ⟨c, 2, none⟩ x3).setCell ⟨c, 3, none⟩ x4).setCell ⟨c, 4, none⟩ x5).setCell ⟨c, 5, none⟩ x6).ownsRow base E K v n xs :=
  own_setK (own_setK (own_setK (own_setK (own_setK (own_setK h c 0 x1 hc) c 1 x2 hc) c 2 x3 hc) c 3 x4 hc) c 4 x5 hc) c 5 x6 hc
theorem OwnBs.more6 {w : World} {base base' c : Nat} {gs : List FileD} (h : OwnBs w base gs) (hc : c < base) (hB : base' ≤ base) (x1 x2 x3 x4 x5 x6 : Value) :
    OwnBs ((((((w.setCell ⟨c, 0, none⟩ x1).setCell ⟨c, 1, none⟩ x2).setCell ⟨c, 2, none⟩ x3).setCell ⟨c, 3, none⟩ x4).setCell ⟨c, 4, none⟩ x5).setCell ⟨c, 5, none⟩ x6) base' gs :=
  ⟨fun f hf => own_moreK (own_set6 (h.1 f hf) hc x1 x2 x3 x4 x5 x6) hB, h.2⟩
theorem OwnBs.nil (w : World) (base : Nat) : OwnBs w base [] := ⟨(fun f hf => by cases hf), List.Pairwise.nil⟩
/-- a store into a row of files leaves the bodies -/
theorem OwnBs.row {w : World} {base b : Nat} {gs : List FileD} {A : Option Addr} {n c : Nat} {xs : List Value} (h : OwnBs w base gs) (hr : w.ownsRow b 56 3 (.slice A n c) n xs) (g j : Nat) (hA : A = some ⟨g, 0, none⟩) (v : Value) : OwnBs (w.setCell ⟨g, j, none⟩ v) base gs :=
  ⟨fun f hf => own_setNe (h.1 f hf) g j v (fun e => own_ne (h.1 f hf) hr (by decide) g e (by subst hA; rfl)), h.2⟩
end Go.Proofs.YtckiloacbanbmaaDoor.DOk
