/- Words for variables that hold a whole struct of many cells: what a block holds as one array, its load, its store, its frame; no cell is named. No function of the program is named. -/
import Derived.Test.YtmjainacnhobnaaBoxKs
import Derived.Laws.Rows
import Derived.Deep.WholeRow
namespace Go.Proofs.Ytmjainacnhobnaa.Opq
open Go.RowKit Go.Proofs.Ytmjainacnhobnaa.Bytes Go.Proofs.Ytmjainacnhobnaa.Rows_ Go.Proofs.Ytmjainacnhobnaa.RowK
set_option linter.unusedVariables false
def rowOf (w : World) (b : Nat) : Array Value := match w.heap[b]? with | some (.cells C _ _) => C | _ => #[]
/-- block b is a variable of its own with the cells C -/
def RowB (w : World) (b : Nat) (C : Array Value) : Prop := ∃ T, w.heap[b]? = some (.cells C T (0, 0))
theorem RowB.row {w : World} {b : Nat} {C : Array Value} (h : RowB w b C) : rowOf w b = C := by obtain ⟨T, h⟩ := h; simp [rowOf, h]
theorem RowB.lt {w : World} {b : Nat} {C : Array Value} (h : RowB w b C) : b < w.heap.size := by obtain ⟨T, h⟩ := h; exact (Array.getElem?_eq_some_iff.1 h).1
theorem RowB.below {w w' : World} {b B : Nat} {C : Array Value} (h : RowB w b C) (hb : Below B w w') (hB : b < B) : RowB w' b C := by obtain ⟨T, h⟩ := h; exact ⟨T, by rw [hb.block b hB]; exact h⟩
theorem RowB.only {S : Nat → Prop} {w w' : World} {b : Nat} {C : Array Value} (h : RowB w b C) (on : Only S w w') (hn : ¬ S b) : RowB w' b C := by
  have hl := h.lt
  obtain ⟨T, h⟩ := h; exact ⟨T, by rw [on.block b hl hn]; exact h⟩
theorem RowB.drew {w : World} {b : Nat} {C : Array Value} (h : RowB w b C) : RowB w.drew b C := h
theorem RowB.new (w : World) (C : Array Value) (T : TypeId) : RowB (w.alloc (.cells C T)) w.heap.size C := ⟨T, heap_alloc_new w _⟩
theorem RowB.alloc {w : World} {b : Nat} {C : Array Value} (h : RowB w b C) (o : Obj) : RowB (w.alloc o) b C := h.below ((Below.refl w.heap.size w).alloc (Nat.le_refl _) o) h.lt
theorem RowB.cell {w : World} {b : Nat} {C : Array Value} (h : RowB w b C) (j : Nat) : w.cell? ⟨b, j, none⟩ = C[j]? := by obtain ⟨T, h⟩ := h; simp [World.cell?, h]
theorem RowB.free {w : World} {b : Nat} {C : Array Value} (h : RowB w b C) (j : Nat) : w.frozen? ⟨b, j, none⟩ = false := by obtain ⟨T, h⟩ := h; simp [World.frozen?, h]
theorem RowB.other {w : World} {b b' j : Nat} {C : Array Value} {v : Value} (h : RowB w b C) (hne : b ≠ b') : RowB (w.setCell ⟨b', j, none⟩ v) b C := by
  obtain ⟨T, h⟩ := h; exact ⟨T, by rw [heap_setCell_other _ _ _ _ hne]; exact h⟩
theorem RowB.set {w : World} {b j : Nat} {C : Array Value} {v : Value} (h : RowB w b C) : RowB (w.setCell ⟨b, j, none⟩ v) b (C.setIfInBounds j v) := by
  obtain ⟨T, h⟩ := h; exact ⟨T, heap_setCell_same w b j C T v h⟩
theorem RowB.setRow {w : World} {b : Nat} {C D : Array Value} (h : RowB w b C) : RowB (w.setRow b D) b D := by
  obtain ⟨T, h⟩ := h; exact ⟨T, setRow_heap w b C D T _ h⟩
theorem RowB.setRow_other {w : World} {b b' : Nat} {C D : Array Value} (h : RowB w b C) (hne : b ≠ b') : RowB (w.setRow b' D) b C := by
  obtain ⟨T, h⟩ := h; exact ⟨T, by rw [Go.setRow_other w b' b D hne]; exact h⟩
theorem below_setRow {B : Nat} {a w : World} (h : Below B a w) {b : Nat} (hb : B ≤ b) (D : Array Value) : Below B a (w.setRow b D) :=
  ⟨h.os, h.tape, h.output, by simp; exact h.size, fun k hk => by rw [Go.setRow_other w b k D (by omega)]; exact h.block k hk⟩
theorem only_setRow {S : Nat → Prop} (w : World) (b : Nat) (D : Array Value) (hb : S b) : Only S w (w.setRow b D) :=
  ⟨rfl, rfl, rfl, by simp, fun k hk hs => Go.setRow_other w b k D (fun e => hs (e ▸ hb))⟩
theorem own_setRow {w : World} {base K n : Nat} {E : TypeId} {v : Value} {xs : List Value} (h : w.ownsRow base E K v n xs) (b : Nat) (D : Array Value) (hb : b < base) : (w.setRow b D).ownsRow base E K v n xs := by
  refine Only.own h (only_setRow (S := fun i => i = b) w b D rfl) (fun g hg hs => ?_)
  have := (World.ownsRow.lt h g hg).1
  omega
/-! ### the frame of rowOf -/
theorem rowOf_drew (w : World) (b : Nat) : rowOf w.drew b = rowOf w b := rfl
theorem rowOf_alloc_past (w : World) (o : Obj) (b : Nat) (h : b < w.heap.size) : rowOf (w.alloc o) b = rowOf w b := by unfold rowOf; rw [Below.heap_alloc _ _ _ h]
theorem rowOf_alloc_at (w : World) (C : Array Value) (T : TypeId) (n : Nat) (h : n = w.heap.size) : rowOf (w.alloc (.cells C T)) n = C := by subst h; exact (RowB.new w C T).row
theorem rowOf_setCell_other (w : World) (b' j b : Nat) (v : Value) (h : b ≠ b') : rowOf (w.setCell ⟨b', j, none⟩ v) b = rowOf w b := by unfold rowOf; rw [heap_setCell_other _ _ _ _ h]
/-- the load of a whole variable -/
theorem run_load_row {P : Program} {T : TypeId} {d : TypeDesc} {sz : Nat} (hu : P.underlying T = some d) (hd : (match d with | .struct _ | .array _ _ => true | _ => false) = true) (hi : (P.info? T).map (·.size) = some (sz + 1))
    (w : World) (b : Nat) (h : (rowOf w b).size = sz + 1) : (Instr.loadAt T (.pointer (some ⟨b, 0, none⟩))).run P w = .ok (.agg (rowOf w b)) w := by
  unfold rowOf at h ⊢
  match hb : w.heap[b]?, h with
  | some (.cells C T' fr), h =>
    simp only [Instr.loadAt, Instr.sureAddr, Sem.run_bind, Sem.run_pure, Result.andThen_ok]
    rw [run_loadVar_row w b T' T C fr d hb hu hd (by rw [hi]; exact congrArg some h.symm)]
/-- the store of a whole variable -/
theorem run_store_row {P : Program} {T : TypeId} {sz : Nat} (hi : (P.info? T).map (·.size) = some sz) (w : World) (b : Nat) (C : Array Value) (old : Array Value) (h : RowB w b old) (ho : old.size = sz) (hs : C.size = sz) (h1 : C.all (·.oneCell') = true) :
    (Instr.storeAt T (.pointer (some ⟨b, 0, none⟩)) (.agg C)).run P w = .ok () (w.setRow b C) := by
  obtain ⟨T', hb⟩ := h
  simp only [Instr.storeAt, Instr.sureAddr, Sem.run_bind, Sem.run_pure, Result.andThen_ok]
  exact run_storeVar_row w b T' T old C hb (by rw [hi, hs]) (by rw [ho, hs]) h1
/-- a result that lies in a variable -/
theorem results_row {P : Program} {fn : Func} {p : Tmp} {T : TypeId} {d : TypeDesc} {sz : Nat} (h : fn.results = #[.cell p T]) (hu : P.underlying T = some d) (hd : (match d with | .struct _ | .array _ _ => true | _ => false) = true) (hi : (P.info? T).map (·.size) = some sz)
    (tmps : Array Value) (w : World) (b : Nat) (C : Array Value) (hp : tmps.getD p undef = .pointer (some ⟨b, 0, none⟩)) (hb : RowB w b C) (hs : C.size = sz) : (results fn tmps).run P w = .ok (.agg C) w := by
  obtain ⟨T', hb⟩ := hb
  exact results_cell_row h tmps w b T' C (0, 0) d hp hb hu hd (by rw [hi, hs])
end Go.Proofs.Ytmjainacnhobnaa.Opq
