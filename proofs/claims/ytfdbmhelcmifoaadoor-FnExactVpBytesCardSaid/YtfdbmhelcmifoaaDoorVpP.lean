/- The program's parser: its block, and what becomes of it when it goes to another state. -/
import Derived.Test.YtfdbmhelcmifoaaDoorVpB
import Derived.Laws.EntriesVeiled
namespace Go.Proofs.YtfdbmhelcmifoaaDoor.Vp
open Go.RowKit Go.Proofs.YtfdbmhelcmifoaaDoor.Bytes Go.Proofs.YtfdbmhelcmifoaaDoor.DOk Go.Proofs.YtfdbmhelcmifoaaDoor.Rune Go.Proofs.YtfdbmhelcmifoaaDoor.RowK Go.Proofs.YtfdbmhelcmifoaaDoor.Gr
set_option linter.unusedVariables false
def BoxP (w : World) (b : Nat) (cs : Array Value) : Prop := w.heap[b]? = some (.cells cs 85 (0, 0))
theorem BoxP.lt {w : World} {b : Nat} {cs : Array Value} (h : BoxP w b cs) : b < w.heap.size := (Array.getElem?_eq_some_iff.1 h).1
theorem BoxP.cell {w : World} {b : Nat} {cs : Array Value} (h : BoxP w b cs) (j : Nat) : w.cell? ⟨b, j, none⟩ = cs[j]? := by unfold BoxP at h; simp [World.cell?, h]
theorem BoxP.free {w : World} {b : Nat} {cs : Array Value} (h : BoxP w b cs) (j : Nat) : w.frozen? ⟨b, j, none⟩ = false := by unfold BoxP at h; simp [World.frozen?, h]
theorem BoxP.below {w w' : World} {b B : Nat} {cs : Array Value} (h : BoxP w b cs) (hb : Below B w w') (hB : b < B) : BoxP w' b cs := by unfold BoxP at h ⊢; rw [hb.block b hB]; exact h
theorem BoxP.only {S : Nat → Prop} {w w' : World} {b : Nat} {cs : Array Value} (h : BoxP w b cs) (on : Only S w w') (hn : ¬ S b) : BoxP w' b cs := by
  unfold BoxP at h ⊢
  exact (on.block b (Array.getElem?_eq_some_iff.1 h).1 hn).trans h
theorem BoxP.drew {w : World} {b : Nat} {cs : Array Value} (h : BoxP w b cs) : BoxP w.drew b cs := h
theorem BoxP.other {w : World} {b b' j : Nat} {cs : Array Value} {v : Value} (h : BoxP w b cs) (hne : b ≠ b') : BoxP (w.setCell ⟨b', j, none⟩ v) b cs := by
  unfold BoxP at h ⊢; rw [← h]; simp [World.setCell, Array.getElem?_modify, Ne.symm hne]
theorem BoxP.set0 {w : World} {b : Nat} {x0 x1 x2 x3 x4 : Value} (h : BoxP w b #[x0, x1, x2, x3, x4]) (v : Value) : BoxP (w.setCell ⟨b, 0, none⟩ v) b #[v, x1, x2, x3, x4] := by
  unfold BoxP at h ⊢; simp [World.setCell, Array.getElem?_modify, h]
theorem BoxP.set1 {w : World} {b : Nat} {x0 x1 x2 x3 x4 : Value} (h : BoxP w b #[x0, x1, x2, x3, x4]) (v : Value) : BoxP (w.setCell ⟨b, 1, none⟩ v) b #[x0, v, x2, x3, x4] := by
  unfold BoxP at h ⊢; simp [World.setCell, Array.getElem?_modify, h]
theorem BoxP.set2 {w : World} {b : Nat} {x0 x1 x2 x3 x4 : Value} (h : BoxP w b #[x0, x1, x2, x3, x4]) (v : Value) : BoxP (w.setCell ⟨b, 2, none⟩ v) b #[x0, x1, v, x3, x4] := by
  unfold BoxP at h ⊢; simp [World.setCell, Array.getElem?_modify, h]
theorem BoxP.set3 {w : World} {b : Nat} {x0 x1 x2 x3 x4 : Value} (h : BoxP w b #[x0, x1, x2, x3, x4]) (v : Value) : BoxP (w.setCell ⟨b, 3, none⟩ v) b #[x0, x1, x2, v, x4] := by
  unfold BoxP at h ⊢; simp [World.setCell, Array.getElem?_modify, h]
theorem BoxP.set4 {w : World} {b : Nat} {x0 x1 x2 x3 x4 : Value} (h : BoxP w b #[x0, x1, x2, x3, x4]) (v : Value) : BoxP (w.setCell ⟨b, 4, none⟩ v) b #[x0, x1, x2, x3, v] := by
  unfold BoxP at h ⊢; simp [World.setCell, Array.getElem?_modify, h]
theorem BoxP.new (w : World) (cs : Array Value) : BoxP (w.alloc (.cells cs 85)) w.heap.size cs := heap_alloc_new w _
/-- the step of a parser in this state: the method, bound to the parser -/
def fnOf (g : Nat) (st : Int) : Value := .func (.func (if st = 1 then 88 else if st = 2 then 89 else if st = 3 then 90 else 91)) #[.pointer (some ⟨g, 0, none⟩)] #[]
def parV (g : Nat) (st : Int) (mk : Bool) (A : Option Addr) (na ca : Nat) (P : Option Addr) (np cp : Nat) : Array Value := #[.int .i64 st, .bool mk, .slice A na ca, .slice P np cp, fnOf g st]
def Bec (g : Nat) (st : Int) (mk : Bool) (A : Option Addr) (na ca : Nat) (P : Option Addr) (np cp : Nat) (w : World) (e : Ending) (w' : World) : Prop :=
  e = .returned (.tuple #[]) ∧ BoxP w' g (parV g st mk A na ca P np cp) ∧ Only (· = g) w w' 
theorem bec_of {g : Nat} {x0 x1 x2 x3 x4 y0 y1 y2 y3 y4 : Value} {w : World} {o : Obj} {cs : Array Value} (h : BoxP w g #[x0, x1, x2, x3, x4]) (e : cs = #[y0, y1, y2, y3, y4]) {x : Ending} (hx : x = .returned (.tuple #[])) :
    x = .returned (.tuple #[]) ∧ BoxP ((((((w.setCell ⟨g, 0, none⟩ y0).setCell ⟨g, 1, none⟩ y1).setCell ⟨g, 2, none⟩ y2).setCell ⟨g, 3, none⟩ y3).setCell ⟨g, 4, none⟩ y4).alloc o) g cs ∧ Only (· = g) w ((((((w.setCell ⟨g, 0, none⟩ y0).setCell ⟨g, 1, none⟩ y1).setCell ⟨g, 2, none⟩ y2).setCell ⟨g, 3, none⟩ y3).setCell ⟨g, 4, none⟩ y4).alloc o) := by
  have h1 := ((((h.set0 y0).set1 y1).set2 y2).set3 y3).set4 y4
  subst e
  refine ⟨hx, h1.below ((Below.refl _ _).alloc (Nat.le_refl _) _) h1.lt, ?_⟩
  refine Only.trans ?_ (Only.below ((Below.refl _ _).alloc (Nat.le_refl _) _) (Nat.le_refl _))
  have oc := fun (W : World) (j : Nat) (v : Value) => Only.cell_ (S := fun i => i = g) W g j v rfl
  exact ((((oc w 0 y0).trans (oc _ 1 y1)).trans (oc _ 2 y2)).trans (oc _ 3 y3)).trans (oc _ 4 y4)
set_option maxRecDepth 100000 in
set_option maxHeartbeats 800000 in
theorem become_0 (g : Nat) (x0 x1 x2 x3 x4 : Value) (mk : Bool) (A : Option Addr) (na ca : Nat) (P : Option Addr) (np cp : Nat) (w : World) (h : BoxP w g #[x0, x1, x2, x3, x4]) :
    Calls Tryd.prog 73 #[.pointer (some ⟨g, 0, none⟩), .agg #[.int .i64 0, .bool mk, .slice A na ca, .slice P np cp]] w (Bec g 0 mk A na ca P np cp w) := by
  have hg := h.lt
  have hmf : ∀ (fn : Fn) (first cap : Array Value) (w : World), (Instr.makeFunc fn first cap).run Tryd.prog w = .ok (.func fn first cap) w := fun _ _ _ _ => rfl
  have c0 := h.cell 0
  have c1 := h.cell 1
  have c2 := h.cell 2
  have c3 := h.cell 3
  have c4 := h.cell 4
  have f0 := h.free 0
  have f1 := h.free 1
  have f2 := h.free 2
  have f3 := h.free 3
  have f4 := h.free 4
  simp only [List.getElem?_toArray, List.getElem?_cons_zero, List.getElem?_cons_succ] at c0 c1 c2 c3 c4
  have H := Lib.hid h
  clear h
  go_enter Tryd.func73, Tryd.ntmps73
  go_wp2_with fail
  go_end0
  exact bec_of H.out rfl rfl
set_option maxRecDepth 100000 in
set_option maxHeartbeats 800000 in
theorem become_1 (g : Nat) (x0 x1 x2 x3 x4 : Value) (mk : Bool) (A : Option Addr) (na ca : Nat) (P : Option Addr) (np cp : Nat) (w : World) (h : BoxP w g #[x0, x1, x2, x3, x4]) :
    Calls Tryd.prog 73 #[.pointer (some ⟨g, 0, none⟩), .agg #[.int .i64 1, .bool mk, .slice A na ca, .slice P np cp]] w (Bec g 1 mk A na ca P np cp w) := by
  have hg := h.lt
  have hmf : ∀ (fn : Fn) (first cap : Array Value) (w : World), (Instr.makeFunc fn first cap).run Tryd.prog w = .ok (.func fn first cap) w := fun _ _ _ _ => rfl
  have c0 := h.cell 0
  have c1 := h.cell 1
  have c2 := h.cell 2
  have c3 := h.cell 3
  have c4 := h.cell 4
  have f0 := h.free 0
  have f1 := h.free 1
  have f2 := h.free 2
  have f3 := h.free 3
  have f4 := h.free 4
  simp only [List.getElem?_toArray, List.getElem?_cons_zero, List.getElem?_cons_succ] at c0 c1 c2 c3 c4
  have H := Lib.hid h
  clear h
  go_enter Tryd.func73, Tryd.ntmps73
  go_wp2_with fail
  go_end0
  exact bec_of H.out rfl rfl
set_option maxRecDepth 100000 in
set_option maxHeartbeats 800000 in
theorem become_2 (g : Nat) (x0 x1 x2 x3 x4 : Value) (mk : Bool) (A : Option Addr) (na ca : Nat) (P : Option Addr) (np cp : Nat) (w : World) (h : BoxP w g #[x0, x1, x2, x3, x4]) :
    Calls Tryd.prog 73 #[.pointer (some ⟨g, 0, none⟩), .agg #[.int .i64 2, .bool mk, .slice A na ca, .slice P np cp]] w (Bec g 2 mk A na ca P np cp w) := by
  have hg := h.lt
  have hmf : ∀ (fn : Fn) (first cap : Array Value) (w : World), (Instr.makeFunc fn first cap).run Tryd.prog w = .ok (.func fn first cap) w := fun _ _ _ _ => rfl
  have c0 := h.cell 0
  have c1 := h.cell 1
  have c2 := h.cell 2
  have c3 := h.cell 3
  have c4 := h.cell 4
  have f0 := h.free 0
  have f1 := h.free 1
  have f2 := h.free 2
  have f3 := h.free 3
  have f4 := h.free 4
  simp only [List.getElem?_toArray, List.getElem?_cons_zero, List.getElem?_cons_succ] at c0 c1 c2 c3 c4
  have H := Lib.hid h
  clear h
  go_enter Tryd.func73, Tryd.ntmps73
  go_wp2_with fail
  go_end0
  exact bec_of H.out rfl rfl
set_option maxRecDepth 100000 in
set_option maxHeartbeats 800000 in
theorem become_3 (g : Nat) (x0 x1 x2 x3 x4 : Value) (mk : Bool) (A : Option Addr) (na ca : Nat) (P : Option Addr) (np cp : Nat) (w : World) (h : BoxP w g #[x0, x1, x2, x3, x4]) :
    Calls Tryd.prog 73 #[.pointer (some ⟨g, 0, none⟩), .agg #[.int .i64 3, .bool mk, .slice A na ca, .slice P np cp]] w (Bec g 3 mk A na ca P np cp w) := by
  have hg := h.lt
  have hmf : ∀ (fn : Fn) (first cap : Array Value) (w : World), (Instr.makeFunc fn first cap).run Tryd.prog w = .ok (.func fn first cap) w := fun _ _ _ _ => rfl
  have c0 := h.cell 0
  have c1 := h.cell 1
  have c2 := h.cell 2
  have c3 := h.cell 3
  have c4 := h.cell 4
  have f0 := h.free 0
  have f1 := h.free 1
  have f2 := h.free 2
  have f3 := h.free 3
  have f4 := h.free 4
  simp only [List.getElem?_toArray, List.getElem?_cons_zero, List.getElem?_cons_succ] at c0 c1 c2 c3 c4
  have H := Lib.hid h
  clear h
  go_enter Tryd.func73, Tryd.ntmps73
  go_wp2_with fail
  go_end0
  exact bec_of H.out rfl rfl
end Go.Proofs.YtfdbmhelcmifoaaDoor.Vp
