/- Small facts for the laws over a disk: a box of six cells; what depends on the files' keys only. -/
import Derived.Test.YtckiloacbanbmaaDoorTurnMath
import Derived.Test.YtckiloacbanbmaaDoorToDisk
namespace Go.Proofs.YtckiloacbanbmaaDoor.DOk
open Go.RowKit Go.Proofs.YtckiloacbanbmaaDoor.Bytes Go.Proofs.YtckiloacbanbmaaDoor.Rows_
set_option linter.unusedVariables false
/-- six cells of a block -/
def Box6 (w : World) (b : Nat) (x0 x1 x2 x3 x4 x5 : Value) : Prop := w.cell? ⟨b, 0, none⟩ = some x0 ∧ w.cell? ⟨b, 1, none⟩ = some x1 ∧ w.cell? ⟨b, 2, none⟩ = some x2 ∧ w.cell? ⟨b, 3, none⟩ = some x3 ∧ w.cell? ⟨b, 4, none⟩ = some x4 ∧ w.cell? ⟨b, 5, none⟩ = some x5
theorem Box6.below {w w' : World} {B b : Nat} {x0 x1 x2 x3 x4 x5 : Value} (h : Box6 w b x0 x1 x2 x3 x4 x5) (hb : Below B w w') (hlt : b < B) : Box6 w' b x0 x1 x2 x3 x4 x5 :=
  ⟨(hb.cell (p := ⟨b, 0, none⟩) hlt).trans h.1, (hb.cell (p := ⟨b, 1, none⟩) hlt).trans h.2.1, (hb.cell (p := ⟨b, 2, none⟩) hlt).trans h.2.2.1, (hb.cell (p := ⟨b, 3, none⟩) hlt).trans h.2.2.2.1, (hb.cell (p := ⟨b, 4, none⟩) hlt).trans h.2.2.2.2.1, (hb.cell (p := ⟨b, 5, none⟩) hlt).trans h.2.2.2.2.2⟩
theorem Box6.new (w : World) (x0 x1 x2 x3 x4 x5 : Value) (t : TypeId) : Box6 (w.alloc (.cells #[x0, x1, x2, x3, x4, x5] t)) w.heap.size x0 x1 x2 x3 x4 x5 := by
  refine ⟨?_, ?_, ?_, ?_, ?_, ?_⟩ <;> (rw [World.cell?_alloc_at _ _ _ _ rfl]; rfl)

/-! ### what depends on the keys of the files only -/
theorem keys_len {fs gs : List FileD} (h : gs.map keyF = fs.map keyF) : gs.length = fs.length := by have := congrArg List.length h; simpa using this
theorem keys_used {fs gs : List FileD} (h : gs.map keyF = fs.map keyF) : usedD gs = usedD fs := by
  have e : ∀ l : List FileD, usedD l = ((l.map keyF).map (fun k => k.2.1)).sum := by intro l; unfold usedD; rw [List.map_map]; rfl
  rw [e, e, h]
theorem keys_ids {fs gs : List FileD} (h : gs.map keyF = fs.map keyF) : fidsD gs = fidsD fs := by
  have e : ∀ l : List FileD, fidsD l = (l.map keyF).map (fun k => k.1) := by intro l; unfold fidsD; rw [List.map_map]; rfl
  rw [e, e, h]
theorem fileAt_of {next : Int} {fs gs : List FileD} (hs : SameF fs gs) (h : ∀ j h, FileAt next fs j h) : ∀ j h, FileAt next gs j h := by
  intro j hj
  have hj' : j < fs.length := by rw [← hs.1]; exact hj
  obtain ⟨a1, a2, a3, a4⟩ := hs.2 j hj' hj
  obtain ⟨b1, b2, b3, b4, b5⟩ := h j hj'
  refine ⟨by rw [a1]; exact b1, by rw [a1]; exact b2, fun h0 => ?_, by rw [a3]; exact b4, by rw [a3, a2]; exact b5⟩
  obtain ⟨c1, _⟩ := hs.2 (j - 1) (by omega) (by omega)
  rw [c1, a1]; exact b3 h0
theorem okS_of {room fuse next : Int} {fs gs : List FileD} {ks : List LinkD} {ts : List TurnD} (h : gs.map keyF = fs.map keyF) (ho : OkS room fuse next fs ks ts) : OkS room fuse next gs ks ts := by
  obtain ⟨h0, h1, h2, h3, r1, r2, r3, r4, r5, r6⟩ := ho
  exact ⟨h0, by rw [keys_len h]; exact h1, h2, h3, by rw [keys_used h]; exact r1, fileAt_of (same_of_keys h) r2, r3, by rw [keys_len h]; exact r4, by rw [keys_ids h]; exact r5, r6⟩
theorem okS_iff {room fuse next : Int} {fs gs : List FileD} {ks : List LinkD} {ts : List TurnD} (h : gs.map keyF = fs.map keyF) : OkS room fuse next gs ks ts ↔ OkS room fuse next fs ks ts := ⟨okS_of h.symm, okS_of h⟩
theorem n_used : ∀ {fs : List FileD} {f : FileD}, f ∈ fs → f.n ≤ usedD fs
  | g :: fs, f, h => by
    have e : usedD (g :: fs) = g.n + usedD fs := by unfold usedD; simp
    rw [e]
    rcases List.mem_cons.1 h with rfl | h'
    · omega
    · have := n_used h'; omega
theorem keys_mem {P : FileD → Prop} {fs gs : List FileD} (h : gs.map keyF = fs.map keyF) (hP : ∀ f g : FileD, keyF g = keyF f → P f → P g) (hf : ∀ f ∈ fs, P f) : ∀ g ∈ gs, P g := by
  intro g hg
  have : keyF g ∈ fs.map keyF := by rw [← h]; exact List.mem_map.2 ⟨g, hg, rfl⟩
  obtain ⟨f, hf1, hf2⟩ := List.mem_map.1 this
  exact hP f g hf2.symm (hf f hf1)
theorem key_n {f g : FileD} (h : keyF g = keyF f) : g.n = f.n := by have := congrArg (fun k => k.2.1) h; exact this
theorem key_id {f g : FileD} (h : keyF g = keyF f) : g.id = f.id := by have := congrArg (fun k => k.1) h; exact this
theorem bool_eq {b1 b2 : Bool} {P Q : Prop} (h1 : b1 = true ↔ P) (h2 : b2 = true ↔ Q) (h : P ↔ Q) : b2 = b1 := by
  cases b1 <;> cases b2 <;> simp_all

end Go.Proofs.YtckiloacbanbmaaDoor.DOk
