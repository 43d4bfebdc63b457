/- What a drawn region leaves that makes a grid and keeps it in a variable of its own. -/
import Derived.Test.YtgdjbpgfplcjpaaGrLaw
import Derived.Test.YtgdjbpgfplcjpaaGrNew
namespace Go.Proofs.Ytgdjbpgfplcjpaa.Gr
open Go.RowKit Go.Proofs.Ytgdjbpgfplcjpaa.Bytes Go.Proofs.Ytgdjbpgfplcjpaa.Rows_ Go.Proofs.Ytgdjbpgfplcjpaa.RowK
set_option linter.unusedVariables false
def RelG (W : World) (gw gh : Int) (m : Nat) (rcs : List CellD) (s : Value) (wx : World) : Prop :=
  ∃ (F : Option Addr) (d b : Nat), s = .pointer (some ⟨b, 0, none⟩) ∧ BoxK wx b [.int .i64 gw, .int .i64 gh, .slice F m d] ∧ OwnC wx W.heap.size F m d rcs ∧ (∀ i, (Value.slice F m d).ownBlock = some i → W.heap.size ≤ i ∧ (b = i → False) ∧ i < wx.heap.size) ∧ (W.heap.size ≤ b ∧ b < wx.heap.size) ∧ Below W.heap.size W wx
theorem relG_al {W y : World} {gw gh : Int} {m d B : Nat} {rcs : List CellD} {F : Option Addr} (ho : OwnC y B F m d rcs) (hs : Below W.heap.size W y) (hB : W.heap.size ≤ B) :
    RelG W gw gh m rcs (.pointer (some ⟨y.heap.size, 0, none⟩)) (y.alloc (.cells #[.int .i64 gw, .int .i64 gh, .slice F m d] 25)) := by
  refine ⟨F, d, y.heap.size, rfl, BoxK.new y [.int .i64 gw, .int .i64 gh, .slice F m d] 25, ((ho.below (Nat.le_refl _) ((Below.refl y.heap.size y).alloc (Nat.le_refl _) _)).more hB), ?_, ⟨hs.size, by simp⟩, hs.alloc hs.size _⟩
  intro i hi
  have h1 := ho.blk i hi
  exact ⟨by omega, fun e => by omega, by simp; omega⟩
theorem boxK_set {y : World} {b : Nat} {u0 u1 u2 v0 v1 v2 : Value} (h : BoxG y b #[u0, u1, u2]) :
    BoxK (((y.setCell ⟨b, 0, none⟩ v0).setCell ⟨b, 1, none⟩ v1).setCell ⟨b, 2, none⟩ v2) b [v0, v1, v2] := by
  have h0 : y.cell? ⟨b, 0, none⟩ = some u0 := h.cell 0
  have h1 : y.cell? ⟨b, 1, none⟩ = some u1 := h.cell 1
  have h2 : y.cell? ⟨b, 2, none⟩ = some u2 := h.cell 2
  have a0 : (y.setCell ⟨b, 0, none⟩ v0).cell? ⟨b, 0, none⟩ = some v0 := World.cell?_setCell_same _ _ _ h0
  have a1 : (y.setCell ⟨b, 0, none⟩ v0).cell? ⟨b, 1, none⟩ = some u1 := by rw [World.cell?_setCell_other _ _ _ _ (by simp)]; exact h1
  have a2 : (y.setCell ⟨b, 0, none⟩ v0).cell? ⟨b, 2, none⟩ = some u2 := by rw [World.cell?_setCell_other _ _ _ _ (by simp)]; exact h2
  have b0 : ((y.setCell ⟨b, 0, none⟩ v0).setCell ⟨b, 1, none⟩ v1).cell? ⟨b, 0, none⟩ = some v0 := by rw [World.cell?_setCell_other _ _ _ _ (by simp)]; exact a0
  have b1 : ((y.setCell ⟨b, 0, none⟩ v0).setCell ⟨b, 1, none⟩ v1).cell? ⟨b, 1, none⟩ = some v1 := World.cell?_setCell_same _ _ _ a1
  have b2 : ((y.setCell ⟨b, 0, none⟩ v0).setCell ⟨b, 1, none⟩ v1).cell? ⟨b, 2, none⟩ = some u2 := by rw [World.cell?_setCell_other _ _ _ _ (by simp)]; exact a2
  intro j v hv
  match j, hv with
  | 0, hv => obtain rfl : v0 = v := by simpa using hv
             rw [World.cell?_setCell_other _ _ _ _ (by simp)]; exact b0
  | 1, hv => obtain rfl : v1 = v := by simpa using hv
             rw [World.cell?_setCell_other _ _ _ _ (by simp)]; exact b1
  | 2, hv => obtain rfl : v2 = v := by simpa using hv
             exact World.cell?_setCell_same _ _ _ b2
theorem relG_set {W y : World} {gw gh : Int} {m d B b : Nat} {rcs : List CellD} {F : Option Addr} (hn : BoxG y b #[.int .i64 0, .int .i64 0, .slice none 0 0]) (ho : OwnC y B F m d rcs) (hs : Below W.heap.size W y) (hb : W.heap.size ≤ b) (hB : b < B) :
    RelG W gw gh m rcs (.pointer (some ⟨b, 0, none⟩)) (((y.setCell ⟨b, 0, none⟩ (.int .i64 gw)).setCell ⟨b, 1, none⟩ (.int .i64 gh)).setCell ⟨b, 2, none⟩ (.slice F m d)) := by
  have hl := hn.lt
  refine ⟨F, d, b, rfl, boxK_set hn, (((ho.setBox b 0 _ hB).setBox b 1 _ hB).setBox b 2 _ hB).more (by omega), ?_, ⟨hb, by simpa using hl⟩, ((hs.setCell (p := ⟨b, 0, none⟩) hb _).setCell (p := ⟨b, 1, none⟩) hb _).setCell (p := ⟨b, 2, none⟩) hb _⟩
  intro i hi
  have h1 := ho.blk i hi
  exact ⟨by omega, fun e => by omega, by simpa using h1.2⟩
end Go.Proofs.Ytgdjbpgfplcjpaa.Gr
