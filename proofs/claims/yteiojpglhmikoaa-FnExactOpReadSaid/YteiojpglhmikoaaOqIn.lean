/- What an operation that came in holds. -/
import Derived.Test.YteiojpglhmikoaaKiA
namespace Go.Proofs.Yteiojpglhmikoaa.Oq
open Go.RowKit Go.Proofs.Yteiojpglhmikoaa.Bytes
set_option linter.unusedVariables false
def OpIn (W : World) (nm tx dr : ByteArray) (A : Option Addr) (n : Nat) (bs : List Int) : Prop :=
  nm.size ≤ maxLen ∧ tx.size ≤ maxLen ∧ dr.size ≤ maxLen ∧ Rd W W.heap.size A bs ∧ bs.length = n ∧ n ≤ 9223372036854775807 ∧ Rng bs
/-- eight cells of a block -/
def Box8 (w : World) (b : Nat) (x0 x1 x2 x3 x4 x5 x6 x7 : Value) : Prop := w.cell? ⟨b, 0, none⟩ = some x0 ∧ w.cell? ⟨b, 1, none⟩ = some x1 ∧ w.cell? ⟨b, 2, none⟩ = some x2 ∧ w.cell? ⟨b, 3, none⟩ = some x3 ∧ w.cell? ⟨b, 4, none⟩ = some x4 ∧ w.cell? ⟨b, 5, none⟩ = some x5 ∧ w.cell? ⟨b, 6, none⟩ = some x6 ∧ w.cell? ⟨b, 7, none⟩ = some x7
theorem Box8.below {w w' : World} {B b : Nat} {x0 x1 x2 x3 x4 x5 x6 x7 : Value} (h : Box8 w b x0 x1 x2 x3 x4 x5 x6 x7) (hb : Below B w w') (hlt : b < B) : Box8 w' b x0 x1 x2 x3 x4 x5 x6 x7 :=
  ⟨(hb.cell (p := ⟨b, 0, none⟩) hlt).trans h.1, (hb.cell (p := ⟨b, 1, none⟩) hlt).trans h.2.1, (hb.cell (p := ⟨b, 2, none⟩) hlt).trans h.2.2.1, (hb.cell (p := ⟨b, 3, none⟩) hlt).trans h.2.2.2.1,
    (hb.cell (p := ⟨b, 4, none⟩) hlt).trans h.2.2.2.2.1, (hb.cell (p := ⟨b, 5, none⟩) hlt).trans h.2.2.2.2.2.1, (hb.cell (p := ⟨b, 6, none⟩) hlt).trans h.2.2.2.2.2.2.1, (hb.cell (p := ⟨b, 7, none⟩) hlt).trans h.2.2.2.2.2.2.2⟩
theorem Box8.new (w : World) (x0 x1 x2 x3 x4 x5 x6 x7 : Value) (t : TypeId) : Box8 (w.alloc (.cells #[x0, x1, x2, x3, x4, x5, x6, x7] t)) w.heap.size x0 x1 x2 x3 x4 x5 x6 x7 := by
  refine ⟨?_, ?_, ?_, ?_, ?_, ?_, ?_, ?_⟩ <;> (rw [World.cell?_alloc_at _ _ _ _ rfl]; rfl)
theorem undrewO {W v : World} {B : Nat} (h : Below B W.drew v) : Below B W v := ⟨h.os, h.tape, h.output, h.size, h.block⟩
theorem rd_drewO {w : World} {B : Nat} {A : Option Addr} {zs : List Int} (h : Rd w B A zs) : Rd w.drew B A zs := h
end Go.Proofs.Yteiojpglhmikoaa.Oq

