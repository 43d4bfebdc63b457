/- Opening a field that is a slice of ints or of bytes. -/
import Derived.Test.YtkinkdgnephcbaaOpenG
import Derived.Test.YtkinkdgnephcbaaOpenIntsB
namespace Go.Proofs.Ytkinkdgnephcbaa.Opens
open Go.ChangeShapes Go.WideShapes Go.ChangeAt Go.RowKit Go.Joins Go.Deep
open Go.Proofs.Ytkinkdgnephcbaa.Bytes Go.Proofs.Ytkinkdgnephcbaa.Rows_ Go.Proofs.Ytkinkdgnephcbaa.DOk
set_option linter.unusedVariables false
variable {H : Type} {enc : TypeId × Value → H} {W : World} {base : Nat} {held : Bool}
theorem ints_cell {fuel : Nat} {v : Value} {x : DataW H × List MemPlace} (hw : DataW.trod enc Try.prog W base (fun _ => true) held fuel 29 [v] = some x) :
    ∃ (A : Option Addr) (n c : Nat) (zs : List Int), v = .slice A n c ∧ RdI W W.heap.size A zs ∧ zs.length = n ∧ n ≤ 9223372036854775807 := by
  obtain ⟨a0, len0, cap0, z0, rfl, w0⟩ : ∃ A n c zs, v = .slice A n c ∧ IsRow .i64 W A n c zs := by
    rcases open_ints Try.underlying29 Try.underlying3 (by kernel_rfl) hw with ⟨hcs, _⟩ | ⟨a, l, c, zs, hcs, _, hl, hm, hz, _, hcell, hwz⟩
    · simp at hcs
      exact ⟨none, 0, 0, [], hcs, .inl ⟨rfl, rfl, rfl, rfl⟩⟩
    · simp at hcs
      exact ⟨some a, l, c, zs, hcs, .inr ⟨_, rfl, hl, hm, by simpa using hz, hcell, hwz⟩⟩
  obtain ⟨h1, h2, h3⟩ := rowI_open w0
  exact ⟨a0, len0, cap0, z0.take len0, rfl, h1, h2, by unfold maxLen at h3; omega⟩
theorem bytes_cell {fuel : Nat} {v : Value} {x : DataW H × List MemPlace} (hw : DataW.trod enc Try.prog W base (fun _ => true) held fuel 22 [v] = some x) :
    ∃ (A : Option Addr) (n c : Nat) (zs : List Int), v = .slice A n c ∧ Rd W W.heap.size A zs ∧ zs.length = n ∧ n ≤ 9223372036854775807 ∧ Rng zs := by
  obtain ⟨A, n, c, z0, rfl, w0⟩ := open_bytes hw
  have hm : n ≤ 9223372036854775807 := by
    rcases w0 with ⟨_, rfl, _, _⟩ | ⟨a, _, h1, h2, h3, _⟩
    · omega
    · unfold maxLen at h2; omega
  obtain ⟨HR, hl, hA, hrng⟩ := w0.open_
  exact ⟨A, n, c, z0.take n, rfl, HR, hl, hm, hrng⟩
end Go.Proofs.Ytkinkdgnephcbaa.Opens
