/- Opening a field that is a slice of ints or of bytes. -/
import Derived.Test.YteiojpglhmikoaaOpenG
import Derived.Test.YteiojpglhmikoaaOpenRows
import Derived.Test.YteiojpglhmikoaaKiA
import Derived.Laws.AppendOwnNone
import Derived.Laws.OwnMore
import Derived.Deep.QuietTactic
import Derived.BigQuiet
namespace Go.Proofs.Yteiojpglhmikoaa.Opens
open Go.ChangeShapes Go.WideShapes Go.ChangeAt Go.RowKit Go.Joins Go.Deep
open Go.Proofs.Yteiojpglhmikoaa.Bytes Go.Proofs.Yteiojpglhmikoaa.Rows_
set_option linter.unusedVariables false
variable {H : Type} {enc : TypeId × Value → H} {W : World} {base : Nat} {held : Bool}
theorem bytes_cell {fuel : Nat} {v : Value} {x : DataW H × List MemPlace} (hw : DataW.trod enc Try.prog W base (fun _ => true) held fuel 22 [v] = some x) :
    ∃ (A : Option Addr) (n c : Nat) (zs : List Int), v = .slice A n c ∧ Rd W W.heap.size A zs ∧ zs.length = n ∧ n ≤ 9223372036854775807 ∧ Rng zs := by
  obtain ⟨A, n, c, z0, rfl, w0⟩ := open_bytes hw
  have hm : n ≤ 9223372036854775807 := by
    rcases w0 with ⟨_, rfl, _, _⟩ | ⟨a, _, h1, h2, h3, _⟩
    · omega
    · unfold maxLen at h2; omega
  obtain ⟨HR, hl, hA, hrng⟩ := w0.open_
  exact ⟨A, n, c, z0.take n, rfl, HR, hl, hm, hrng⟩
end Go.Proofs.Yteiojpglhmikoaa.Opens

