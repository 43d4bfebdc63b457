/- Contracts of the decoding of strings, in the program: a plain function of the bytes and the offset. -/
import Derived.Test.YteiojpglhmikoaaGetVar
import Derived.Test.YteiojpglhmikoaaGtP
import Derived.Laws.BytesArg
namespace Go.Proofs.Yteiojpglhmikoaa.Var
open Go.RowKit Go.Proofs.Yteiojpglhmikoaa.Bytes
set_option linter.unusedVariables false

theorem zero_run (w : World) (ad : Addr) (c' : Nat) : (convert 22 9 (.slice (some ad) 0 c')).run Try.prog w = .ok (.string (strOfNums [])) w := by
  have hl : (loadCells ad 0).run Try.prog w = .ok #[] w := by
    have := run_loadCells_list (P := Try.prog) w ad [] (fun j v hj => by simp at hj)
    simpa using this
  rw [run_convert_bytes_string w 22 9 5 _ 0 c' Try.underlying22 Try.underlying5 Try.underlying9, run_bytesToString w ad 0 c' [] hl]
  rfl
theorem nil_run (w : World) : (convert 22 9 (.slice none 0 0)).run Try.prog w = .ok (.string ⟨#[]⟩) w := by
  rw [run_convert_bytes_string w 22 9 5 _ 0 0 Try.underlying22 Try.underlying5 Try.underlying9]
  rfl

end Go.Proofs.Yteiojpglhmikoaa.Var

