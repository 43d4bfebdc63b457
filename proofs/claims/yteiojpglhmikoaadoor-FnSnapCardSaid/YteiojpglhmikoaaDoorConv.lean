/- A byte slice turned into a string, wherever it lies; a byte with its last bit turned. -/
import Derived.Test.YteiojpglhmikoaaDoorAppend
import Derived.Laws.BytesArg
namespace Go.Proofs.YteiojpglhmikoaaDoor.Bytes
open Go.RowKit
set_option linter.unusedVariables false
theorem conv_none (w : World) : (convert 22 9 (.slice none 0 0)).run Tryd.prog w = .ok (.string (strOfNums [])) w := by
  rw [run_convert_bytes_nil w 22 5 Tryd.underlying22 Tryd.underlying5 0 0 9 Tryd.underlying9]
  rfl
set_option maxRecDepth 100000 in
theorem conv_any {w : World} {B : Nat} {A : Option Addr} {n c : Nat} {ys : List Int} (hr : Rd w B A ys) (hl : ys.length = n) (hA : A = none → n = 0 ∧ c = 0) (v : World) (hv : ∀ p u, w.cell? p = some u → v.cell? p = some u) :
    (convert 22 9 (.slice A n c)).run Tryd.prog v = .ok (.string (strOfNums ys)) v := by
  rcases A with _ | ad
  · obtain ⟨rfl, rfl⟩ := hA rfl
    obtain rfl : ys = [] := List.eq_nil_of_length_eq_zero hl
    exact conv_none v
  · by_cases h0 : 0 < ys.length
    · obtain ⟨b, o, e, _, hc⟩ := hr h0
      injection e with e
      subst e
      exact run_convert_bytes_arg v 22 5 Tryd.underlying22 Tryd.underlying5 b o n c ys hl (fun i hi => hv ⟨b, o + i, none⟩ (.int .u8 (ys.getD i 0)) (hc i (by rw [hl]; exact hi))) 9 Tryd.underlying9
    · obtain rfl : ys = [] := List.eq_nil_of_length_eq_zero (by omega)
      obtain rfl : n = 0 := by simpa using hl.symm
      have hl0 : (loadCells ad 0).run Tryd.prog v = .ok #[] v := by
        have := run_loadCells_list (P := Tryd.prog) v ad [] (fun j v hj => by simp at hj)
        simpa using this
      rw [run_convert_bytes_string v 22 9 5 _ 0 c Tryd.underlying22 Tryd.underlying5 Tryd.underlying9, run_bytesToString v ad 0 c [] hl0]
      rfl
end Go.Proofs.YteiojpglhmikoaaDoor.Bytes

