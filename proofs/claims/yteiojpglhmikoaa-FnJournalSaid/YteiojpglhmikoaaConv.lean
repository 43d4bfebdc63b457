/- A byte slice turned into a string, wherever it lies; a byte with its last bit turned. -/
import Derived.Test.YteiojpglhmikoaaAppend
import Derived.Laws.BytesArg
namespace Go.Proofs.Yteiojpglhmikoaa.Bytes
open Go.RowKit
set_option linter.unusedVariables false
theorem conv_none (w : World) : (convert 22 9 (.slice none 0 0)).run Try.prog w = .ok (.string (strOfNums [])) w := by
  rw [run_convert_bytes_nil w 22 5 Try.underlying22 Try.underlying5 0 0 9 Try.underlying9]
  rfl
set_option maxRecDepth 100000 in
theorem conv_any {w : World} {B : Nat} {A : Option Addr} {n c : Nat} {ys : List Int} (hr : Rd w B A ys) (hl : ys.length = n) (hA : A = none → n = 0 ∧ c = 0) (v : World) (hv : ∀ p u, w.cell? p = some u → v.cell? p = some u) :
    (convert 22 9 (.slice A n c)).run Try.prog v = .ok (.string (strOfNums ys)) v := by
  rcases A with _ | ad
  · obtain ⟨rfl, rfl⟩ := hA rfl
    obtain rfl : ys = [] := List.eq_nil_of_length_eq_zero hl
    exact conv_none v
  · by_cases h0 : 0 < ys.length
    · obtain ⟨b, o, e, _, hc⟩ := hr h0
      injection e with e
      subst e
      exact run_convert_bytes_arg v 22 5 Try.underlying22 Try.underlying5 b o n c ys hl (fun i hi => hv ⟨b, o + i, none⟩ (.int .u8 (ys.getD i 0)) (hc i (by rw [hl]; exact hi))) 9 Try.underlying9
    · obtain rfl : ys = [] := List.eq_nil_of_length_eq_zero (by omega)
      obtain rfl : n = 0 := by simpa using hl.symm
      have hl0 : (loadCells ad 0).run Try.prog v = .ok #[] v := by
        have := run_loadCells_list (P := Try.prog) v ad [] (fun j v hj => by simp at hj)
        simpa using this
      rw [run_convert_bytes_string v 22 9 5 _ 0 c Try.underlying22 Try.underlying5 Try.underlying9, run_bytesToString v ad 0 c [] hl0]
      rfl
set_option maxRecDepth 100000 in
theorem xor1_fin : ∀ x : Fin 256, 0 ≤ bits .xor .u8 (x.val : Int) 1 ∧ bits .xor .u8 (x.val : Int) 1 < 256 ∧ bits .xor .u8 (x.val : Int) 1 ≠ (x.val : Int) := by decide
theorem xor1 (z : Int) (h0 : 0 ≤ z) (h1 : z < 256) : 0 ≤ bits .xor .u8 z 1 ∧ bits .xor .u8 z 1 < 256 ∧ bits .xor .u8 z 1 ≠ z := by
  have := xor1_fin ⟨z.toNat, by omega⟩
  simp only at this
  rw [Int.toNat_of_nonneg h0] at this
  exact this
end Go.Proofs.Yteiojpglhmikoaa.Bytes

