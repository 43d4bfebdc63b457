/- Contracts of the encoding of strings, in the program; lengths of slices at most 2^40. -/
import Derived.Test.YteiojpglhmikoaaCloneB
import Derived.Test.YteiojpglhmikoaaAppT
namespace Go.Proofs.Yteiojpglhmikoaa.Var
open Go.RowKit Go.Proofs.Yteiojpglhmikoaa.Bytes
set_option linter.unusedVariables false

/-! ### PutText -/
def ptB (s : ByteArray) : Bool := decide (s.size ≤ 4000)
def ptO (zs : List Int) (s : ByteArray) : List Int := if s.size ≤ 4000 then zs ++ vEnc s.size ++ byt s else []
end Go.Proofs.Yteiojpglhmikoaa.Var

