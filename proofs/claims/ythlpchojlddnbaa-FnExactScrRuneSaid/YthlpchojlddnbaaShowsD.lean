/- Shows as data. -/
import Derived.Test.YthlpchojlddnbaaRows
import Derived.WalkKit
import Derived.WalkSmall
import Derived.Lib.Hide
namespace Go.Proofs.Ythlpchojlddnbaa.Rune
open Go.RowKit
set_option linter.unusedVariables false
theorem rt_bool {a b : Bool} (h : a = b) : Ending.returned (.bool a) = .returned (.bool b) := by rw [h]
def showB (r : Int) : Bool := decide ((32 ≤ r ∧ r ≤ 126) ∨ (160 ≤ r ∧ r ≤ 65535 ∧ (r < 55296 ∨ 57343 < r)))

end Go.Proofs.Ythlpchojlddnbaa.Rune

