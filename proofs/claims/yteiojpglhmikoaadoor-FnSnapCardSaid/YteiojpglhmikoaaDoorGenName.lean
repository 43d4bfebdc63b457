/- Contracts of SnapName and LogName, in the model and in the program. -/
import Derived.Test.YteiojpglhmikoaaDoorGenCore
namespace Go.Proofs.YteiojpglhmikoaaDoor.Num
open Go.RowKit
set_option linter.unusedVariables false

theorem impl_SnapName_any (g : Int) (w : World) (htab : Lib.TabIs Tryd.prog w "internal/strconv.uint64pow10" .u64 Lib.pow10Tab) :
    Calls Tryd.prog 10 #[.int .i64 g] w fun e w' => e = .returned (.string (nm snapP g)) ∧ Below w.heap.size w w' := by
  have HC := Lib.hid (fun W => impl_nameOfGen snapP (by decide) g W)
  have HT := Lib.hid htab
  clear htab
  generalize nm snapP g = T at *
  go_enter Tryd.func10, Tryd.ntmps10
  go_wp2_with fail
  refine (HC.out _ HT.out).mono ?_
  rintro e w1 ⟨rfl, hb1⟩
  go_wp2_with fail
  go_ret
  exact ⟨rfl, hb1⟩
end Go.Proofs.YteiojpglhmikoaaDoor.Num

