/- Contracts of LogName, in the model and in the program. -/
import Derived.Test.YtckiloacbanbmaaDoorGenCore
namespace Go.Proofs.YtckiloacbanbmaaDoor.Num
open Go.RowKit
set_option linter.unusedVariables false

theorem spec_LogName_any (g : Int) (w : World) :
    Calls Tryd.prog 12 #[.int .i64 g] w fun e w' => e = .returned (.string (nm logP g)) ∧ Below w.heap.size w w' := by
  have HC := Lib.hid (fun W => spec_l04Name logP (by decide) g W)
  generalize nm logP g = T at *
  go_enter Tryd.func12, Tryd.ntmps12
  go_wp2_with fail
  refine (HC.out _).mono ?_
  rintro e w1 ⟨rfl, hb1⟩
  go_wp2_with fail
  go_ret
  exact ⟨rfl, hb1⟩
theorem impl_LogName_any (g : Int) (w : World) (htab : Lib.TabIs Tryd.prog w "internal/strconv.uint64pow10" .u64 Lib.pow10Tab) :
    Calls Tryd.prog 39 #[.int .i64 g] w fun e w' => e = .returned (.string (nm logP g)) ∧ Below w.heap.size w w' := by
  have HC := Lib.hid (fun W => impl_nameOfGen logP (by decide) g W)
  have HT := Lib.hid htab
  clear htab
  generalize nm logP g = T at *
  go_enter Tryd.func39, Tryd.ntmps39
  go_wp2_with fail
  refine (HC.out _ HT.out).mono ?_
  rintro e w1 ⟨rfl, hb1⟩
  go_wp2_with fail
  go_ret
  exact ⟨rfl, hb1⟩
end Go.Proofs.YtckiloacbanbmaaDoor.Num
