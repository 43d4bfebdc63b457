/- FnExactLogName: the walk of the law. -/
import Derived.Test.YtmlodfceepokoaaDoorGenName
import Derived.Test.YtmlodfceepokoaaDoorTabs
namespace Go.Proofs.YtmlodfceepokoaaDoor.Num
open Go.RowKit
set_option linter.unusedVariables false

theorem impl_LogName_any (g : Int) (w : World) (htab : Lib.TabIs Tryd.prog w "internal/strconv.uint64pow10" .u64 Lib.pow10Tab) :
    Calls Tryd.prog 21 #[.int .i64 g] w fun e w' => e = .returned (.string (nm logP g)) ∧ Below w.heap.size w w' := by
  have HC := Lib.hid (fun W => impl_nameOfGen logP (by decide) g W)
  have HT := Lib.hid htab
  clear htab
  generalize nm logP g = T at *
  go_enter Tryd.func21, Tryd.ntmps21
  go_wp2_with fail
  refine (HC.out _ HT.out).mono ?_
  rintro e w1 ⟨rfl, hb1⟩
  go_wp2_with fail
  go_ret
  exact ⟨rfl, hb1⟩
set_option maxRecDepth 100000 in
theorem lawLogName (a0 : Int) (w0 : (Lit.int .i64 a0).wf = true) (w : World) (htab : Lib.TabIs Tryd.prog w "internal/strconv.uint64pow10" .u64 Lib.pow10Tab) :
    Calls Tryd.prog 6 #[.int .i64 a0] w fun e w' => e = .returned (.bool true) ∧ Below w.heap.size w w' := by
  have HT := Lib.hid htab
  clear htab
  have HS := Lib.hid (fun W => spec_LogName_any a0 W)
  have HI := Lib.hid (fun W => impl_LogName_any a0 W)
  generalize nm logP a0 = t at *
  go_enter Tryd.func6, Tryd.ntmps6
  go_wp2_with fail
  refine (HS.out _).mono ?_
  rintro e w1 ⟨rfl, hb1⟩
  have ht1 := Lib.hid (var_below hb1 HT.out)
  have hb1s := hb1.size
  go_wp2_with fail
  refine (HI.out _ ht1.out).mono ?_
  rintro e w2 ⟨rfl, hb2⟩
  have hb3 := hb1.trans (hb2.mono hb1s)
  go_wp2_with fail
  go_ret
  exact ⟨rfl, hb3⟩
end Go.Proofs.YtmlodfceepokoaaDoor.Num
