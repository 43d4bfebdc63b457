/- FnExactGenOf: the walk of the law. -/
import Derived.Test.YtmlodfceepokoaaDoorGenOf
import Derived.Test.YtmlodfceepokoaaDoorTabs2
namespace Go.Proofs.YtmlodfceepokoaaDoor.Num
open Go.RowKit Go.Shelf
set_option linter.unusedVariables false

set_option maxRecDepth 100000 in
theorem lawGenOf (a0 : ByteArray) (w0 : a0.size ≤ maxLen) (w : World) (hf : ErrVars w ∧ Lib.TabIs Tryd.prog w "internal/strconv.uint64pow10" .u64 Lib.pow10Tab) :
    Calls Tryd.prog 7 #[.string a0] w fun e w' => e = .returned (.bool true) ∧ Below w.heap.size w w' := by
  unfold maxLen at w0
  have HE := Lib.hid hf.1
  have HT := Lib.hid hf.2
  clear hf
  by_cases hbig : a0.size ≤ 1048576
  · have hs := Lib.hid (fun W => spec_GenOf_any a0 hbig W)
    have hi := Lib.hid (fun W => impl_GenOf_any a0 hbig W)
    generalize goV a0 = V at *
    generalize goOk a0 = B at *
    go_enter Tryd.func7, Tryd.ntmps7
    go_wp2_with fail
    refine (hs.out _).mono ?_
    rintro e w1 ⟨rfl, hb1⟩
    have HE1 := Lib.hid (HE.out.below hb1)
    have HT1 := Lib.hid (var_below hb1 HT.out)
    have hb1s := hb1.size
    go_wp2_with fail
    refine (hi.out _ HE1.out HT1.out).mono ?_
    rintro e w2 ⟨rfl, hb2⟩
    have hb3 := hb1.trans (hb2.mono hb1s)
    go_wp2_with fail
    go_ret
    exact ⟨rfl, hb3⟩
  · have hbig' : 1048576 < a0.size := by omega
    go_enter Tryd.func7, Tryd.ntmps7
    go_wp2_with fail
    go_ret
    exact ⟨rfl, Below.refl _ _⟩
end Go.Proofs.YtmlodfceepokoaaDoor.Num
