/- FnExactShows: the walk of the law from the contracts of the program and of its model; at every int, no condition. -/
import Derived.Test.YtmmdggmnjmoebaaShows
namespace Go.Proofs.Ytmmdggmnjmoebaa.fnExactShows
open Go.RowKit Go.Proofs.Ytmmdggmnjmoebaa.Rune
set_option linter.unusedVariables false
theorem own : ownKnob Try.prog.godebug = none := by kernel_rfl
set_option maxRecDepth 100000 in
theorem walk (r : Int) (w : World) (w0 : (Lit.int .i64 r).wf = true) :
    Calls Try.prog 3 #[.int .i64 r] w fun e w' => e = .returned (.bool true) ∧ Below w.heap.size w w' := by
  clear w0
  cases hv : showB r <;> have HV := Lib.hid hv <;> clear hv <;>
  · go_enter Try.func3, Try.ntmps3
    go_wp2_with fail
    refine (spec_Shows_any _ _).mono ?_
    rintro e w' ⟨rfl, rfl⟩
    rw [HV.out]
    go_wp2_with fail
    refine (impl_Shows_any _ _).mono ?_
    rintro e w' ⟨rfl, rfl⟩
    rw [HV.out]
    go_wp2_with fail
    go_ret
    exact ⟨rfl, Below.refl _ _⟩
end Go.Proofs.Ytmmdggmnjmoebaa.fnExactShows
