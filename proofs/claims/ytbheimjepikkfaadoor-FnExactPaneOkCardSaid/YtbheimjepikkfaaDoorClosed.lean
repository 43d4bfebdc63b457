/- The closed facts of the program that a claim's frame asks for. -/
import Derived.Test.YtbheimjepikkfaaDoorRows
import Derived.WalkKit
import Derived.ProofKit
import Derived.OpenShut
import Derived.JoinedOf
namespace Go.Proofs.YtbheimjepikkfaaDoor.Closed
theorem and_ {a b : Bool} (h : a = true) (k : b = true) : (a && b) = true := by rw [h, k]; rfl
theorem laid : laidOutB Tryd.checked.prog = true := by kernel_rfl
theorem rowed : mapsRowed Tryd.checked.prog = true := by kernel_rfl
theorem stops : (Tryd.checked.prog.stops == []) = true := by kernel_rfl
theorem knobs : (Tryd.checked.prog.stopKnobs == []) = true := by kernel_rfl
theorem keys : (Rows.fnExactTermOkRow.plainKeys == Tryd.checked.prog.plainKeys) = true := by kernel_rfl
theorem heard : Tryd.checked.prog.stopsHeard = true := by kernel_rfl
theorem enter : Tryd.checked.prog.mayEnter = true := by kernel_rfl
theorem lifts : (Rows.fnExactTermOkRow.lifted == Tryd.checked.prog.liftsFinal) = true := by kernel_rfl
theorem make : (Tryd.checked.prog.make == some Rows.fnExactTermOkRow.make) = true := by kernel_rfl
end Go.Proofs.YtbheimjepikkfaaDoor.Closed
