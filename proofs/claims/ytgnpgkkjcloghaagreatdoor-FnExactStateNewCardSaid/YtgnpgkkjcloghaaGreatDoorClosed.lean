/- The closed facts of the program that a claim's frame asks for. -/
import Derived.Test.YtgnpgkkjcloghaaGreatDoorRows
import Derived.WalkKit
import Derived.ProofKit
import Derived.OpenShut
import Derived.JoinedOf
namespace Go.Proofs.YtgnpgkkjcloghaaGreatDoor.Closed
theorem and_ {a b : Bool} (h : a = true) (k : b = true) : (a && b) = true := by rw [h, k]; rfl
theorem laid : laidOutB Tryz.checked.prog = true := by kernel_rfl
theorem rowed : mapsRowed Tryz.checked.prog = true := by kernel_rfl
theorem stops : (Tryz.checked.prog.stops == []) = true := by kernel_rfl
theorem knobs : (Tryz.checked.prog.stopKnobs == []) = true := by kernel_rfl
theorem keys : (Rows.fnExactStateOkRow.plainKeys == Tryz.checked.prog.plainKeys) = true := by kernel_rfl
theorem heard : Tryz.checked.prog.stopsHeard = true := by kernel_rfl
theorem enter : Tryz.checked.prog.mayEnter = true := by kernel_rfl
theorem lifts : (Rows.fnExactStateOkRow.lifted == Tryz.checked.prog.liftsFinal) = true := by kernel_rfl
theorem make : (Tryz.checked.prog.make == some Rows.fnExactStateOkRow.make) = true := by kernel_rfl
end Go.Proofs.YtgnpgkkjcloghaaGreatDoor.Closed
