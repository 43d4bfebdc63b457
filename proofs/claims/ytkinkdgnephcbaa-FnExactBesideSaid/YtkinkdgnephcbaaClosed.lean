/- The closed facts of the program that a claim's frame asks for. -/
import Derived.Test.YtkinkdgnephcbaaRows
import Derived.WalkKit
import Derived.ProofKit
import Derived.OpenShut
import Derived.JoinedOf
namespace Go.Proofs.Ytkinkdgnephcbaa.Closed
theorem and_ {a b : Bool} (h : a = true) (k : b = true) : (a && b) = true := by rw [h, k]; rfl
theorem laid : laidOutB Try.checked.prog = true := by kernel_rfl
theorem rowed : mapsRowed Try.checked.prog = true := by kernel_rfl
theorem stops : (Try.checked.prog.stops == []) = true := by kernel_rfl
theorem knobs : (Try.checked.prog.stopKnobs == []) = true := by kernel_rfl
theorem keys : (Rows.fnTreeRow.plainKeys == Try.checked.prog.plainKeys) = true := by kernel_rfl
theorem heard : Try.checked.prog.stopsHeard = true := by kernel_rfl
theorem enter : Try.checked.prog.mayEnter = true := by kernel_rfl
theorem lifts : (Rows.fnTreeRow.lifted == Try.checked.prog.liftsFinal) = true := by kernel_rfl
theorem make : (Try.checked.prog.make == some Rows.fnTreeRow.make) = true := by kernel_rfl
end Go.Proofs.Ytkinkdgnephcbaa.Closed
