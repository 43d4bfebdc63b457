/- The two tables stay where they are in every later world. -/
import Derived.Test.YtbheimjepikkfaaDoorDecTab
import Derived.WalkKit
import Derived.Below
namespace Go.Proofs.YtbheimjepikkfaaDoor.Rune
open Go.RowKit
set_option linter.unusedVariables false
theorem tabs_below {w w' : World} (h : Dec.Tabs8 w) (hb : Below w.heap.size w w') : Dec.Tabs8 w' := by
  refine ⟨fun c hc => ?_, fun i hi => ⟨?_, ?_⟩⟩
  · have e := h.1 c hc
    exact (hb.cell (p := ⟨0, c, none⟩) (World.block_lt_of_cell? w _ e)).trans e
  · have e := (h.2 i hi).1
    exact (hb.cell (p := ⟨1, 2 * i, none⟩) (World.block_lt_of_cell? w _ e)).trans e
  · have e := (h.2 i hi).2
    exact (hb.cell (p := ⟨1, 2 * i + 1, none⟩) (World.block_lt_of_cell? w _ e)).trans e
end Go.Proofs.YtbheimjepikkfaaDoor.Rune
