/- The two tables of the library out of a row's condition on them. -/
import Derived.Test.YtgnpgkkjcloghaaGreatDoorRows
import Derived.Lib.LaidU8T
import Derived.Lib.Hide
namespace Go.Proofs.YtgnpgkkjcloghaaGreatDoor.Dec
open Go.Shelf Go.RowKit Go.Lib
set_option linter.unusedVariables false
def ren2 : Go.Shelf.Ren := ⟨fun n => n, fun | 5 => 5 | 119 => 237 | 138 => 239 | 139 => 240 | n => n, fun | 3 => 0 | 4 => 1 | n => n⟩
theorem types : U8Types Tryz.prog ren2 := ⟨Tryz.underlying5, Tryz.underlying237, Tryz.underlying239, Tryz.underlying240⟩
def Tabs8 (w : World) : Prop := Lib.Utf8Tabs 0 1 w
theorem tabs8 {w : World} (h : laidMet Tryz.prog [("unicode/utf8.acceptRanges", Rows.laid_unicode_utf8_acceptRanges), ("unicode/utf8.first", Rows.laid_unicode_utf8_first)] w) : Tabs8 w := by
  have hf : (Rows.laid_unicode_utf8_first : DataW Unit) = firstData := by kernel_rfl
  have ha : (Rows.laid_unicode_utf8_acceptRanges : DataW Unit) = acceptData := by kernel_rfl
  rw [hf, ha] at h
  exact utf8Tabs_of_readsT types ⟨by kernel_rfl, by kernel_rfl, by kernel_rfl, by kernel_rfl, by kernel_rfl, by kernel_rfl, by kernel_rfl⟩ (Lib.laidMet.reads h (.tail _ (.head _))) (Lib.laidMet.reads h (.head _))
end Go.Proofs.YtgnpgkkjcloghaaGreatDoor.Dec

