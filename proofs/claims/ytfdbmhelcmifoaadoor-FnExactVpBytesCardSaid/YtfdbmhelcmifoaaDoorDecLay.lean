/- The library's contract of DecodeRune at this translation's numbers, and the two tables of the library out of a row's condition on them. -/
import Derived.Test.YtfdbmhelcmifoaaDoorRows
import Derived.Shelf.Spec.DecodeRune
import Derived.Lib.LaidU8T
import Derived.Lib.Hide
namespace Go.Proofs.YtfdbmhelcmifoaaDoor.Dec
open Go.Shelf Go.RowKit Go.Lib
set_option linter.unusedVariables false
def ren : Go.Shelf.Ren := ⟨fun | 32 => 110 | 49 => 111 | n => n, fun | 0 => 0 | 3 => 3 | 4 => 4 | 5 => 5 | 21 => 21 | 25 => 129 | 30 => 23 | 33 => 135 | 66 => 125 | 68 => 127 | 69 => 128 | n => n, fun | 2 => 0 | 3 => 1 | n => n⟩
theorem lays : Lays7.n32 Tryd.prog ren := {
  mixed := by kernel_rfl
  f32 := Tryd.func110.trans (congrArg some (by kernel_rfl))
  f49 := Tryd.func111.trans (congrArg some (by kernel_rfl))
  t0 := Tryd.underlying0
  a0 := Tryd.isAgg0
  z0 := Tryd.sizeOf0
  v0 := Tryd.zeroValue0
  i0 := by kernel_rfl
  t3 := Tryd.underlying3
  a3 := Tryd.isAgg3
  z3 := Tryd.sizeOf3
  v3 := Tryd.zeroValue3
  i3 := by kernel_rfl
  t4 := Tryd.underlying4
  a4 := Tryd.isAgg4
  z4 := Tryd.sizeOf4
  v4 := Tryd.zeroValue4
  i4 := by kernel_rfl
  t5 := Tryd.underlying5
  a5 := Tryd.isAgg5
  z5 := Tryd.sizeOf5
  v5 := Tryd.zeroValue5
  i5 := by kernel_rfl
  t21 := Tryd.underlying21
  a21 := Tryd.isAgg21
  z21 := Tryd.sizeOf21
  v21 := Tryd.zeroValue21
  i21 := by kernel_rfl
  t25 := Tryd.underlying129
  a25 := Tryd.isAgg129
  z25 := Tryd.sizeOf129
  v25 := Tryd.zeroValue129
  i25 := by kernel_rfl
  t30 := Tryd.underlying23
  a30 := Tryd.isAgg23
  z30 := Tryd.sizeOf23
  v30 := Tryd.zeroValue23
  i30 := by kernel_rfl
  t33 := Tryd.underlying135
  a33 := Tryd.isAgg135
  z33 := Tryd.sizeOf135
  v33 := Tryd.zeroValue135
  i33 := by kernel_rfl
  t66 := Tryd.underlying125
  a66 := Tryd.isAgg125
  z66 := Tryd.sizeOf125
  t68 := Tryd.underlying127
  a68 := Tryd.isAgg127
  z68 := Tryd.sizeOf127
  v68 := Tryd.zeroValue127
  i68 := by kernel_rfl
  t69 := Tryd.underlying128
  a69 := Tryd.isAgg128
  z69 := Tryd.sizeOf128
  v69 := Tryd.zeroValue128
  i69 := by kernel_rfl
  g2 := by kernel_rfl
  g3 := by kernel_rfl }
def ren2 : Go.Shelf.Ren := ⟨fun n => n, fun | 5 => 5 | 119 => 125 | 138 => 127 | 139 => 128 | n => n, fun | 3 => 0 | 4 => 1 | n => n⟩
theorem types : U8Types Tryd.prog ren2 := ⟨Tryd.underlying5, Tryd.underlying125, Tryd.underlying127, Tryd.underlying128⟩
def Tabs8 (w : World) : Prop := Lib.Utf8Tabs 0 1 w
theorem tabs8 {w : World} (h : laidMet Tryd.prog [("unicode/utf8.acceptRanges", Rows.laid_unicode_utf8_acceptRanges), ("unicode/utf8.first", Rows.laid_unicode_utf8_first)] w) : Tabs8 w := by
  have hf : (Rows.laid_unicode_utf8_first : DataW Unit) = firstData := by kernel_rfl
  have ha : (Rows.laid_unicode_utf8_acceptRanges : DataW Unit) = acceptData := by kernel_rfl
  rw [hf, ha] at h
  exact utf8Tabs_of_readsT types ⟨by kernel_rfl, by kernel_rfl, by kernel_rfl, by kernel_rfl, by kernel_rfl, by kernel_rfl, by kernel_rfl⟩ (Lib.laidMet.reads h (.tail _ (.head _))) (Lib.laidMet.reads h (.head _))
theorem decode_any (s : ByteArray) (b off cap : Nat) (w : World) (hT : Tabs8 w) (hp : ∀ j, j < s.size → w.cell? ⟨b, off + j, none⟩ = some (.int .u8 (s.get! j).toNat)) :
    Calls Tryd.prog 110 #[.slice (some ⟨b, off, none⟩) s.size cap] w fun e w' => e = .returned (.tuple #[.int .i32 (Lib.decodeGo s).1, .int .i64 (Lib.decodeGo s).2]) ∧ Below w.heap.size w w' :=
  Any7.utf8_DecodeRune lays s b off cap w hT hp
end Go.Proofs.YtfdbmhelcmifoaaDoor.Dec
