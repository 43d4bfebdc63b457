/- CellOk in the program and in the model; at every cell. -/
import Derived.Test.YthlpchojlddnbaaGrC
import Derived.Test.YthlpchojlddnbaaAttrB
import Derived.Test.YthlpchojlddnbaaShows
namespace Go.Proofs.Ythlpchojlddnbaa.Gr
open Go.RowKit Go.Proofs.Ythlpchojlddnbaa.Bytes Go.Proofs.Ythlpchojlddnbaa.Rows_ Go.Proofs.Ythlpchojlddnbaa.Attr Go.Proofs.Ythlpchojlddnbaa.Rune
set_option linter.unusedVariables false
set_option maxRecDepth 100000 in
set_option maxHeartbeats 800000 in
theorem spec_CellOk_any (r fg bg : Int) (b u t : Bool) (w : World) :
    Calls Try.prog 37 #[.agg #[.int .i64 r, .int .i64 fg, .int .i64 bg, .bool b, .bool u, .bool t]] w fun e w' => e = .returned (.bool (showB r && okA fg bg)) ∧ Below w.heap.size w w' := by
  have h0 := Lib.hid ((Below.refl w.heap.size w).alloc (Nat.le_refl _) (.cells #[.int .i64 r, .int .i64 fg, .int .i64 bg, .bool b, .bool u, .bool t] 37))
  cases hs : showB r <;> have HS := Lib.hid hs <;> clear hs
  · go_enter Try.func37, Try.ntmps37
    go_wp2_with fail
    refine (spec_Shows_any _ _).mono ?_
    rintro e v1 ⟨rfl, rfl⟩
    rw [HS.out]
    go_wp2_with fail
    go_ret
    exact ⟨rfl, h0.out⟩
  · cases ha : okA fg bg <;> have HA := Lib.hid ha <;> clear ha <;>
    · go_enter Try.func37, Try.ntmps37
      go_wp2_with fail
      refine (spec_Shows_any _ _).mono ?_
      rintro e v1 ⟨rfl, rfl⟩
      rw [HS.out]
      go_wp2_with fail
      refine (spec_AttrOk_any _ _ _ _ _ _).mono ?_
      rintro e v1 ⟨rfl, hb1⟩
      rw [HA.out]
      have h1 := Lib.hid (h0.out.trans (hb1.mono (by simp)))
      clear hb1
      go_wp2_with fail
      go_ret
      exact ⟨rfl, h1.out⟩

set_option maxRecDepth 100000 in
set_option maxHeartbeats 800000 in
theorem impl_CellOk_any (r fg bg : Int) (b u t : Bool) (w : World) :
    Calls Try.prog 43 #[.agg #[.int .i64 r, .int .i64 fg, .int .i64 bg, .bool b, .bool u, .bool t]] w fun e w' => e = .returned (.bool (showB r && okA fg bg)) ∧ Below w.heap.size w w' := by
  have h0 := Lib.hid ((Below.refl w.heap.size w).alloc (Nat.le_refl _) (.cells #[.int .i64 r, .int .i64 fg, .int .i64 bg, .bool b, .bool u, .bool t] 37))
  cases hs : showB r <;> have HS := Lib.hid hs <;> clear hs
  · go_enter Try.func43, Try.ntmps43
    go_wp2_with fail
    refine (impl_Shows_any _ _).mono ?_
    rintro e v1 ⟨rfl, rfl⟩
    rw [HS.out]
    go_wp2_with fail
    go_ret
    exact ⟨rfl, h0.out⟩
  · cases ha : okA fg bg <;> have HA := Lib.hid ha <;> clear ha <;>
    · go_enter Try.func43, Try.ntmps43
      go_wp2_with fail
      refine (impl_Shows_any _ _).mono ?_
      rintro e v1 ⟨rfl, rfl⟩
      rw [HS.out]
      go_wp2_with fail
      refine (impl_AttrOk_any _ _ _ _ _ _).mono ?_
      rintro e v1 ⟨rfl, hb1⟩
      rw [HA.out]
      have h1 := Lib.hid (h0.out.trans (hb1.mono (by simp)))
      clear hb1
      go_wp2_with fail
      go_ret
      exact ⟨rfl, h1.out⟩
end Go.Proofs.Ythlpchojlddnbaa.Gr

