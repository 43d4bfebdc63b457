/- FnExactCellOk: the walk of the law from the contracts of the program, of its model and of the laws' helpers; at every cell, no condition. -/
import Derived.Test.YtknopmbjbokpaaaGrB
namespace Go.Proofs.Ytknopmbjbokpaaa.fnExactCellOk
open Go.RowKit Go.Proofs.Ytknopmbjbokpaaa.Gr Go.Proofs.Ytknopmbjbokpaaa.Rune Go.Proofs.Ytknopmbjbokpaaa.Attr
set_option linter.unusedVariables false
theorem own : ownKnob Try.prog.godebug = none := by kernel_rfl
set_option maxRecDepth 100000 in
theorem walk (r fg bg : Int) (b u t : Bool) (w : World) (w0 : (Lit.int .i64 r).wf = true) (w1 : (Lit.int .i64 fg).wf = true) (w2 : (Lit.int .i64 bg).wf = true) :
    Calls Try.prog 4 #[.agg #[.int .i64 r, .int .i64 fg, .int .i64 bg, .bool b, .bool u, .bool t]] w fun e w' => e = .returned (.bool true) ∧ Below w.heap.size w w' := by
  clear w0 w1 w2
  cases hv : (showB r && okA fg bg) <;> have HV := Lib.hid hv <;> clear hv <;>
  · go_enter Try.func4, Try.ntmps4
    have hb0 := Lib.hid ((Below.refl w.heap.size w).alloc (Nat.le_refl _) (.cells #[.int .i64 r, .int .i64 fg, .int .i64 bg, .bool b, .bool u, .bool t] 41))
    go_wp2_with fail
    refine (toCell_any _ _ _ _ _ _ _).mono ?_
    rintro e v1 ⟨rfl, hb1⟩
    obtain ⟨hc1, hf1⟩ := Rows_.bcell hb1
    have HB1 := Lib.hid (hb0.out.trans (hb1.mono (by simp)))
    have hz1 : w.heap.size < v1.heap.size := by have := hb1.size; simp at this; omega
    clear hb1
    go_wp2_with fail
    refine (spec_CellOk_any _ _ _ _ _ _ _).mono ?_
    rintro e v2 ⟨rfl, hb2⟩
    rw [HV.out]
    obtain ⟨hc2, hf2⟩ := Rows_.bcell hb2
    have HB2 := Lib.hid (HB1.out.trans (hb2.mono (by omega)))
    have hz2 : w.heap.size < v2.heap.size := by have := hb2.size; omega
    clear hb2
    go_wp2_with fail
    refine (toCell_any _ _ _ _ _ _ _).mono ?_
    rintro e v3 ⟨rfl, hb3⟩
    obtain ⟨hc3, hf3⟩ := Rows_.bcell hb3
    have HB3 := Lib.hid (HB2.out.trans (hb3.mono (by omega)))
    have hz3 : w.heap.size < v3.heap.size := by have := hb3.size; omega
    clear hb3
    go_wp2_with fail
    refine (impl_CellOk_any _ _ _ _ _ _ _).mono ?_
    rintro e v4 ⟨rfl, hb4⟩
    rw [HV.out]
    have HB4 := Lib.hid (HB3.out.trans (hb4.mono (by omega)))
    clear hb4
    go_wp2_with fail
    go_ret
    exact ⟨rfl, HB4.out⟩
end Go.Proofs.Ytknopmbjbokpaaa.fnExactCellOk
