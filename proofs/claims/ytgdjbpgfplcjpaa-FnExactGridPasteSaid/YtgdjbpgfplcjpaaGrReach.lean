/- Parts that several texts use, moved out of GrFillI. -/
import Derived.Test.YtgdjbpgfplcjpaaGrFillM
import Derived.Deep.RegionHeld3
namespace Go.Proofs.Ytgdjbpgfplcjpaa.Gr
open Go.RowKit Go.Proofs.Ytgdjbpgfplcjpaa.Bytes Go.Proofs.Ytgdjbpgfplcjpaa.Rows_ Go.Proofs.Ytgdjbpgfplcjpaa.RowK
set_option linter.unusedVariables false
def BoxC (w : World) (b : Nat) (cs : Array Value) : Prop := w.heap[b]? = some (.cells cs 37 (0, 0))
theorem BoxC.lt {w : World} {b : Nat} {cs : Array Value} (h : BoxC w b cs) : b < w.heap.size := (Array.getElem?_eq_some_iff.1 h).1
theorem BoxC.cell {w : World} {b : Nat} {cs : Array Value} (h : BoxC w b cs) (j : Nat) : w.cell? ⟨b, j, none⟩ = cs[j]? := by unfold BoxC at h; simp [World.cell?, h]
theorem BoxC.below {w w' : World} {b B : Nat} {cs : Array Value} (h : BoxC w b cs) (hb : Below B w w') (hB : b < B) : BoxC w' b cs := by unfold BoxC at h ⊢; rw [hb.block b hB]; exact h
theorem BoxC.only {S : Nat → Prop} {w w' : World} {b : Nat} {cs : Array Value} (h : BoxC w b cs) (on : Only S w w') (hn : ¬ S b) : BoxC w' b cs := by
  have hl := h.lt
  unfold BoxC at h ⊢; rw [on.block b hl hn]; exact h
theorem BoxC.new (w : World) (cs : Array Value) : BoxC (w.alloc (.cells cs 37)) w.heap.size cs := heap_alloc_new w _
set_option maxRecDepth 100000 in
theorem isReach_any (x : Int) (w : World) : Calls Try.prog 35 #[.int .i64 x] w fun e w' => e = .returned (.bool (smallB x)) ∧ w = w' := by
  by_cases h1 : -100000 ≤ x
  · have HE := Lib.hid (show smallB x = decide (x ≤ 100000) by unfold smallB; simp [h1])
    go_enter Try.func35, Try.ntmps35
    go_wp2_with fail
    go_ret
    exact ⟨ret_bool HE.out.symm, rfl⟩
  · have HE := Lib.hid (show smallB x = false by unfold smallB; simp [h1])
    go_enter Try.func35, Try.ntmps35
    go_wp2_with fail
    go_ret
    exact ⟨ret_bool HE.out.symm, rfl⟩
theorem of_smallB {x : Int} (h : smallB x = true) : -100000 ≤ x ∧ x ≤ 100000 := of_decide_eq_true h

end Go.Proofs.Ytgdjbpgfplcjpaa.Gr
