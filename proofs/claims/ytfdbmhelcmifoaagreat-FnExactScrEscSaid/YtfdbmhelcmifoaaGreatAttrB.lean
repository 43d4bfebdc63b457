/- Words and contracts over an attribute (a struct of two ints and three bools): the laws' copy, AttrOk in the program and in the model; at every attribute. -/
import Derived.Test.YtfdbmhelcmifoaaGreatRows
import Derived.WalkKit
import Derived.WalkSmall
import Derived.Below
import Derived.Lib.Hide
namespace Go.Proofs.YtfdbmhelcmifoaaGreat.Attr
open Go.RowKit
set_option linter.unusedVariables false
theorem rt_bool {a b : Bool} (h : a = b) : Ending.returned (.bool a) = .returned (.bool b) := by rw [h]
theorem bcell {W w1 : World} (hb : Below W.heap.size W w1) : (∀ b o, b < W.heap.size → w1.cell? ⟨b, o, none⟩ = W.cell? ⟨b, o, none⟩) ∧ (∀ b o, b < W.heap.size → w1.frozen? ⟨b, o, none⟩ = W.frozen? ⟨b, o, none⟩) :=
  ⟨fun b o h => hb.cell (p := ⟨b, o, none⟩) h, fun b o h => hb.frozen (p := ⟨b, o, none⟩) h⟩
def okA (fg bg : Int) : Bool := decide (0 ≤ fg ∧ fg ≤ 8 ∧ 0 ≤ bg ∧ bg ≤ 8)
theorem okA_t {fg bg : Int} (h : okA fg bg = true) : 0 ≤ fg ∧ fg ≤ 8 ∧ 0 ≤ bg ∧ bg ≤ 8 := of_decide_eq_true h
theorem okA_f {fg bg : Int} (h : okA fg bg = false) : ¬ (0 ≤ fg ∧ fg ≤ 8 ∧ 0 ≤ bg ∧ bg ≤ 8) := of_decide_eq_false h

set_option maxRecDepth 100000 in
set_option maxHeartbeats 400000 in
theorem toAttr_any (fg bg : Int) (b u t : Bool) (w : World) :
    Calls Tryz.prog 63 #[.agg #[.int .i64 fg, .int .i64 bg, .bool b, .bool u, .bool t]] w
      fun e w' => e = .returned (.agg #[.int .i64 fg, .int .i64 bg, .bool b, .bool u, .bool t]) ∧ Below w.heap.size w w' := by
  go_enter Tryz.func63, Tryz.ntmps63
  go_wp2_with fail
  refine bodyPost_ret (v := .agg #[.int .i64 fg, .int .i64 bg, .bool b, .bool u, .bool t]) (by simp [results, Tryz.results63, go_sem]) rfl ⟨rfl, ?_⟩
  repeat (first | refine Below.setCell ?_ (by simp <;> omega) _ | refine Below.alloc ?_ (by simp <;> omega) _)
  exact Below.refl _ _

set_option maxRecDepth 100000 in
set_option maxHeartbeats 400000 in
theorem spec_AttrOk_any (fg bg : Int) (b u t : Bool) (w : World) :
    Calls Tryz.prog 106 #[.agg #[.int .i64 fg, .int .i64 bg, .bool b, .bool u, .bool t]] w fun e w' => e = .returned (.bool (okA fg bg)) ∧ Below w.heap.size w w' := by
  go_enter Tryz.func106, Tryz.ntmps106
  go_wp2
  all_goals
    go_ret
    refine ⟨rt_bool (by unfold okA; rw [Bool.eq_iff_iff]; simp <;> omega), ?_⟩
    exact (Below.refl _ _).alloc (Nat.le_refl _) _

def colB (n : Int) : Bool := decide (0 ≤ n ∧ n ≤ 8)
set_option maxRecDepth 100000 in
set_option maxHeartbeats 400000 in
theorem isColor_any (n : Int) (w : World) :
    Calls Tryz.prog 101 #[.int .i64 n] w fun e w' => e = .returned (.bool (colB n)) ∧ w = w' := by
  go_enter Tryz.func101, Tryz.ntmps101
  go_wp2
  all_goals
    go_ret
    exact ⟨rt_bool (by unfold colB; rw [Bool.eq_iff_iff]; simp <;> omega), rfl⟩
theorem okA_split (fg bg : Int) : okA fg bg = (colB fg && colB bg) := by
  unfold okA colB; rw [Bool.eq_iff_iff]; simp; omega

set_option maxRecDepth 100000 in
set_option maxHeartbeats 400000 in
theorem impl_AttrOk_any (fg bg : Int) (b u t : Bool) (w : World) :
    Calls Tryz.prog 47 #[.agg #[.int .i64 fg, .int .i64 bg, .bool b, .bool u, .bool t]] w fun e w' => e = .returned (.bool (okA fg bg)) ∧ Below w.heap.size w w' := by
  cases hf : colB fg <;> have HF := Lib.hid hf <;> clear hf <;> cases hg : colB bg <;> have HG := Lib.hid hg <;> clear hg <;>
  · go_enter Tryz.func47, Tryz.ntmps47
    go_wp2_with (go_at_call 101; refine (isColor_any _ _).mono ?_; rintro e w' ⟨rfl, rfl⟩; (first | rw [HF.out] | rw [HG.out]))
    go_ret
    exact ⟨rt_bool (by rw [okA_split, HF.out, HG.out]; rfl), (Below.refl _ _).alloc (Nat.le_refl _) _⟩
end Go.Proofs.YtfdbmhelcmifoaaGreat.Attr
