/- Two cells compared: as data, and in the walk. -/
import Derived.Test.YteiojpglhmikoaaGrTo
import Derived.Deep.QuietTactic
import Derived.BigQuiet
import Derived.Laws.StructEq
namespace Go.Proofs.Yteiojpglhmikoaa.Gr
open Go.RowKit Go.Proofs.Yteiojpglhmikoaa.Bytes Go.Proofs.Yteiojpglhmikoaa.Rows_ Go.Proofs.Yteiojpglhmikoaa.RowK
set_option linter.unusedVariables false
def beqC (x y : CellD) : Bool := decide (x.r = y.r ∧ x.fg = y.fg ∧ x.bg = y.bg ∧ x.b = y.b ∧ x.u = y.u ∧ x.t = y.t)
theorem beqC_iff (x y : CellD) : beqC x y = true ↔ x = y := by
  obtain ⟨a, b, c, d, e, f⟩ := x; obtain ⟨a', b', c', d', e', f'⟩ := y
  unfold beqC; simp
set_option maxRecDepth 100000 in
theorem guardC (x y : Operand) (xs ys : Array Value) (w : World) : (eqGuard .neq 86 x y (.agg xs) (.agg ys)).run Try.prog w = .ok () w := run_eqGuard_agg w .neq 86 x y xs ys (by kernel_rfl)
set_option maxRecDepth 100000 in
theorem neqC (x0 x1 x2 y0 y1 y2 : Int) (x3 x4 x5 y3 y4 y5 : Bool) (w : World) :
    (binOp .neq 86 (.agg #[.int .i64 x0, .int .i64 x1, .int .i64 x2, .bool x3, .bool x4, .bool x5]) (.agg #[.int .i64 y0, .int .i64 y1, .int .i64 y2, .bool y3, .bool y4, .bool y5])).run Try.prog w
      = .ok (.bool (!decide (x0 = y0 ∧ x1 = y1 ∧ x2 = y2 ∧ x3 = y3 ∧ x4 = y4 ∧ x5 = y5))) w := by
  have u1 := Try.underlying86
  have u2 := Try.underlying84
  have u3 := Try.underlying3
  have u4 := Try.underlying4
  have s1 : Try.prog.stoodInHeld 86 = false := by kernel_rfl
  have s2 : Try.prog.stoodInHeld 84 = false := by kernel_rfl
  rw [run_neq_struct]
  rw [run_equalIn_struct w 9999 86 _ _ (by unfold Program.fieldsOf; rw [u1]) s1]
  have hA : ∀ (xs ys : Array Value) (w : World), (Op.equalIn 9999 84 (.agg xs) (.agg ys)).run Try.prog w = (Op.eqFields 9998 xs ys (Try.prog.fieldsOf 84).toList).run Try.prog w := fun xs ys w => run_equalIn_struct w 9998 84 xs ys (by unfold Program.fieldsOf; rw [u2]) s2
  have f1 : (Try.prog.fieldsOf 86) = (match Try.prog.underlying 86 with | some (.struct fs) => fs | _ => #[]) := rfl
  have f2 : (Try.prog.fieldsOf 84) = (match Try.prog.underlying 84 with | some (.struct fs) => fs | _ => #[]) := rfl
  rw [u1] at f1
  rw [u2] at f2
  simp only [f2] at hA
  simp only [f1]
  have hI : ∀ (d : Nat) (a b : Int) (w : World), (Op.equalIn (d + 1) 3 (.int .i64 a) (.int .i64 b)).run Try.prog w = .ok (a == b) w := fun d a b w => run_equalIn_int w d 3 .i64 .i64 a b u3
  have hB : ∀ (d : Nat) (a b : Bool) (w : World), (Op.equalIn (d + 1) 4 (.bool a) (.bool b)).run Try.prog w = .ok (a == b) w := fun d a b w => run_equalIn_bool' w d 4 a b u4
  have hI1 := hI 9998
  have hI2 := hI 9997
  have hB2 := hB 9997
  have c0 : Try.prog.cellsOf 3 = 1 := by kernel_rfl
  have c1 : Try.prog.cellsOf 4 = 1 := by kernel_rfl
  have c2 : Try.prog.cellsOf 84 = 5 := by kernel_rfl
  simp [Op.eqFields, go_sem, hA, hI1, hI2, hB2]
  by_cases h0 : x0 = y0 <;> by_cases h1 : x1 = y1 <;> by_cases h2 : x2 = y2 <;> by_cases h3 : x3 = y3 <;> by_cases h4 : x4 = y4 <;> by_cases h5 : x5 = y5 <;> simp [h0, h1, h2, h3, h4, h5]

set_option maxRecDepth 100000 in
theorem guardE (x y : Operand) (xs ys : Array Value) (w : World) : (eqGuard .eql 86 x y (.agg xs) (.agg ys)).run Try.prog w = .ok () w := run_eqGuard_agg w .eql 86 x y xs ys (by kernel_rfl)
set_option maxRecDepth 100000 in
theorem eqlC (x0 x1 x2 y0 y1 y2 : Int) (x3 x4 x5 y3 y4 y5 : Bool) (w : World) :
    (binOp .eql 86 (.agg #[.int .i64 x0, .int .i64 x1, .int .i64 x2, .bool x3, .bool x4, .bool x5]) (.agg #[.int .i64 y0, .int .i64 y1, .int .i64 y2, .bool y3, .bool y4, .bool y5])).run Try.prog w
      = .ok (.bool (decide (x0 = y0 ∧ x1 = y1 ∧ x2 = y2 ∧ x3 = y3 ∧ x4 = y4 ∧ x5 = y5))) w := by
  have u1 := Try.underlying86
  have u2 := Try.underlying84
  have u3 := Try.underlying3
  have u4 := Try.underlying4
  have s1 : Try.prog.stoodInHeld 86 = false := by kernel_rfl
  have s2 : Try.prog.stoodInHeld 84 = false := by kernel_rfl
  rw [run_eql_struct]
  rw [run_equalIn_struct w 9999 86 _ _ (by unfold Program.fieldsOf; rw [u1]) s1]
  have hA : ∀ (xs ys : Array Value) (w : World), (Op.equalIn 9999 84 (.agg xs) (.agg ys)).run Try.prog w = (Op.eqFields 9998 xs ys (Try.prog.fieldsOf 84).toList).run Try.prog w := fun xs ys w => run_equalIn_struct w 9998 84 xs ys (by unfold Program.fieldsOf; rw [u2]) s2
  have f1 : (Try.prog.fieldsOf 86) = (match Try.prog.underlying 86 with | some (.struct fs) => fs | _ => #[]) := rfl
  have f2 : (Try.prog.fieldsOf 84) = (match Try.prog.underlying 84 with | some (.struct fs) => fs | _ => #[]) := rfl
  rw [u1] at f1
  rw [u2] at f2
  simp only [f2] at hA
  simp only [f1]
  have hI : ∀ (d : Nat) (a b : Int) (w : World), (Op.equalIn (d + 1) 3 (.int .i64 a) (.int .i64 b)).run Try.prog w = .ok (a == b) w := fun d a b w => run_equalIn_int w d 3 .i64 .i64 a b u3
  have hB : ∀ (d : Nat) (a b : Bool) (w : World), (Op.equalIn (d + 1) 4 (.bool a) (.bool b)).run Try.prog w = .ok (a == b) w := fun d a b w => run_equalIn_bool' w d 4 a b u4
  have hI1 := hI 9998
  have hI2 := hI 9997
  have hB2 := hB 9997
  have c0 : Try.prog.cellsOf 3 = 1 := by kernel_rfl
  have c1 : Try.prog.cellsOf 4 = 1 := by kernel_rfl
  have c2 : Try.prog.cellsOf 84 = 5 := by kernel_rfl
  simp [Op.eqFields, go_sem, hA, hI1, hI2, hB2]
  by_cases h0 : x0 = y0 <;> by_cases h1 : x1 = y1 <;> by_cases h2 : x2 = y2 <;> by_cases h3 : x3 = y3 <;> by_cases h4 : x4 = y4 <;> by_cases h5 : x5 = y5 <;> simp [h0, h1, h2, h3, h4, h5]

end Go.Proofs.Yteiojpglhmikoaa.Gr

