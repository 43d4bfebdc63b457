/- The program's isRightOf. -/
import Derived.Test.YtkinkdgnephcbaaTrBe
import Derived.Test.YtkinkdgnephcbaaTrI2
import Derived.RegionTactic
namespace Go.Proofs.Ytkinkdgnephcbaa.Tr
open Go.RowKit Go.Proofs.Ytkinkdgnephcbaa.Bytes Go.Proofs.Ytkinkdgnephcbaa.Rows_ Go.Proofs.Ytkinkdgnephcbaa.RowK Go.Proofs.Ytkinkdgnephcbaa.DOk Go.Proofs.Ytkinkdgnephcbaa.Opq
open Tree
set_option linter.unusedVariables false
attribute [local go_sem ↓] Go.wp_at_zero Go.wp_at_succ
def rightD (a b : RectD) : Bool := decide (a.x + a.w + 1 = b.x) && meetD a.y a.h b.y b.h
theorem meetD_comm (a an b bn : Int) : meetD a an b bn = meetD b bn a an := by unfold meetD; rw [Bool.and_comm]
theorem below_two (w : World) (C D : Array Value) (S T : TypeId) : Below w.heap.size w ((w.alloc (.cells C S)).alloc (.cells D T)) := ((Below.refl _ _).alloc (Nat.le_refl _) _).alloc (by simp) _
set_option maxRecDepth 100000 in
set_option maxHeartbeats 1600000 in
theorem isRightOf_any (p x y v h p' x' y' v' h' : Int) (w : World) (ha : RB ⟨p, x, y, v, h⟩) (hb : RB ⟨p', x', y', v', h'⟩) :
    Calls Try.prog 125 #[.agg #[.int .i64 p, .int .i64 x, .int .i64 y, .int .i64 v, .int .i64 h], .agg #[.int .i64 p', .int .i64 x', .int .i64 y', .int .i64 v', .int .i64 h']] w fun e u => e = .returned (.bool (rightD ⟨p, x, y, v, h⟩ ⟨p', x', y', v', h'⟩)) ∧ Below w.heap.size w u := by
  obtain ⟨a1, a2, a3, a4, a5, a6⟩ := ha
  obtain ⟨b1, b2, b3, b4, b5, b6⟩ := hb
  simp only at a1 a2 a3 a4 a5 a6 b1 b2 b3 b4 b5 b6
  by_cases q0 : x + v + 1 = x'
  · have q0' : (x + v + 1 == x') = true := by simpa using q0
    by_cases q1 : y < y' + h'
    · have hr : rightD ⟨p, x, y, v, h⟩ ⟨p', x', y', v', h'⟩ = decide (y' < y + h) := by unfold rightD meetD; simp [q0, q1]
      rw [hr]
      clear hr
      go_enter Try.func125, Try.ntmps125
      go_wp2_with fail
      go_ret
      exact ⟨by first | rfl | simp [*], below_two w _ _ _ _⟩
    · have q1' : decide (y < y' + h') = false := by simpa using q1
      have hr : rightD ⟨p, x, y, v, h⟩ ⟨p', x', y', v', h'⟩ = false := by unfold rightD meetD; simp [q1]
      rw [hr]
      clear hr
      go_enter Try.func125, Try.ntmps125
      go_wp2_with fail
      go_ret
      exact ⟨by first | rfl | simp [*], below_two w _ _ _ _⟩
  · have q0' : (x + v + 1 == x') = false := by simpa using q0
    have hr : rightD ⟨p, x, y, v, h⟩ ⟨p', x', y', v', h'⟩ = false := by unfold rightD meetD; simp [q0]
    rw [hr]
    clear hr
    go_enter Try.func125, Try.ntmps125
    go_wp2_with fail
    go_ret
    exact ⟨by first | rfl | simp [*], below_two w _ _ _ _⟩
end Go.Proofs.Ytkinkdgnephcbaa.Tr
