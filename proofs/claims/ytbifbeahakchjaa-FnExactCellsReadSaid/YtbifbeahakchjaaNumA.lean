/- Contracts of NumAttr, in the program (bits) and in the model (quotients): both answer the same; at every int. -/
import Derived.Test.YtbifbeahakchjaaAttr
import Derived.Deep.QuietTactic
import Derived.BigQuiet
import Derived.IntWalk
import Derived.Outline
namespace Go.Proofs.Ytbifbeahakchjaa.Attr
open Go.RowKit
set_option linter.unusedVariables false
def naV (n : Int) : Value := .agg #[.int .i64 (n / 8 % 9), .int .i64 (n / 72), .bool (n % 2 == 1), .bool (n / 2 % 2 == 1), .bool (n / 4 % 2 == 1)]

set_option maxRecDepth 100000 in
set_option maxHeartbeats 800000 in
theorem spec_NumAttr_no (n : Int) (w : World) (h : n < 0 ∨ 648 ≤ n) :
    Calls Try.prog 53 #[.int .i64 n] w fun e w' => e = .returned (.tuple #[.agg #[.int .i64 0, .int .i64 0, .bool false, .bool false, .bool false], .bool false]) ∧ Below w.heap.size w w' := by
  rcases h with h | h <;>
  · go_enter Try.func53, Try.ntmps53
    go_wp2_with fail
    refine bodyPost_ret (v := .tuple #[.agg #[.int .i64 0, .int .i64 0, .bool false, .bool false, .bool false], .bool false]) (by simp [results, Try.results53, go_sem]) rfl ⟨rfl, ?_⟩
    repeat (first | refine Below.setCell ?_ (by simp <;> omega) _ | refine Below.alloc ?_ (by simp <;> omega) _)
    exact Below.refl _ _
set_option maxRecDepth 100000 in
set_option maxHeartbeats 800000 in
theorem impl_NumAttr_no (n : Int) (w : World) (h : n < 0 ∨ 648 ≤ n) :
    Calls Try.prog 117 #[.int .i64 n] w fun e w' => e = .returned (.tuple #[.agg #[.int .i64 0, .int .i64 0, .bool false, .bool false, .bool false], .bool false]) ∧ Below w.heap.size w w' := by
  rcases h with h | h <;>
  · go_enter Try.func117, Try.ntmps117
    go_wp2_with fail
    refine bodyPost_ret (v := .tuple #[.agg #[.int .i64 0, .int .i64 0, .bool false, .bool false, .bool false], .bool false]) (by simp [results, Try.results117, go_sem]) rfl ⟨rfl, ?_⟩
    repeat (first | refine Below.setCell ?_ (by simp <;> omega) _ | refine Below.alloc ?_ (by simp <;> omega) _)
    exact Below.refl _ _

set_option maxRecDepth 100000 in
set_option maxHeartbeats 800000 in
theorem spec_NumAttr_yes (n : Int) (w : World) (h0 : 0 ≤ n) (h1 : n < 648) (fg bg : Int) (b u t : Bool) (hn : naV n = .agg #[.int .i64 fg, .int .i64 bg, .bool b, .bool u, .bool t]) :
    Calls Try.prog 53 #[.int .i64 n] w fun e w' => e = .returned (.tuple #[.agg #[.int .i64 fg, .int .i64 bg, .bool b, .bool u, .bool t], .bool true]) ∧ Below w.heap.size w w' := by
  rw [← hn]
  clear hn
  unfold naV
  go_enter Try.func53, Try.ntmps53
  go_wp2_with fail
  refine bodyPost_ret (v := .tuple #[.agg #[.int .i64 (n / 8 % 9), .int .i64 (n / 72), .bool (n % 2 == 1), .bool (n / 2 % 2 == 1), .bool (n / 4 % 2 == 1)], .bool true]) (by simp [results, Try.results53, go_sem]) rfl ⟨rfl, ?_⟩
  repeat (first | refine Below.setCell ?_ (by simp <;> omega) _ | refine Below.alloc ?_ (by simp <;> omega) _)
  exact Below.refl _ _

theorem and_all : ∀ v : Fin 648, bits BinOp.and IntKind.i64 (v.val : Int) 1 = (v.val : Int) % 2 := by decide +kernel
theorem and_one {n : Int} (h0 : 0 ≤ n) (h1 : n < 648) : bits BinOp.and IntKind.i64 n 1 = n % 2 := by
  have h := and_all ⟨n.toNat, by omega⟩
  have e : ((n.toNat : Nat) : Int) = n := by omega
  simp only [e] at h
  exact h
def hb (n p : Int) : Bool := (if p = 0 then n else if p = 1 then n / 2 else n / 4) % 2 == 1
set_option maxRecDepth 100000 in
set_option maxHeartbeats 800000 in
theorem hasBit_any (n p : Int) (h0 : 0 ≤ n) (h1 : n < 648) (hp : p = 0 ∨ p = 1 ∨ p = 2) (w : World) :
    Calls Try.prog 145 #[.int .i64 n, .int .i64 p] w fun e w' => e = .returned (.bool (hb n p)) ∧ w = w' := by
  rcases hp with rfl | rfl | rfl
  all_goals
    go_enter Try.func145, Try.ntmps145
    go_wp2
    go_ret
    exact ⟨rt_bool (by first | (rw [and_one h0 h1]; simp [hb]) | (rw [and_one (n := n / 2) (by omega) (by omega)]; simp [hb]) | (rw [and_one (n := n / 4) (by omega) (by omega)]; simp [hb])), rfl⟩

set_option maxRecDepth 100000 in
set_option maxHeartbeats 800000 in
theorem impl_NumAttr_yes (n : Int) (w : World) (h0 : 0 ≤ n) (h1 : n < 648) (fg bg : Int) (b u t : Bool) (hn : naV n = .agg #[.int .i64 fg, .int .i64 bg, .bool b, .bool u, .bool t]) :
    Calls Try.prog 117 #[.int .i64 n] w fun e w' => e = .returned (.tuple #[.agg #[.int .i64 fg, .int .i64 bg, .bool b, .bool u, .bool t], .bool true]) ∧ Below w.heap.size w w' := by
  rw [← hn]
  clear hn
  have e1 : n / 8 / 9 = n / 72 := by omega
  unfold naV
  rw [← e1]
  clear e1
  go_enter Try.func117, Try.ntmps117
  go_wp2_with (go_at_call 145; refine (hasBit_any _ _ h0 h1 (by omega) _).mono ?_; rintro e w' ⟨rfl, rfl⟩)
  refine bodyPost_ret (v := .tuple #[.agg #[.int .i64 (n / 8 % 9), .int .i64 (n / 8 / 9), .bool (hb n 0), .bool (hb n 1), .bool (hb n 2)], .bool true]) (by simp [results, Try.results117, go_sem]) rfl ⟨rfl, ?_⟩
  repeat (first | refine Below.setCell ?_ (by simp <;> omega) _ | refine Below.alloc ?_ (by simp <;> omega) _)
  exact Below.refl _ _
end Go.Proofs.Ytbifbeahakchjaa.Attr
