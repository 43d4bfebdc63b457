/- The program's tests of a node: a pane, a leaf, a split, a side. -/
import Derived.Test.YtkinkdgnephcbaaTrTo
namespace Go.Proofs.Ytkinkdgnephcbaa.Tr
open Go.RowKit Go.Proofs.Ytkinkdgnephcbaa.Bytes Go.Proofs.Ytkinkdgnephcbaa.Rows_ Go.Proofs.Ytkinkdgnephcbaa.RowK
set_option linter.unusedVariables false
abbrev nodeV (p : Int) (d : Bool) (f : Int) : Value := .agg #[.int .i64 p, .bool d, .int .i64 f]
def paneB (n : Int) : Bool := decide (1 ≤ n) && decide (n ≤ 1000000)
def sideB (n : Int) : Bool := decide (1 ≤ n) && decide (n ≤ 120)
set_option maxRecDepth 100000 in
set_option maxHeartbeats 800000 in
theorem isPane_any (n : Int) (w : World) :
    Calls Try.prog 161 #[.int .i64 n] w fun e w' => e = .returned (.bool (paneB n)) ∧ w = w' := by
  by_cases h1 : 1 ≤ n <;> by_cases h2 : n ≤ 1000000
  all_goals
    have HE := Lib.hid (show paneB n = (decide (1 ≤ n) && decide (n ≤ 1000000)) from rfl)
    go_enter Try.func161, Try.ntmps161
    go_wp2_with fail
    go_ret
    exact ⟨ret_bool (by rw [HE.out]; simp [h1, h2]), rfl⟩
set_option maxRecDepth 100000 in
set_option maxHeartbeats 800000 in
theorem isSide_any (n : Int) (w : World) :
    Calls Try.prog 64 #[.int .i64 n] w fun e w' => e = .returned (.bool (sideB n)) ∧ w = w' := by
  by_cases h1 : 1 ≤ n <;> by_cases h2 : n ≤ 120
  all_goals
    have HE := Lib.hid (show sideB n = (decide (1 ≤ n) && decide (n ≤ 120)) from rfl)
    go_enter Try.func64, Try.ntmps64
    go_wp2_with fail
    go_ret
    exact ⟨ret_bool (by rw [HE.out]; simp [h1, h2]), rfl⟩
set_option maxRecDepth 100000 in
set_option maxHeartbeats 1600000 in
theorem isLeaf_any (p f : Int) (d : Bool) (w : World) :
    Calls Try.prog 121 #[nodeV p d f] w fun e w' => e = .returned (.bool (leafB ⟨p, d, f⟩)) ∧ Below w.heap.size w w' := by
  have HE := Lib.hid (show leafB ⟨p, d, f⟩ = (paneB p && (!d && f == 0)) by simp [leafB, paneB, Bool.and_assoc])
  rw [HE.out]
  clear HE
  cases hp : paneB p <;> have HP := Lib.hid hp <;> clear hp <;> cases d <;> by_cases h0 : f = 0
  all_goals
    go_enter Try.func121, Try.ntmps121
    go_wp2_with fail
    refine (isPane_any p _).mono ?_
    rintro e v1 ⟨rfl, rfl⟩
    rw [HP.out]
    go_wp2_with fail
    go_ret
    exact ⟨ret_bool (by simp [h0]), (Below.refl _ _).alloc (Nat.le_refl _) _⟩
set_option maxRecDepth 100000 in
set_option maxHeartbeats 1600000 in
theorem isSplit_any (p f : Int) (d : Bool) (w : World) :
    Calls Try.prog 159 #[nodeV p d f] w fun e w' => e = .returned (.bool (splitB ⟨p, d, f⟩)) ∧ Below w.heap.size w w' := by
  have HE := Lib.hid (show splitB ⟨p, d, f⟩ = (p == 0 && sideB f) from rfl)
  rw [HE.out]
  clear HE
  cases hs : sideB f <;> have HS := Lib.hid hs <;> clear hs <;> by_cases h0 : p = 0
  all_goals
    go_enter Try.func159, Try.ntmps159
    go_wp2_with (go_at_call 64; refine (isSide_any f _).mono ?_; rintro e v1 ⟨rfl, rfl⟩; rw [HS.out])
    go_ret
    exact ⟨ret_bool (by simp [h0]), (Below.refl _ _).alloc (Nat.le_refl _) _⟩
end Go.Proofs.Ytkinkdgnephcbaa.Tr
