/- The program's tests of a node: a pane, a leaf, a split, a side. -/
import Derived.Test.YtgejjdkgeoojmaaTrTo
namespace Go.Proofs.Ytgejjdkgeoojmaa.Tr
open Go.RowKit Go.Proofs.Ytgejjdkgeoojmaa.Bytes Go.Proofs.Ytgejjdkgeoojmaa.Rows_ Go.Proofs.Ytgejjdkgeoojmaa.RowK
set_option linter.unusedVariables false
abbrev nodeV (p : Int) (d : Bool) (f : Int) : Value := .agg #[.int .i64 p, .bool d, .int .i64 f]
def paneB (n : Int) : Bool := decide (1 ≤ n) && decide (n ≤ 1000000)
def sideB (n : Int) : Bool := decide (1 ≤ n) && decide (n ≤ 120)
set_option maxRecDepth 100000 in
set_option maxHeartbeats 800000 in
theorem isPane_any (n : Int) (w : World) :
    Calls Try.prog 111 #[.int .i64 n] w fun e w' => e = .returned (.bool (paneB n)) ∧ w = w' := by
  by_cases h1 : 1 ≤ n <;> by_cases h2 : n ≤ 1000000
  all_goals
    have HE := Lib.hid (show paneB n = (decide (1 ≤ n) && decide (n ≤ 1000000)) from rfl)
    go_enter Try.func111, Try.ntmps111
    go_wp2_with fail
    go_ret
    exact ⟨ret_bool (by rw [HE.out]; simp [h1, h2]), rfl⟩
set_option maxRecDepth 100000 in
set_option maxHeartbeats 800000 in
theorem isSide_any (n : Int) (w : World) :
    Calls Try.prog 81 #[.int .i64 n] w fun e w' => e = .returned (.bool (sideB n)) ∧ w = w' := by
  by_cases h1 : 1 ≤ n <;> by_cases h2 : n ≤ 120
  all_goals
    have HE := Lib.hid (show sideB n = (decide (1 ≤ n) && decide (n ≤ 120)) from rfl)
    go_enter Try.func81, Try.ntmps81
    go_wp2_with fail
    go_ret
    exact ⟨ret_bool (by rw [HE.out]; simp [h1, h2]), rfl⟩
set_option maxRecDepth 100000 in
set_option maxHeartbeats 1600000 in
theorem isLeaf_any (p f : Int) (d : Bool) (w : World) :
    Calls Try.prog 100 #[nodeV p d f] w fun e w' => e = .returned (.bool (leafB ⟨p, d, f⟩)) ∧ Below w.heap.size w w' := by
  have HE := Lib.hid (show leafB ⟨p, d, f⟩ = (paneB p && (!d && f == 0)) by simp [leafB, paneB, Bool.and_assoc])
  rw [HE.out]
  clear HE
  cases hp : paneB p <;> have HP := Lib.hid hp <;> clear hp <;> cases d <;> by_cases h0 : f = 0
  all_goals
    go_enter Try.func100, Try.ntmps100
    go_wp2_with fail
    refine (isPane_any p _).mono ?_
    rintro e v1 ⟨rfl, rfl⟩
    rw [HP.out]
    go_wp2_with fail
    go_ret
    exact ⟨ret_bool (by simp [h0]), (Below.refl _ _).alloc (Nat.le_refl _) _⟩
set_option maxRecDepth 100000 in
set_option maxHeartbeats 1600000 in
theorem isSplit_any (p f : Int) (d : Bool) (w : World) :
    Calls Try.prog 110 #[nodeV p d f] w fun e w' => e = .returned (.bool (splitB ⟨p, d, f⟩)) ∧ Below w.heap.size w w' := by
  have HE := Lib.hid (show splitB ⟨p, d, f⟩ = (p == 0 && sideB f) from rfl)
  rw [HE.out]
  clear HE
  cases hs : sideB f <;> have HS := Lib.hid hs <;> clear hs <;> by_cases h0 : p = 0
  all_goals
    go_enter Try.func110, Try.ntmps110
    go_wp2_with (go_at_call 81; refine (isSide_any f _).mono ?_; rintro e v1 ⟨rfl, rfl⟩; rw [HS.out])
    go_ret
    exact ⟨ret_bool (by simp [h0]), (Below.refl _ _).alloc (Nat.le_refl _) _⟩
end Go.Proofs.Ytgejjdkgeoojmaa.Tr

