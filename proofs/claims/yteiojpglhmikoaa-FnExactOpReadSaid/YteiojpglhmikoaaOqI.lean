/- Contracts of the program's helpers of OpOk: the tests of single fields, the used, the filled and the joined flags. -/
import Derived.Test.YteiojpglhmikoaaOqK
import Derived.Test.YteiojpglhmikoaaOqH
import Derived.Test.YteiojpglhmikoaaWordOkC
import Derived.Deep.RegionHeld3
import Derived.Deep.DrawnRows
namespace Go.Proofs.Yteiojpglhmikoaa.Oq
open Go.RowKit Go.Proofs.Yteiojpglhmikoaa.Bytes Go.Proofs.Yteiojpglhmikoaa.OpOk Go.Proofs.Yteiojpglhmikoaa.Opq Go.Proofs.Yteiojpglhmikoaa.Made
set_option linter.unusedVariables false
theorem rtb {a b : Bool} (h : a = b) : Ending.returned (.bool a) = .returned (.bool b) := by rw [h]

theorem isPane_any (x : Int) (w : World) : Calls Try.prog 96 #[.int .i64 x] w fun e w' => e = .returned (.bool (pnB x)) ∧ w = w' := by
  go_enter Try.func96, Try.ntmps96
  go_wp2
  all_goals
    go_ret
    exact ⟨rtb (by unfold pnB; rw [Bool.eq_iff_iff]; simp; omega), rfl⟩
theorem isProcess_any (x : Int) (w : World) : Calls Try.prog 101 #[.int .i64 x] w fun e w' => e = .returned (.bool (pnB x)) ∧ w = w' := by
  go_enter Try.func101, Try.ntmps101
  go_wp2_with fail
  refine (isPane_any x _).mono ?_
  rintro e w' ⟨rfl, rfl⟩
  go_wp2_with fail
  go_ret
  exact ⟨rfl, rfl⟩
theorem isSideQ_any (x : Int) (w : World) : Calls Try.prog 100 #[.int .i64 x] w fun e w' => e = .returned (.bool (sdB x)) ∧ w = w' := by
  go_enter Try.func100, Try.ntmps100
  go_wp2
  all_goals
    go_ret
    exact ⟨rtb (by unfold sdB; rw [Bool.eq_iff_iff]; simp; omega), rfl⟩
theorem isExit_any (x : Int) (w : World) : Calls Try.prog 98 #[.int .i64 x] w fun e w' => e = .returned (.bool (exB x)) ∧ w = w' := by
  go_enter Try.func98, Try.ntmps98
  go_wp2
  all_goals
    go_ret
    exact ⟨rtb (by unfold exB; rw [Bool.eq_iff_iff]; simp; omega), rfl⟩
theorem isFlag_any (x : Int) (w : World) : Calls Try.prog 97 #[.int .i64 x] w fun e w' => e = .returned (.bool (flB x)) ∧ w = w' := by
  by_cases h0 : x = 0
  · subst h0
    go_enter Try.func97, Try.ntmps97
    go_wp2
    go_ret
    exact ⟨rfl, rfl⟩
  · have e0 : (x == 0) = false := by simp [h0]
    have H0 := Lib.hid h0
    clear h0
    go_enter Try.func97, Try.ntmps97
    go_wp2
    go_ret
    exact ⟨rtb (by unfold flB; rw [Bool.eq_iff_iff]; have := H0.out; simp; omega), rfl⟩
theorem isDirection_any (x : Int) (w : World) : Calls Try.prog 99 #[.int .i64 x] w fun e w' => e = .returned (.bool (dirB x)) ∧ w = w' := by
  by_cases h : x = 76 ∨ x = 82 ∨ x = 85 ∨ x = 68
  · rcases h with rfl | rfl | rfl | rfl <;>
    · go_enter Try.func99, Try.ntmps99
      go_wp2
      go_ret
      exact ⟨rfl, rfl⟩
  · have e1 : (x == 76) = false := by simp; omega
    have e2 : (x == 82) = false := by simp; omega
    have e3 : (x == 85) = false := by simp; omega
    have e4 : (x == 68) = false := by simp; omega
    have HE := Lib.hid (show dirB x = false from decide_eq_false h)
    clear h
    go_enter Try.func99, Try.ntmps99
    go_wp2
    go_ret
    exact ⟨rtb HE.out.symm, rfl⟩
theorem hasCmd_any (s : ByteArray) (w : World) (hs : s.size ≤ maxLen) : Calls Try.prog 118 #[.string s] w fun e w' => e = .returned (.bool (decide (s.size ≤ 60))) ∧ w = w' := by
  unfold maxLen at hs
  go_enter Try.func118, Try.ntmps118
  go_wp2
  go_ret
  exact ⟨rtb (by rw [Bool.eq_iff_iff]; simp; omega), rfl⟩
/-- the box of an operation -/
abbrev opC (k a b d : Int) (nm tx dr : ByteArray) (A : Option Addr) (n c : Nat) : Array Value := #[.int .i64 k, .int .i64 a, .int .i64 b, .int .i64 d, .string nm, .string tx, .string dr, .slice A n c]
set_option maxRecDepth 100000 in
set_option maxHeartbeats 800000 in
theorem commandOk_any (k a b d : Int) (nm tx dr : ByteArray) (A : Option Addr) (n c : Nat) (w : World) (h1 : tx.size ≤ maxLen) (h2 : dr.size ≤ maxLen) :
    Calls Try.prog 95 #[opV k a b d nm tx dr A n c] w fun e w' => e = .returned (.bool (cmB tx.size dr.size)) ∧ Below w.heap.size w w' := by
  have HB0 := Lib.hid ((Below.refl w.heap.size w).alloc (Nat.le_refl _) (.cells (opC k a b d nm tx dr A n c) 58))
  have H1 := Lib.hid h1
  have H2 := Lib.hid h2
  clear h1 h2
  cases q : decide (tx.size ≤ 60)
  · have HQ := Lib.hid q
    clear q
    go_enter Try.func95, Try.ntmps95
    go_wp2_with fail
    refine (hasCmd_any tx _ H1.out).mono ?_
    rintro e w' ⟨rfl, rfl⟩
    rw [HQ.out]
    go_wp2_with fail
    go_ret
    exact ⟨rtb (by unfold cmB; rw [HQ.out]; rfl), HB0.out⟩
  · have HQ := Lib.hid q
    clear q
    go_enter Try.func95, Try.ntmps95
    go_wp2_with fail
    refine (hasCmd_any tx _ H1.out).mono ?_
    rintro e w' ⟨rfl, rfl⟩
    rw [HQ.out]
    go_wp2_with fail
    refine (hasCmd_any dr _ H2.out).mono ?_
    rintro e w' ⟨rfl, rfl⟩
    go_wp2_with fail
    go_ret
    exact ⟨rtb (by unfold cmB; rw [HQ.out]; rfl), HB0.out⟩
/-- the seven flags that a kind uses -/
def useV (k : Int) : Value := .agg #[.bool (uA k), .bool (uB k), .bool (uC k), .bool (uN k), .bool (uT k), .bool (uT k), .bool (uD k)]
set_option maxRecDepth 100000 in
set_option maxHeartbeats 1600000 in
theorem usedFields_any (k : Int) (w : World) : Calls Try.prog 69 #[.int .i64 k] w fun e w' => e = .returned (useV k) ∧ Below w.heap.size w w' := by
  by_cases h : k < 1 ∨ 14 < k
  · have e1 : (k == 1) = false := by simp; omega
    have e2 : (k == 2) = false := by simp; omega
    have e3 : (k == 3) = false := by simp; omega
    have e4 : (k == 4) = false := by simp; omega
    have e5 : (k == 5) = false := by simp; omega
    have e6 : (k == 6) = false := by simp; omega
    have e7 : (k == 7) = false := by simp; omega
    have e8 : (k == 8) = false := by simp; omega
    have e9 : (k == 9) = false := by simp; omega
    have e10 : (k == 10) = false := by simp; omega
    have e11 : (k == 11) = false := by simp; omega
    have e12 : (k == 12) = false := by simp; omega
    have e13 : (k == 13) = false := by simp; omega
    have e14 : (k == 14) = false := by simp; omega
    have HE := Lib.hid (show useV k = .agg #[.bool false, .bool false, .bool false, .bool false, .bool false, .bool false, .bool false] by
      unfold useV uA uB uC uN uT uD
      rw [decide_eq_false (by omega : ¬ (3 ≤ k ∧ k ≤ 14)), decide_eq_false (by omega : ¬ (k = 3 ∨ k = 6 ∨ k = 9 ∨ k = 10 ∨ k = 12 ∨ k = 13)), decide_eq_false (by omega : ¬ k = 10), decide_eq_false (by omega : ¬ (k = 1 ∨ k = 2 ∨ k = 11)), decide_eq_false (by omega : ¬ (k = 1 ∨ k = 2 ∨ k = 3)), decide_eq_false (by omega : ¬ k = 5)])
    clear h
    go_enter Try.func69, Try.ntmps69
    go_wp2_with fail
    refine bodyPost_ret (v := .agg #[.bool false, .bool false, .bool false, .bool false, .bool false, .bool false, .bool false]) (by simp [results, Try.results69, go_sem]) rfl ⟨by rw [HE.out], ?_⟩
    exact (Below.refl _ _).alloc (Nat.le_refl _) _
  · have hk : k = 1 ∨ k = 2 ∨ k = 3 ∨ k = 4 ∨ k = 5 ∨ k = 6 ∨ k = 7 ∨ k = 8 ∨ k = 9 ∨ k = 10 ∨ k = 11 ∨ k = 12 ∨ k = 13 ∨ k = 14 := by omega
    clear h
    rcases hk with rfl | rfl | rfl | rfl | rfl | rfl | rfl | rfl | rfl | rfl | rfl | rfl | rfl | rfl
    all_goals
      go_enter Try.func69, Try.ntmps69
      go_wp2_with fail
      refine bodyPost_ret (v := useV _) (by simp [results, Try.results69, go_sem]; rfl) rfl ⟨rfl, ?_⟩
      exact (Below.refl _ _).alloc (Nat.le_refl _) _
/-- the flags of the fields that are filled -/
def filV (a b d : Int) (en et ed : Bool) (n : Nat) : Value := .agg #[.bool (decide (a ≠ 0)), .bool (decide (b ≠ 0)), .bool (decide (d ≠ 0)), .bool (!en), .bool (!et), .bool (!ed), .bool (decide (0 < n))]
set_option maxRecDepth 100000 in
set_option maxHeartbeats 1600000 in
theorem filledFields_any (k a b d : Int) (nm tx dr : ByteArray) (A : Option Addr) (n c : Nat) (w : World) (hn : n ≤ 1099511627776) :
    Calls Try.prog 71 #[opV k a b d nm tx dr A n c] w fun e w' => e = .returned (filV a b d nm.toList.isEmpty tx.toList.isEmpty dr.toList.isEmpty n) ∧ Below w.heap.size w w' := by
  obtain ⟨fa, hfa⟩ : ∃ f, (a != 0) = f := ⟨_, rfl⟩
  obtain ⟨fb, hfb⟩ : ∃ f, (b != 0) = f := ⟨_, rfl⟩
  obtain ⟨fd, hfd⟩ : ∃ f, (d != 0) = f := ⟨_, rfl⟩
  obtain ⟨f1, h1⟩ : ∃ f, nm.toList.isEmpty = f := ⟨_, rfl⟩
  obtain ⟨f2, h2⟩ : ∃ f, tx.toList.isEmpty = f := ⟨_, rfl⟩
  obtain ⟨f3, h3⟩ : ∃ f, dr.toList.isEmpty = f := ⟨_, rfl⟩
  have HV := Lib.hid (show filV a b d f1 f2 f3 n = .agg #[.bool fa, .bool fb, .bool fd, .bool (!f1), .bool (!f2), .bool (!f3), .bool (decide (0 < n))] by
    unfold filV; rw [← hfa, ← hfb, ← hfd]; simp [bne]
    refine ⟨?_, ?_, ?_⟩ <;> rw [Bool.eq_iff_iff] <;> simp)
  rw [h1, h2, h3, HV.out]
  go_enter Try.func71, Try.ntmps71
  go_wp2_with fail
  refine bodyPost_ret (v := .agg #[.bool fa, .bool fb, .bool fd, .bool (!f1), .bool (!f2), .bool (!f3), .bool (decide (0 < n))]) (by simp [results, Try.results71, go_sem]) rfl ⟨rfl, ?_⟩
  exact ((Below.refl _ _).alloc (Nat.le_refl _) _).alloc (by simp) _
end Go.Proofs.Yteiojpglhmikoaa.Oq

