/- The program's OpOk, at every operation. -/
import Derived.Test.YteiojpglhmikoaaOqJ
import Derived.Deep.Cut
import Derived.Deep.CutRange
import Derived.Deep.DeepCutAuto
namespace Go.Proofs.Yteiojpglhmikoaa.Oq
open Go.RowKit Go.Proofs.Yteiojpglhmikoaa.Bytes Go.Proofs.Yteiojpglhmikoaa.OpOk Go.Proofs.Yteiojpglhmikoaa.Opq Go.Proofs.Yteiojpglhmikoaa.Made
set_option linter.unusedVariables false
set_option linter.unusedSimpArgs false
attribute [local go_sem ↓] Go.wp_at_zero Go.wp_at_succ
set_option maxRecDepth 100000 in
set_option maxHeartbeats 1600000 in
theorem usedOk_1 (a b d : Int) (nm tx dr : ByteArray) (A : Option Addr) (n c : Nat) (w : World) (h1 : nm.size ≤ maxLen) (h2 : tx.size ≤ maxLen) (h3 : dr.size ≤ maxLen) (hn : n ≤ 1099511627776) :
    Calls Try.prog 72 #[opV 1 a b d nm tx dr A n c] w fun e w' => e = .returned (.bool (uok 1 a b d (madeB wb 12 nm.data.toList) tx.size dr.size n)) ∧ Below w.heap.size w w' := by
  have HB0 := Lib.hid ((Below.refl w.heap.size w).alloc (Nat.le_refl _) (.cells (opC 1 a b d nm tx dr A n c) 58))
  have H1 := Lib.hid h1
  have H2 := Lib.hid h2
  have H3 := Lib.hid h3
  clear h1 h2 h3
  cases q0 : madeB wb 12 nm.data.toList <;> have Q0 := Lib.hid q0 <;> clear q0
  · skip
    go_enter Try.func72, Try.ntmps72
    go_wp2_with fail
    refine (fnExactWordOk.impl_any nm _ H1.out).mono ?_
    rintro e w' ⟨rfl, rfl⟩
    rw [Q0.out]
    go_wp2_with fail
    go_ret
    exact ⟨rtb (by simp [uok, Q0.out]), HB0.out⟩
  · skip
    go_enter Try.func72, Try.ntmps72
    go_wp2_with fail
    refine (fnExactWordOk.impl_any nm _ H1.out).mono ?_
    rintro e w' ⟨rfl, rfl⟩
    rw [Q0.out]
    go_wp2_with fail
    refine (commandOk_any 1 a b d nm tx dr A n c _ H2.out H3.out).mono ?_
    rintro e v1 ⟨rfl, hb1⟩
    have HB1 := Lib.hid (HB0.out.trans (hb1.mono (by simp)))
    clear hb1
    go_wp2_with fail
    go_ret
    exact ⟨rtb (by simp [uok, Q0.out]), HB1.out⟩
set_option maxRecDepth 100000 in
set_option maxHeartbeats 1600000 in
theorem usedOk_2 (a b d : Int) (nm tx dr : ByteArray) (A : Option Addr) (n c : Nat) (w : World) (h1 : nm.size ≤ maxLen) (h2 : tx.size ≤ maxLen) (h3 : dr.size ≤ maxLen) (hn : n ≤ 1099511627776) :
    Calls Try.prog 72 #[opV 2 a b d nm tx dr A n c] w fun e w' => e = .returned (.bool (uok 2 a b d (madeB wb 12 nm.data.toList) tx.size dr.size n)) ∧ Below w.heap.size w w' := by
  have HB0 := Lib.hid ((Below.refl w.heap.size w).alloc (Nat.le_refl _) (.cells (opC 2 a b d nm tx dr A n c) 58))
  have H1 := Lib.hid h1
  have H2 := Lib.hid h2
  have H3 := Lib.hid h3
  clear h1 h2 h3
  cases q0 : madeB wb 12 nm.data.toList <;> have Q0 := Lib.hid q0 <;> clear q0
  · skip
    go_enter Try.func72, Try.ntmps72
    go_wp2_with fail
    refine (fnExactWordOk.impl_any nm _ H1.out).mono ?_
    rintro e w' ⟨rfl, rfl⟩
    rw [Q0.out]
    go_wp2_with fail
    go_ret
    exact ⟨rtb (by simp [uok, Q0.out]), HB0.out⟩
  · skip
    go_enter Try.func72, Try.ntmps72
    go_wp2_with fail
    refine (fnExactWordOk.impl_any nm _ H1.out).mono ?_
    rintro e w' ⟨rfl, rfl⟩
    rw [Q0.out]
    go_wp2_with fail
    refine (commandOk_any 2 a b d nm tx dr A n c _ H2.out H3.out).mono ?_
    rintro e v1 ⟨rfl, hb1⟩
    have HB1 := Lib.hid (HB0.out.trans (hb1.mono (by simp)))
    clear hb1
    go_wp2_with fail
    go_ret
    exact ⟨rtb (by simp [uok, Q0.out]), HB1.out⟩
set_option maxRecDepth 100000 in
set_option maxHeartbeats 1600000 in
theorem usedOk_3 (a b d : Int) (nm tx dr : ByteArray) (A : Option Addr) (n c : Nat) (w : World) (h1 : nm.size ≤ maxLen) (h2 : tx.size ≤ maxLen) (h3 : dr.size ≤ maxLen) (hn : n ≤ 1099511627776) :
    Calls Try.prog 72 #[opV 3 a b d nm tx dr A n c] w fun e w' => e = .returned (.bool (uok 3 a b d (madeB wb 12 nm.data.toList) tx.size dr.size n)) ∧ Below w.heap.size w w' := by
  have HB0 := Lib.hid ((Below.refl w.heap.size w).alloc (Nat.le_refl _) (.cells (opC 3 a b d nm tx dr A n c) 58))
  have H1 := Lib.hid h1
  have H2 := Lib.hid h2
  have H3 := Lib.hid h3
  clear h1 h2 h3
  cases q0 : pnB a <;> have Q0 := Lib.hid q0 <;> clear q0
  · skip
    go_enter Try.func72, Try.ntmps72
    go_wp2_with fail
    refine (isPane_any a _).mono ?_
    rintro e w' ⟨rfl, rfl⟩
    rw [Q0.out]
    go_wp2_with fail
    go_ret
    exact ⟨rtb (by simp [uok, Q0.out]), HB0.out⟩
  · skip
    cases q1 : flB b <;> have Q1 := Lib.hid q1 <;> clear q1
    · skip
      go_enter Try.func72, Try.ntmps72
      go_wp2_with fail
      refine (isPane_any a _).mono ?_
      rintro e w' ⟨rfl, rfl⟩
      rw [Q0.out]
      go_wp2_with fail
      refine (isFlag_any b _).mono ?_
      rintro e w' ⟨rfl, rfl⟩
      rw [Q1.out]
      go_wp2_with fail
      go_ret
      exact ⟨rtb (by simp [uok, Q0.out, Q1.out]), HB0.out⟩
    · skip
      go_enter Try.func72, Try.ntmps72
      go_wp2_with fail
      refine (isPane_any a _).mono ?_
      rintro e w' ⟨rfl, rfl⟩
      rw [Q0.out]
      go_wp2_with fail
      refine (isFlag_any b _).mono ?_
      rintro e w' ⟨rfl, rfl⟩
      rw [Q1.out]
      go_wp2_with fail
      refine (commandOk_any 3 a b d nm tx dr A n c _ H2.out H3.out).mono ?_
      rintro e v1 ⟨rfl, hb1⟩
      have HB1 := Lib.hid (HB0.out.trans (hb1.mono (by simp)))
      clear hb1
      go_wp2_with fail
      go_ret
      exact ⟨rtb (by simp [uok, Q0.out, Q1.out]), HB1.out⟩
set_option maxRecDepth 100000 in
set_option maxHeartbeats 1600000 in
theorem usedOk_4 (a b d : Int) (nm tx dr : ByteArray) (A : Option Addr) (n c : Nat) (w : World) (h1 : nm.size ≤ maxLen) (h2 : tx.size ≤ maxLen) (h3 : dr.size ≤ maxLen) (hn : n ≤ 1099511627776) :
    Calls Try.prog 72 #[opV 4 a b d nm tx dr A n c] w fun e w' => e = .returned (.bool (uok 4 a b d (madeB wb 12 nm.data.toList) tx.size dr.size n)) ∧ Below w.heap.size w w' := by
  have HB0 := Lib.hid ((Below.refl w.heap.size w).alloc (Nat.le_refl _) (.cells (opC 4 a b d nm tx dr A n c) 58))
  have H1 := Lib.hid h1
  have H2 := Lib.hid h2
  have H3 := Lib.hid h3
  clear h1 h2 h3
  go_enter Try.func72, Try.ntmps72
  go_wp2_with fail
  refine (isPane_any a _).mono ?_
  rintro e w' ⟨rfl, rfl⟩
  go_wp2_with fail
  go_ret
  exact ⟨rtb (by simp [uok]), HB0.out⟩
set_option maxRecDepth 100000 in
set_option maxHeartbeats 1600000 in
theorem usedOk_5 (a b d : Int) (nm tx dr : ByteArray) (A : Option Addr) (n c : Nat) (w : World) (h1 : nm.size ≤ maxLen) (h2 : tx.size ≤ maxLen) (h3 : dr.size ≤ maxLen) (hn : n ≤ 1099511627776) :
    Calls Try.prog 72 #[opV 5 a b d nm tx dr A n c] w fun e w' => e = .returned (.bool (uok 5 a b d (madeB wb 12 nm.data.toList) tx.size dr.size n)) ∧ Below w.heap.size w w' := by
  have HB0 := Lib.hid ((Below.refl w.heap.size w).alloc (Nat.le_refl _) (.cells (opC 5 a b d nm tx dr A n c) 58))
  have H1 := Lib.hid h1
  have H2 := Lib.hid h2
  have H3 := Lib.hid h3
  clear h1 h2 h3
  cases q0 : pnB a <;> have Q0 := Lib.hid q0 <;> clear q0
  · skip
    go_enter Try.func72, Try.ntmps72
    go_wp2_with fail
    refine (isPane_any a _).mono ?_
    rintro e w' ⟨rfl, rfl⟩
    rw [Q0.out]
    go_wp2_with fail
    go_ret
    exact ⟨rtb (by simp [uok, Q0.out]), HB0.out⟩
  · skip
    go_enter Try.func72, Try.ntmps72
    go_wp2_with fail
    refine (isPane_any a _).mono ?_
    rintro e w' ⟨rfl, rfl⟩
    rw [Q0.out]
    by_cases hd : 1 ≤ n
    · go_wp2_with fail
      go_ret
      exact ⟨rtb (by rw [Bool.eq_iff_iff]; simp [uok, daB, Q0.out]; omega), HB0.out⟩
    · have hd' : n < 1 := by omega
      clear hd
      go_wp2_with fail
      all_goals
        go_ret
        exact ⟨rtb (by rw [Bool.eq_iff_iff]; simp [uok, daB, Q0.out]; try omega), HB0.out⟩
set_option maxRecDepth 100000 in
set_option maxHeartbeats 1600000 in
theorem usedOk_6 (a b d : Int) (nm tx dr : ByteArray) (A : Option Addr) (n c : Nat) (w : World) (h1 : nm.size ≤ maxLen) (h2 : tx.size ≤ maxLen) (h3 : dr.size ≤ maxLen) (hn : n ≤ 1099511627776) :
    Calls Try.prog 72 #[opV 6 a b d nm tx dr A n c] w fun e w' => e = .returned (.bool (uok 6 a b d (madeB wb 12 nm.data.toList) tx.size dr.size n)) ∧ Below w.heap.size w w' := by
  have HB0 := Lib.hid ((Below.refl w.heap.size w).alloc (Nat.le_refl _) (.cells (opC 6 a b d nm tx dr A n c) 58))
  have H1 := Lib.hid h1
  have H2 := Lib.hid h2
  have H3 := Lib.hid h3
  clear h1 h2 h3
  cases q0 : pnB a <;> have Q0 := Lib.hid q0 <;> clear q0
  · skip
    go_enter Try.func72, Try.ntmps72
    go_wp2_with fail
    refine (isPane_any a _).mono ?_
    rintro e w' ⟨rfl, rfl⟩
    rw [Q0.out]
    go_wp2_with fail
    go_ret
    exact ⟨rtb (by simp [uok, Q0.out]), HB0.out⟩
  · skip
    go_enter Try.func72, Try.ntmps72
    go_wp2_with fail
    refine (isPane_any a _).mono ?_
    rintro e w' ⟨rfl, rfl⟩
    rw [Q0.out]
    go_wp2_with fail
    refine (isExit_any b _).mono ?_
    rintro e w' ⟨rfl, rfl⟩
    go_wp2_with fail
    go_ret
    exact ⟨rtb (by simp [uok, Q0.out]), HB0.out⟩
set_option maxRecDepth 100000 in
set_option maxHeartbeats 1600000 in
theorem usedOk_7 (a b d : Int) (nm tx dr : ByteArray) (A : Option Addr) (n c : Nat) (w : World) (h1 : nm.size ≤ maxLen) (h2 : tx.size ≤ maxLen) (h3 : dr.size ≤ maxLen) (hn : n ≤ 1099511627776) :
    Calls Try.prog 72 #[opV 7 a b d nm tx dr A n c] w fun e w' => e = .returned (.bool (uok 7 a b d (madeB wb 12 nm.data.toList) tx.size dr.size n)) ∧ Below w.heap.size w w' := by
  have HB0 := Lib.hid ((Below.refl w.heap.size w).alloc (Nat.le_refl _) (.cells (opC 7 a b d nm tx dr A n c) 58))
  have H1 := Lib.hid h1
  have H2 := Lib.hid h2
  have H3 := Lib.hid h3
  clear h1 h2 h3
  go_enter Try.func72, Try.ntmps72
  go_wp2_with fail
  refine (isPane_any a _).mono ?_
  rintro e w' ⟨rfl, rfl⟩
  go_wp2_with fail
  go_ret
  exact ⟨rtb (by simp [uok]), HB0.out⟩
set_option maxRecDepth 100000 in
set_option maxHeartbeats 1600000 in
theorem usedOk_8 (a b d : Int) (nm tx dr : ByteArray) (A : Option Addr) (n c : Nat) (w : World) (h1 : nm.size ≤ maxLen) (h2 : tx.size ≤ maxLen) (h3 : dr.size ≤ maxLen) (hn : n ≤ 1099511627776) :
    Calls Try.prog 72 #[opV 8 a b d nm tx dr A n c] w fun e w' => e = .returned (.bool (uok 8 a b d (madeB wb 12 nm.data.toList) tx.size dr.size n)) ∧ Below w.heap.size w w' := by
  have HB0 := Lib.hid ((Below.refl w.heap.size w).alloc (Nat.le_refl _) (.cells (opC 8 a b d nm tx dr A n c) 58))
  have H1 := Lib.hid h1
  have H2 := Lib.hid h2
  have H3 := Lib.hid h3
  clear h1 h2 h3
  go_enter Try.func72, Try.ntmps72
  go_wp2_with fail
  refine (isPane_any a _).mono ?_
  rintro e w' ⟨rfl, rfl⟩
  go_wp2_with fail
  go_ret
  exact ⟨rtb (by simp [uok]), HB0.out⟩
set_option maxRecDepth 100000 in
set_option maxHeartbeats 1600000 in
theorem usedOk_9 (a b d : Int) (nm tx dr : ByteArray) (A : Option Addr) (n c : Nat) (w : World) (h1 : nm.size ≤ maxLen) (h2 : tx.size ≤ maxLen) (h3 : dr.size ≤ maxLen) (hn : n ≤ 1099511627776) :
    Calls Try.prog 72 #[opV 9 a b d nm tx dr A n c] w fun e w' => e = .returned (.bool (uok 9 a b d (madeB wb 12 nm.data.toList) tx.size dr.size n)) ∧ Below w.heap.size w w' := by
  have HB0 := Lib.hid ((Below.refl w.heap.size w).alloc (Nat.le_refl _) (.cells (opC 9 a b d nm tx dr A n c) 58))
  have H1 := Lib.hid h1
  have H2 := Lib.hid h2
  have H3 := Lib.hid h3
  clear h1 h2 h3
  cases q0 : pnB a <;> have Q0 := Lib.hid q0 <;> clear q0
  · skip
    go_enter Try.func72, Try.ntmps72
    go_wp2_with fail
    refine (isPane_any a _).mono ?_
    rintro e w' ⟨rfl, rfl⟩
    rw [Q0.out]
    go_wp2_with fail
    go_ret
    exact ⟨rtb (by simp [uok, Q0.out]), HB0.out⟩
  · skip
    go_enter Try.func72, Try.ntmps72
    go_wp2_with fail
    refine (isPane_any a _).mono ?_
    rintro e w' ⟨rfl, rfl⟩
    rw [Q0.out]
    go_wp2_with fail
    refine (isPane_any b _).mono ?_
    rintro e w' ⟨rfl, rfl⟩
    go_wp2_with fail
    go_ret
    exact ⟨rtb (by simp [uok, Q0.out]), HB0.out⟩
set_option maxRecDepth 100000 in
set_option maxHeartbeats 1600000 in
theorem usedOk_10 (a b d : Int) (nm tx dr : ByteArray) (A : Option Addr) (n c : Nat) (w : World) (h1 : nm.size ≤ maxLen) (h2 : tx.size ≤ maxLen) (h3 : dr.size ≤ maxLen) (hn : n ≤ 1099511627776) :
    Calls Try.prog 72 #[opV 10 a b d nm tx dr A n c] w fun e w' => e = .returned (.bool (uok 10 a b d (madeB wb 12 nm.data.toList) tx.size dr.size n)) ∧ Below w.heap.size w w' := by
  have HB0 := Lib.hid ((Below.refl w.heap.size w).alloc (Nat.le_refl _) (.cells (opC 10 a b d nm tx dr A n c) 58))
  have H1 := Lib.hid h1
  have H2 := Lib.hid h2
  have H3 := Lib.hid h3
  clear h1 h2 h3
  cases q0 : pnB a <;> have Q0 := Lib.hid q0 <;> clear q0
  · skip
    go_enter Try.func72, Try.ntmps72
    go_wp2_with fail
    refine (isPane_any a _).mono ?_
    rintro e w' ⟨rfl, rfl⟩
    rw [Q0.out]
    go_wp2_with fail
    go_ret
    exact ⟨rtb (by simp [uok, Q0.out]), HB0.out⟩
  · skip
    cases q1 : dirB b <;> have Q1 := Lib.hid q1 <;> clear q1
    · skip
      go_enter Try.func72, Try.ntmps72
      go_wp2_with fail
      refine (isPane_any a _).mono ?_
      rintro e w' ⟨rfl, rfl⟩
      rw [Q0.out]
      go_wp2_with fail
      refine (isDirection_any b _).mono ?_
      rintro e w' ⟨rfl, rfl⟩
      rw [Q1.out]
      go_wp2_with fail
      go_ret
      exact ⟨rtb (by simp [uok, Q0.out, Q1.out]), HB0.out⟩
    · skip
      go_enter Try.func72, Try.ntmps72
      go_wp2_with fail
      refine (isPane_any a _).mono ?_
      rintro e w' ⟨rfl, rfl⟩
      rw [Q0.out]
      go_wp2_with fail
      refine (isDirection_any b _).mono ?_
      rintro e w' ⟨rfl, rfl⟩
      rw [Q1.out]
      go_wp2_with fail
      refine (isSideQ_any d _).mono ?_
      rintro e w' ⟨rfl, rfl⟩
      go_wp2_with fail
      go_ret
      exact ⟨rtb (by simp [uok, Q0.out, Q1.out]), HB0.out⟩
set_option maxRecDepth 100000 in
set_option maxHeartbeats 1600000 in
theorem usedOk_11 (a b d : Int) (nm tx dr : ByteArray) (A : Option Addr) (n c : Nat) (w : World) (h1 : nm.size ≤ maxLen) (h2 : tx.size ≤ maxLen) (h3 : dr.size ≤ maxLen) (hn : n ≤ 1099511627776) :
    Calls Try.prog 72 #[opV 11 a b d nm tx dr A n c] w fun e w' => e = .returned (.bool (uok 11 a b d (madeB wb 12 nm.data.toList) tx.size dr.size n)) ∧ Below w.heap.size w w' := by
  have HB0 := Lib.hid ((Below.refl w.heap.size w).alloc (Nat.le_refl _) (.cells (opC 11 a b d nm tx dr A n c) 58))
  have H1 := Lib.hid h1
  have H2 := Lib.hid h2
  have H3 := Lib.hid h3
  clear h1 h2 h3
  cases q0 : pnB a <;> have Q0 := Lib.hid q0 <;> clear q0
  · skip
    go_enter Try.func72, Try.ntmps72
    go_wp2_with fail
    refine (isPane_any a _).mono ?_
    rintro e w' ⟨rfl, rfl⟩
    rw [Q0.out]
    go_wp2_with fail
    go_ret
    exact ⟨rtb (by simp [uok, Q0.out]), HB0.out⟩
  · skip
    go_enter Try.func72, Try.ntmps72
    go_wp2_with fail
    refine (isPane_any a _).mono ?_
    rintro e w' ⟨rfl, rfl⟩
    rw [Q0.out]
    go_wp2_with fail
    refine (fnExactWordOk.impl_any nm _ H1.out).mono ?_
    rintro e w' ⟨rfl, rfl⟩
    go_wp2_with fail
    go_ret
    exact ⟨rtb (by simp [uok, Q0.out]), HB0.out⟩
set_option maxRecDepth 100000 in
set_option maxHeartbeats 1600000 in
theorem usedOk_12 (a b d : Int) (nm tx dr : ByteArray) (A : Option Addr) (n c : Nat) (w : World) (h1 : nm.size ≤ maxLen) (h2 : tx.size ≤ maxLen) (h3 : dr.size ≤ maxLen) (hn : n ≤ 1099511627776) :
    Calls Try.prog 72 #[opV 12 a b d nm tx dr A n c] w fun e w' => e = .returned (.bool (uok 12 a b d (madeB wb 12 nm.data.toList) tx.size dr.size n)) ∧ Below w.heap.size w w' := by
  have HB0 := Lib.hid ((Below.refl w.heap.size w).alloc (Nat.le_refl _) (.cells (opC 12 a b d nm tx dr A n c) 58))
  have H1 := Lib.hid h1
  have H2 := Lib.hid h2
  have H3 := Lib.hid h3
  clear h1 h2 h3
  cases q0 : sdB a <;> have Q0 := Lib.hid q0 <;> clear q0
  · skip
    go_enter Try.func72, Try.ntmps72
    go_wp2_with fail
    refine (isSideQ_any a _).mono ?_
    rintro e w' ⟨rfl, rfl⟩
    rw [Q0.out]
    go_wp2_with fail
    go_ret
    exact ⟨rtb (by simp [uok, Q0.out]), HB0.out⟩
  · skip
    go_enter Try.func72, Try.ntmps72
    go_wp2_with fail
    refine (isSideQ_any a _).mono ?_
    rintro e w' ⟨rfl, rfl⟩
    rw [Q0.out]
    go_wp2_with fail
    refine (isSideQ_any b _).mono ?_
    rintro e w' ⟨rfl, rfl⟩
    go_wp2_with fail
    go_ret
    exact ⟨rtb (by simp [uok, Q0.out]), HB0.out⟩
set_option maxRecDepth 100000 in
set_option maxHeartbeats 1600000 in
theorem usedOk_13 (a b d : Int) (nm tx dr : ByteArray) (A : Option Addr) (n c : Nat) (w : World) (h1 : nm.size ≤ maxLen) (h2 : tx.size ≤ maxLen) (h3 : dr.size ≤ maxLen) (hn : n ≤ 1099511627776) :
    Calls Try.prog 72 #[opV 13 a b d nm tx dr A n c] w fun e w' => e = .returned (.bool (uok 13 a b d (madeB wb 12 nm.data.toList) tx.size dr.size n)) ∧ Below w.heap.size w w' := by
  have HB0 := Lib.hid ((Below.refl w.heap.size w).alloc (Nat.le_refl _) (.cells (opC 13 a b d nm tx dr A n c) 58))
  have H1 := Lib.hid h1
  have H2 := Lib.hid h2
  have H3 := Lib.hid h3
  clear h1 h2 h3
  cases q0 : pnB a <;> have Q0 := Lib.hid q0 <;> clear q0
  · skip
    go_enter Try.func72, Try.ntmps72
    go_wp2_with fail
    refine (isPane_any a _).mono ?_
    rintro e w' ⟨rfl, rfl⟩
    rw [Q0.out]
    go_wp2_with fail
    go_ret
    exact ⟨rtb (by simp [uok, Q0.out]), HB0.out⟩
  · skip
    go_enter Try.func72, Try.ntmps72
    go_wp2_with fail
    refine (isPane_any a _).mono ?_
    rintro e w' ⟨rfl, rfl⟩
    rw [Q0.out]
    go_wp2_with fail
    refine (isProcess_any b _).mono ?_
    rintro e w' ⟨rfl, rfl⟩
    go_wp2_with fail
    go_ret
    exact ⟨rtb (by simp [uok, Q0.out]), HB0.out⟩
set_option maxRecDepth 100000 in
set_option maxHeartbeats 1600000 in
theorem usedOk_14 (a b d : Int) (nm tx dr : ByteArray) (A : Option Addr) (n c : Nat) (w : World) (h1 : nm.size ≤ maxLen) (h2 : tx.size ≤ maxLen) (h3 : dr.size ≤ maxLen) (hn : n ≤ 1099511627776) :
    Calls Try.prog 72 #[opV 14 a b d nm tx dr A n c] w fun e w' => e = .returned (.bool (uok 14 a b d (madeB wb 12 nm.data.toList) tx.size dr.size n)) ∧ Below w.heap.size w w' := by
  have HB0 := Lib.hid ((Below.refl w.heap.size w).alloc (Nat.le_refl _) (.cells (opC 14 a b d nm tx dr A n c) 58))
  have H1 := Lib.hid h1
  have H2 := Lib.hid h2
  have H3 := Lib.hid h3
  clear h1 h2 h3
  go_enter Try.func72, Try.ntmps72
  go_wp2_with fail
  refine (isPane_any a _).mono ?_
  rintro e w' ⟨rfl, rfl⟩
  go_wp2_with fail
  go_ret
  exact ⟨rtb (by simp [uok]), HB0.out⟩
theorem usedOk_any (k : Int) (a b d : Int) (nm tx dr : ByteArray) (A : Option Addr) (n c : Nat) (w : World) (h1 : nm.size ≤ maxLen) (h2 : tx.size ≤ maxLen) (h3 : dr.size ≤ maxLen) (hn : n ≤ 1099511627776) (hk : 1 ≤ k ∧ k ≤ 14) :
    Calls Try.prog 72 #[opV k a b d nm tx dr A n c] w fun e w' => e = .returned (.bool (uok k a b d (madeB wb 12 nm.data.toList) tx.size dr.size n)) ∧ Below w.heap.size w w' := by
  have hk' : k = 1 ∨ k = 2 ∨ k = 3 ∨ k = 4 ∨ k = 5 ∨ k = 6 ∨ k = 7 ∨ k = 8 ∨ k = 9 ∨ k = 10 ∨ k = 11 ∨ k = 12 ∨ k = 13 ∨ k = 14 := by omega
  clear hk
  rcases hk' with rfl | rfl | rfl | rfl | rfl | rfl | rfl | rfl | rfl | rfl | rfl | rfl | rfl | rfl
  · exact usedOk_1 a b d nm tx dr A n c w h1 h2 h3 hn
  · exact usedOk_2 a b d nm tx dr A n c w h1 h2 h3 hn
  · exact usedOk_3 a b d nm tx dr A n c w h1 h2 h3 hn
  · exact usedOk_4 a b d nm tx dr A n c w h1 h2 h3 hn
  · exact usedOk_5 a b d nm tx dr A n c w h1 h2 h3 hn
  · exact usedOk_6 a b d nm tx dr A n c w h1 h2 h3 hn
  · exact usedOk_7 a b d nm tx dr A n c w h1 h2 h3 hn
  · exact usedOk_8 a b d nm tx dr A n c w h1 h2 h3 hn
  · exact usedOk_9 a b d nm tx dr A n c w h1 h2 h3 hn
  · exact usedOk_10 a b d nm tx dr A n c w h1 h2 h3 hn
  · exact usedOk_11 a b d nm tx dr A n c w h1 h2 h3 hn
  · exact usedOk_12 a b d nm tx dr A n c w h1 h2 h3 hn
  · exact usedOk_13 a b d nm tx dr A n c w h1 h2 h3 hn
  · exact usedOk_14 a b d nm tx dr A n c w h1 h2 h3 hn
set_option maxRecDepth 100000 in
set_option maxHeartbeats 1600000 in
theorem usedOk_no (k a b d : Int) (nm tx dr : ByteArray) (A : Option Addr) (n c : Nat) (w : World) (wn : Bool) (lt ld : Nat) (h : k < 1 ∨ 14 < k) :
    Calls Try.prog 72 #[opV k a b d nm tx dr A n c] w fun e w' => e = .returned (.bool (uok k a b d wn lt ld n)) ∧ Below w.heap.size w w' := by
  have HB0 := Lib.hid ((Below.refl w.heap.size w).alloc (Nat.le_refl _) (.cells (opC k a b d nm tx dr A n c) 58))
  have HE := Lib.hid (show uok k a b d wn lt ld n = false by unfold uok; repeat (rw [if_neg (by omega)]))
  have e1 : (k == 1) = false := by simp; omega
  have e2 : (k == 2) = false := by simp; omega
  have e3 : (k == 3) = false := by simp; omega
  have e4 : (k == 4) = false := by simp; omega
  have e5 : (k == 5) = false := by simp; omega
  have e6 : (k == 6) = false := by simp; omega
  have e7 : (k == 7) = false := by simp; omega
  have e8 : (k == 8) = false := by simp; omega
  have e9 : (k == 9) = false := by simp; omega
  have e10 : (k == 10) = false := by simp; omega
  have e11 : (k == 11) = false := by simp; omega
  have e12 : (k == 12) = false := by simp; omega
  have e13 : (k == 13) = false := by simp; omega
  have e14 : (k == 14) = false := by simp; omega
  clear h
  go_enter Try.func72, Try.ntmps72
  go_wp2_with fail
  go_ret
  exact ⟨rtb HE.out.symm, HB0.out⟩

theorem undrewQ {W v : World} {B : Nat} (h : Below B W.drew v) : Below B W v := ⟨h.os, h.tape, h.output, h.size, h.block⟩
set_option maxRecDepth 100000 in
set_option maxHeartbeats 3200000 in
theorem impl_OpOk_any (k : Int) (a b d : Int) (nm tx dr : ByteArray) (A : Option Addr) (n c : Nat) (w : World) (h1 : nm.size ≤ maxLen) (h2 : tx.size ≤ maxLen) (h3 : dr.size ≤ maxLen) (hn : n ≤ 1099511627776) :
    Calls Try.prog 37 #[opV k a b d nm tx dr A n c] w fun e w' => e = .returned (.bool (okI k a b d (madeB wb 12 nm.data.toList) nm.toList.isEmpty tx.toList.isEmpty dr.toList.isEmpty tx.size dr.size n)) ∧ Below w.heap.size w w' := by
  obtain ⟨p0, hp0⟩ : ∃ x, (uA k) = x := ⟨_, rfl⟩
  obtain ⟨p1, hp1⟩ : ∃ x, (uB k) = x := ⟨_, rfl⟩
  obtain ⟨p2, hp2⟩ : ∃ x, (uC k) = x := ⟨_, rfl⟩
  obtain ⟨p3, hp3⟩ : ∃ x, (uN k) = x := ⟨_, rfl⟩
  obtain ⟨p4, hp4⟩ : ∃ x, (uT k) = x := ⟨_, rfl⟩
  obtain ⟨p5, hp5⟩ : ∃ x, (uT k) = x := ⟨_, rfl⟩
  obtain ⟨p6, hp6⟩ : ∃ x, (uD k) = x := ⟨_, rfl⟩
  obtain ⟨g0, hg0⟩ : ∃ x, (decide (a ≠ 0)) = x := ⟨_, rfl⟩
  obtain ⟨g1, hg1⟩ : ∃ x, (decide (b ≠ 0)) = x := ⟨_, rfl⟩
  obtain ⟨g2, hg2⟩ : ∃ x, (decide (d ≠ 0)) = x := ⟨_, rfl⟩
  obtain ⟨g3, hg3⟩ : ∃ x, (!nm.toList.isEmpty) = x := ⟨_, rfl⟩
  obtain ⟨g4, hg4⟩ : ∃ x, (!tx.toList.isEmpty) = x := ⟨_, rfl⟩
  obtain ⟨g5, hg5⟩ : ∃ x, (!dr.toList.isEmpty) = x := ⟨_, rfl⟩
  obtain ⟨g6, hg6⟩ : ∃ x, (decide (0 < n)) = x := ⟨_, rfl⟩
  have HU := Lib.hid (show useV k = .agg #[.bool p0, .bool p1, .bool p2, .bool p3, .bool p4, .bool p5, .bool p6] by unfold useV; rw [hp0, hp1, hp2, hp3, hp6]; rw [← hp4, hp5, ← hp5, hp4])
  have HF := Lib.hid (show filV a b d nm.toList.isEmpty tx.toList.isEmpty dr.toList.isEmpty n = .agg #[.bool g0, .bool g1, .bool g2, .bool g3, .bool g4, .bool g5, .bool g6] by unfold filV; rw [hg0, hg1, hg2, hg3, hg4, hg5, hg6])
  have hun : unB k a b d nm.toList.isEmpty tx.toList.isEmpty dr.toList.isEmpty n = ((p0 || g0) == p0 && ((p1 || g1) == p1 && ((p2 || g2) == p2 && ((p3 || g3) == p3 && ((p4 || g4) == p4 && ((p5 || g5) == p5 && ((p6 || g6) == p6))))))) := by
    subst hp0 hp1 hp2 hp3 hp4 hp6 hg0 hg1 hg2 hg3 hg4 hg5 hg6
    subst hp5
    rfl
  have HUN := Lib.hid hun
  have HOK := Lib.hid (if hk : 1 ≤ k ∧ k ≤ 14 then fun W => usedOk_any k a b d nm tx dr A n c W h1 h2 h3 hn hk else fun W => usedOk_no k a b d nm tx dr A n c W (madeB wb 12 nm.data.toList) tx.size dr.size (by omega))
  have HFI := Lib.hid (fun W => filledFields_any k a b d nm tx dr A n c W hn)
  have HB0 := Lib.hid ((Below.refl w.heap.size w).alloc (Nat.le_refl _) (.cells (opC k a b d nm tx dr A n c) 58))
  have RB0 := Lib.hid (RowB.new w (opC k a b d nm tx dr A n c) 58)
  clear h1 h2 h3 hp0 hg0 hp1 hg1 hp2 hg2 hp3 hg3 hp4 hg4 hp5 hg5 hp6 hg6
  cases q : unB k a b d nm.toList.isEmpty tx.toList.isEmpty dr.toList.isEmpty n
  · rw [q] at hun
    have heq := fun W => eqA (p0 || g0) (p1 || g1) (p2 || g2) (p3 || g3) (p4 || g4) (p5 || g5) (p6 || g6) p0 p1 p2 p3 p4 p5 p6 W
    rw [← hun] at heq
    have Q := Lib.hid q
    clear q hun
    go_enter Try.func37, Try.ntmps37
    go_wp2_with fail
    refine (usedFields_any k _).mono ?_
    rintro e v1 ⟨rfl, hb1⟩
    rw [HU.out]
    have HB1 := Lib.hid ((HB0.out.trans (hb1.mono (by simp))).alloc (by have := hb1.size; simp at this; omega) (.cells #[.bool p0, .bool p1, .bool p2, .bool p3, .bool p4, .bool p5, .bool p6] 102))
    have RB1 := Lib.hid ((RB0.out.below hb1 (by simp)).alloc (.cells #[.bool p0, .bool p1, .bool p2, .bool p3, .bool p4, .bool p5, .bool p6] 102))
    have RP1 := Lib.hid (RowB.new v1 #[.bool p0, .bool p1, .bool p2, .bool p3, .bool p4, .bool p5, .bool p6] 102)
    have lt1 : w.heap.size < v1.heap.size := by have := hb1.size; simp at this; omega
    obtain ⟨V, hV⟩ : ∃ V, V = v1.alloc (.cells #[.bool p0, .bool p1, .bool p2, .bool p3, .bool p4, .bool p5, .bool p6] 102) := ⟨_, rfl⟩
    rw [← hV] at HB1 RB1 RP1
    clear hb1
    go_upto_region 2 with fail
    rw [← hV]
    clear hV
    have k0 : V.cell? ⟨w.heap.size, 0, none⟩ = some (.int .i64 k) := RB1.out.cell 0
    have k1 : V.cell? ⟨w.heap.size, 1, none⟩ = some (.int .i64 a) := RB1.out.cell 1
    have k2 : V.cell? ⟨w.heap.size, 2, none⟩ = some (.int .i64 b) := RB1.out.cell 2
    have k3 : V.cell? ⟨w.heap.size, 3, none⟩ = some (.int .i64 d) := RB1.out.cell 3
    have k4 : V.cell? ⟨w.heap.size, 4, none⟩ = some (.string nm) := RB1.out.cell 4
    have k5 : V.cell? ⟨w.heap.size, 5, none⟩ = some (.string tx) := RB1.out.cell 5
    have k6 : V.cell? ⟨w.heap.size, 6, none⟩ = some (.string dr) := RB1.out.cell 6
    have k7 : V.cell? ⟨w.heap.size, 7, none⟩ = some (.slice A n c) := RB1.out.cell 7
    have l0 : V.cell? ⟨v1.heap.size, 0, none⟩ = some (.bool p0) := RP1.out.cell 0
    have l1 : V.cell? ⟨v1.heap.size, 1, none⟩ = some (.bool p1) := RP1.out.cell 1
    have l2 : V.cell? ⟨v1.heap.size, 2, none⟩ = some (.bool p2) := RP1.out.cell 2
    have l3 : V.cell? ⟨v1.heap.size, 3, none⟩ = some (.bool p3) := RP1.out.cell 3
    have l4 : V.cell? ⟨v1.heap.size, 4, none⟩ = some (.bool p4) := RP1.out.cell 4
    have l5 : V.cell? ⟨v1.heap.size, 5, none⟩ = some (.bool p5) := RP1.out.cell 5
    have l6 : V.cell? ⟨v1.heap.size, 6, none⟩ = some (.bool p6) := RP1.out.cell 6
    have ltV : v1.heap.size < V.heap.size := RP1.out.lt
    have ltW : w.heap.size < V.heap.size := RB1.out.lt
    go_region_with (first
      | (go_at_call 71; (with_reducible refine (HFI.out _).mono ?_); rintro e v2 ⟨rfl, hb2'⟩; rw [HF.out]; have hb2 : Below V.heap.size V v2 := undrewQ hb2'; clear hb2'; have HB2 := Lib.hid (HB1.out.trans (hb2.mono HB1.out.size)); have RB2 := Lib.hid (RB1.out.below hb2 RB1.out.lt); have RP2 := Lib.hid (RP1.out.below hb2 RP1.out.lt); have j20 : v2.cell? ⟨w.heap.size, 0, none⟩ = some (.int .i64 k) := RB2.out.cell 0; have j21 : v2.cell? ⟨w.heap.size, 1, none⟩ = some (.int .i64 a) := RB2.out.cell 1; have j22 : v2.cell? ⟨w.heap.size, 2, none⟩ = some (.int .i64 b) := RB2.out.cell 2; have j23 : v2.cell? ⟨w.heap.size, 3, none⟩ = some (.int .i64 d) := RB2.out.cell 3; have j24 : v2.cell? ⟨w.heap.size, 4, none⟩ = some (.string nm) := RB2.out.cell 4; have j25 : v2.cell? ⟨w.heap.size, 5, none⟩ = some (.string tx) := RB2.out.cell 5; have j26 : v2.cell? ⟨w.heap.size, 6, none⟩ = some (.string dr) := RB2.out.cell 6; have j27 : v2.cell? ⟨w.heap.size, 7, none⟩ = some (.slice A n c) := RB2.out.cell 7; have m20 : v2.cell? ⟨v1.heap.size, 0, none⟩ = some (.bool p0) := RP2.out.cell 0; have m21 : v2.cell? ⟨v1.heap.size, 1, none⟩ = some (.bool p1) := RP2.out.cell 1; have m22 : v2.cell? ⟨v1.heap.size, 2, none⟩ = some (.bool p2) := RP2.out.cell 2; have m23 : v2.cell? ⟨v1.heap.size, 3, none⟩ = some (.bool p3) := RP2.out.cell 3; have m24 : v2.cell? ⟨v1.heap.size, 4, none⟩ = some (.bool p4) := RP2.out.cell 4; have m25 : v2.cell? ⟨v1.heap.size, 5, none⟩ = some (.bool p5) := RP2.out.cell 5; have m26 : v2.cell? ⟨v1.heap.size, 6, none⟩ = some (.bool p6) := RP2.out.cell 6; have lt2a : w.heap.size < v2.heap.size := RB2.out.lt; have lt2b : v1.heap.size < v2.heap.size := RP2.out.lt; clear hb2)
      | (go_at_call 70; (with_reducible refine (with_any p0 p1 p2 p3 p4 p5 p6 g0 g1 g2 g3 g4 g5 g6 _).mono ?_); rintro e v3 ⟨rfl, hb3⟩; have HB3 := Lib.hid (HB2.out.trans (hb3.mono HB2.out.size)); have RB3 := Lib.hid (RB2.out.below hb3 RB2.out.lt); have RP3 := Lib.hid (RP2.out.below hb3 RP2.out.lt); have j30 : v3.cell? ⟨w.heap.size, 0, none⟩ = some (.int .i64 k) := RB3.out.cell 0; have j31 : v3.cell? ⟨w.heap.size, 1, none⟩ = some (.int .i64 a) := RB3.out.cell 1; have j32 : v3.cell? ⟨w.heap.size, 2, none⟩ = some (.int .i64 b) := RB3.out.cell 2; have j33 : v3.cell? ⟨w.heap.size, 3, none⟩ = some (.int .i64 d) := RB3.out.cell 3; have j34 : v3.cell? ⟨w.heap.size, 4, none⟩ = some (.string nm) := RB3.out.cell 4; have j35 : v3.cell? ⟨w.heap.size, 5, none⟩ = some (.string tx) := RB3.out.cell 5; have j36 : v3.cell? ⟨w.heap.size, 6, none⟩ = some (.string dr) := RB3.out.cell 6; have j37 : v3.cell? ⟨w.heap.size, 7, none⟩ = some (.slice A n c) := RB3.out.cell 7; have m30 : v3.cell? ⟨v1.heap.size, 0, none⟩ = some (.bool p0) := RP3.out.cell 0; have m31 : v3.cell? ⟨v1.heap.size, 1, none⟩ = some (.bool p1) := RP3.out.cell 1; have m32 : v3.cell? ⟨v1.heap.size, 2, none⟩ = some (.bool p2) := RP3.out.cell 2; have m33 : v3.cell? ⟨v1.heap.size, 3, none⟩ = some (.bool p3) := RP3.out.cell 3; have m34 : v3.cell? ⟨v1.heap.size, 4, none⟩ = some (.bool p4) := RP3.out.cell 4; have m35 : v3.cell? ⟨v1.heap.size, 5, none⟩ = some (.bool p5) := RP3.out.cell 5; have m36 : v3.cell? ⟨v1.heap.size, 6, none⟩ = some (.bool p6) := RP3.out.cell 6; have lt3a : w.heap.size < v3.heap.size := RB3.out.lt; have lt3b : v1.heap.size < v3.heap.size := RP3.out.lt; clear hb3))
    all_goals
      go_wp2_with fail
      go_ret
      exact ⟨rtb (by unfold okI; rw [Q.out]; rfl), HB3.out⟩
  · rw [q] at hun
    have heq := fun W => eqA (p0 || g0) (p1 || g1) (p2 || g2) (p3 || g3) (p4 || g4) (p5 || g5) (p6 || g6) p0 p1 p2 p3 p4 p5 p6 W
    rw [← hun] at heq
    have Q := Lib.hid q
    clear q hun
    go_enter Try.func37, Try.ntmps37
    go_wp2_with fail
    refine (usedFields_any k _).mono ?_
    rintro e v1 ⟨rfl, hb1⟩
    rw [HU.out]
    have HB1 := Lib.hid ((HB0.out.trans (hb1.mono (by simp))).alloc (by have := hb1.size; simp at this; omega) (.cells #[.bool p0, .bool p1, .bool p2, .bool p3, .bool p4, .bool p5, .bool p6] 102))
    have RB1 := Lib.hid ((RB0.out.below hb1 (by simp)).alloc (.cells #[.bool p0, .bool p1, .bool p2, .bool p3, .bool p4, .bool p5, .bool p6] 102))
    have RP1 := Lib.hid (RowB.new v1 #[.bool p0, .bool p1, .bool p2, .bool p3, .bool p4, .bool p5, .bool p6] 102)
    have lt1 : w.heap.size < v1.heap.size := by have := hb1.size; simp at this; omega
    obtain ⟨V, hV⟩ : ∃ V, V = v1.alloc (.cells #[.bool p0, .bool p1, .bool p2, .bool p3, .bool p4, .bool p5, .bool p6] 102) := ⟨_, rfl⟩
    rw [← hV] at HB1 RB1 RP1
    clear hb1
    go_upto_region 2 with fail
    rw [← hV]
    clear hV
    have k0 : V.cell? ⟨w.heap.size, 0, none⟩ = some (.int .i64 k) := RB1.out.cell 0
    have k1 : V.cell? ⟨w.heap.size, 1, none⟩ = some (.int .i64 a) := RB1.out.cell 1
    have k2 : V.cell? ⟨w.heap.size, 2, none⟩ = some (.int .i64 b) := RB1.out.cell 2
    have k3 : V.cell? ⟨w.heap.size, 3, none⟩ = some (.int .i64 d) := RB1.out.cell 3
    have k4 : V.cell? ⟨w.heap.size, 4, none⟩ = some (.string nm) := RB1.out.cell 4
    have k5 : V.cell? ⟨w.heap.size, 5, none⟩ = some (.string tx) := RB1.out.cell 5
    have k6 : V.cell? ⟨w.heap.size, 6, none⟩ = some (.string dr) := RB1.out.cell 6
    have k7 : V.cell? ⟨w.heap.size, 7, none⟩ = some (.slice A n c) := RB1.out.cell 7
    have l0 : V.cell? ⟨v1.heap.size, 0, none⟩ = some (.bool p0) := RP1.out.cell 0
    have l1 : V.cell? ⟨v1.heap.size, 1, none⟩ = some (.bool p1) := RP1.out.cell 1
    have l2 : V.cell? ⟨v1.heap.size, 2, none⟩ = some (.bool p2) := RP1.out.cell 2
    have l3 : V.cell? ⟨v1.heap.size, 3, none⟩ = some (.bool p3) := RP1.out.cell 3
    have l4 : V.cell? ⟨v1.heap.size, 4, none⟩ = some (.bool p4) := RP1.out.cell 4
    have l5 : V.cell? ⟨v1.heap.size, 5, none⟩ = some (.bool p5) := RP1.out.cell 5
    have l6 : V.cell? ⟨v1.heap.size, 6, none⟩ = some (.bool p6) := RP1.out.cell 6
    have ltV : v1.heap.size < V.heap.size := RP1.out.lt
    have ltW : w.heap.size < V.heap.size := RB1.out.lt
    go_region_held3 (fun w' => w'.cell? ⟨w.heap.size, 0, none⟩ = some (.int .i64 k) ∧ w'.cell? ⟨w.heap.size, 1, none⟩ = some (.int .i64 a) ∧ w'.cell? ⟨w.heap.size, 2, none⟩ = some (.int .i64 b) ∧ w'.cell? ⟨w.heap.size, 3, none⟩ = some (.int .i64 d) ∧ w'.cell? ⟨w.heap.size, 4, none⟩ = some (.string nm) ∧ w'.cell? ⟨w.heap.size, 5, none⟩ = some (.string tx) ∧ w'.cell? ⟨w.heap.size, 6, none⟩ = some (.string dr) ∧ w'.cell? ⟨w.heap.size, 7, none⟩ = some (.slice A n c) ∧ w'.cell? ⟨v1.heap.size, 0, none⟩ = some (.bool p0) ∧ w'.cell? ⟨v1.heap.size, 1, none⟩ = some (.bool p1) ∧ w'.cell? ⟨v1.heap.size, 2, none⟩ = some (.bool p2) ∧ w'.cell? ⟨v1.heap.size, 3, none⟩ = some (.bool p3) ∧ w'.cell? ⟨v1.heap.size, 4, none⟩ = some (.bool p4) ∧ w'.cell? ⟨v1.heap.size, 5, none⟩ = some (.bool p5) ∧ w'.cell? ⟨v1.heap.size, 6, none⟩ = some (.bool p6)) (first | assumption | go_keep) (first
      | (go_at_call 71; (with_reducible refine (HFI.out _).mono ?_); rintro e v2 ⟨rfl, hb2'⟩; rw [HF.out]; have hb2 : Below V.heap.size V v2 := undrewQ hb2'; clear hb2'; have HB2 := Lib.hid (HB1.out.trans (hb2.mono HB1.out.size)); have RB2 := Lib.hid (RB1.out.below hb2 RB1.out.lt); have RP2 := Lib.hid (RP1.out.below hb2 RP1.out.lt); have j20 : v2.cell? ⟨w.heap.size, 0, none⟩ = some (.int .i64 k) := RB2.out.cell 0; have j21 : v2.cell? ⟨w.heap.size, 1, none⟩ = some (.int .i64 a) := RB2.out.cell 1; have j22 : v2.cell? ⟨w.heap.size, 2, none⟩ = some (.int .i64 b) := RB2.out.cell 2; have j23 : v2.cell? ⟨w.heap.size, 3, none⟩ = some (.int .i64 d) := RB2.out.cell 3; have j24 : v2.cell? ⟨w.heap.size, 4, none⟩ = some (.string nm) := RB2.out.cell 4; have j25 : v2.cell? ⟨w.heap.size, 5, none⟩ = some (.string tx) := RB2.out.cell 5; have j26 : v2.cell? ⟨w.heap.size, 6, none⟩ = some (.string dr) := RB2.out.cell 6; have j27 : v2.cell? ⟨w.heap.size, 7, none⟩ = some (.slice A n c) := RB2.out.cell 7; have m20 : v2.cell? ⟨v1.heap.size, 0, none⟩ = some (.bool p0) := RP2.out.cell 0; have m21 : v2.cell? ⟨v1.heap.size, 1, none⟩ = some (.bool p1) := RP2.out.cell 1; have m22 : v2.cell? ⟨v1.heap.size, 2, none⟩ = some (.bool p2) := RP2.out.cell 2; have m23 : v2.cell? ⟨v1.heap.size, 3, none⟩ = some (.bool p3) := RP2.out.cell 3; have m24 : v2.cell? ⟨v1.heap.size, 4, none⟩ = some (.bool p4) := RP2.out.cell 4; have m25 : v2.cell? ⟨v1.heap.size, 5, none⟩ = some (.bool p5) := RP2.out.cell 5; have m26 : v2.cell? ⟨v1.heap.size, 6, none⟩ = some (.bool p6) := RP2.out.cell 6; have lt2a : w.heap.size < v2.heap.size := RB2.out.lt; have lt2b : v1.heap.size < v2.heap.size := RP2.out.lt; clear hb2)
      | (go_at_call 70; (with_reducible refine (with_any p0 p1 p2 p3 p4 p5 p6 g0 g1 g2 g3 g4 g5 g6 _).mono ?_); rintro e v3 ⟨rfl, hb3⟩; have HB3 := Lib.hid (HB2.out.trans (hb3.mono HB2.out.size)); have RB3 := Lib.hid (RB2.out.below hb3 RB2.out.lt); have RP3 := Lib.hid (RP2.out.below hb3 RP2.out.lt); have j30 : v3.cell? ⟨w.heap.size, 0, none⟩ = some (.int .i64 k) := RB3.out.cell 0; have j31 : v3.cell? ⟨w.heap.size, 1, none⟩ = some (.int .i64 a) := RB3.out.cell 1; have j32 : v3.cell? ⟨w.heap.size, 2, none⟩ = some (.int .i64 b) := RB3.out.cell 2; have j33 : v3.cell? ⟨w.heap.size, 3, none⟩ = some (.int .i64 d) := RB3.out.cell 3; have j34 : v3.cell? ⟨w.heap.size, 4, none⟩ = some (.string nm) := RB3.out.cell 4; have j35 : v3.cell? ⟨w.heap.size, 5, none⟩ = some (.string tx) := RB3.out.cell 5; have j36 : v3.cell? ⟨w.heap.size, 6, none⟩ = some (.string dr) := RB3.out.cell 6; have j37 : v3.cell? ⟨w.heap.size, 7, none⟩ = some (.slice A n c) := RB3.out.cell 7; have m30 : v3.cell? ⟨v1.heap.size, 0, none⟩ = some (.bool p0) := RP3.out.cell 0; have m31 : v3.cell? ⟨v1.heap.size, 1, none⟩ = some (.bool p1) := RP3.out.cell 1; have m32 : v3.cell? ⟨v1.heap.size, 2, none⟩ = some (.bool p2) := RP3.out.cell 2; have m33 : v3.cell? ⟨v1.heap.size, 3, none⟩ = some (.bool p3) := RP3.out.cell 3; have m34 : v3.cell? ⟨v1.heap.size, 4, none⟩ = some (.bool p4) := RP3.out.cell 4; have m35 : v3.cell? ⟨v1.heap.size, 5, none⟩ = some (.bool p5) := RP3.out.cell 5; have m36 : v3.cell? ⟨v1.heap.size, 6, none⟩ = some (.bool p6) := RP3.out.cell 6; have lt3a : w.heap.size < v3.heap.size := RB3.out.lt; have lt3b : v1.heap.size < v3.heap.size := RP3.out.lt; clear hb3)
      | (go_at_call 72; (with_reducible refine (HOK.out _).mono ?_); rintro e v4 ⟨rfl, hb4⟩; have HB4 := Lib.hid (HB3.out.trans (hb4.mono HB3.out.size)); have RB4 := Lib.hid (RB3.out.below hb4 RB3.out.lt); have RP4 := Lib.hid (RP3.out.below hb4 RP3.out.lt); have j40 : v4.cell? ⟨w.heap.size, 0, none⟩ = some (.int .i64 k) := RB4.out.cell 0; have j41 : v4.cell? ⟨w.heap.size, 1, none⟩ = some (.int .i64 a) := RB4.out.cell 1; have j42 : v4.cell? ⟨w.heap.size, 2, none⟩ = some (.int .i64 b) := RB4.out.cell 2; have j43 : v4.cell? ⟨w.heap.size, 3, none⟩ = some (.int .i64 d) := RB4.out.cell 3; have j44 : v4.cell? ⟨w.heap.size, 4, none⟩ = some (.string nm) := RB4.out.cell 4; have j45 : v4.cell? ⟨w.heap.size, 5, none⟩ = some (.string tx) := RB4.out.cell 5; have j46 : v4.cell? ⟨w.heap.size, 6, none⟩ = some (.string dr) := RB4.out.cell 6; have j47 : v4.cell? ⟨w.heap.size, 7, none⟩ = some (.slice A n c) := RB4.out.cell 7; have m40 : v4.cell? ⟨v1.heap.size, 0, none⟩ = some (.bool p0) := RP4.out.cell 0; have m41 : v4.cell? ⟨v1.heap.size, 1, none⟩ = some (.bool p1) := RP4.out.cell 1; have m42 : v4.cell? ⟨v1.heap.size, 2, none⟩ = some (.bool p2) := RP4.out.cell 2; have m43 : v4.cell? ⟨v1.heap.size, 3, none⟩ = some (.bool p3) := RP4.out.cell 3; have m44 : v4.cell? ⟨v1.heap.size, 4, none⟩ = some (.bool p4) := RP4.out.cell 4; have m45 : v4.cell? ⟨v1.heap.size, 5, none⟩ = some (.bool p5) := RP4.out.cell 5; have m46 : v4.cell? ⟨v1.heap.size, 6, none⟩ = some (.bool p6) := RP4.out.cell 6; have lt4a : w.heap.size < v4.heap.size := RB4.out.lt; have lt4b : v1.heap.size < v4.heap.size := RP4.out.lt; clear hb4))
    all_goals
      go_wp2_with fail
      go_ret
      exact ⟨rtb (by unfold okI; rw [Q.out]; rfl), HB4.out⟩
end Go.Proofs.Yteiojpglhmikoaa.Oq

