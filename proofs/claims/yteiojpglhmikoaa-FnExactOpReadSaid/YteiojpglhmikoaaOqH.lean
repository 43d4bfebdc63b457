/- Contracts of the laws' helpers over Op: the size, the copy, the comparison, the marks. -/
import Derived.Test.YteiojpglhmikoaaSzB
import Derived.Test.YteiojpglhmikoaaBytesM
import Derived.Lib.BufferWrite
import Derived.Outline
namespace Go.Proofs.Yteiojpglhmikoaa.Oq
open Go.RowKit Go.Proofs.Yteiojpglhmikoaa.Bytes Go.Proofs.Yteiojpglhmikoaa.OpOk
set_option linter.unusedVariables false

/-- an operation as a value -/
abbrev opV (k a b d : Int) (nm tx dr : ByteArray) (A : Option Addr) (n c : Nat) : Value := .agg #[.int .i64 k, .int .i64 a, .int .i64 b, .int .i64 d, .string nm, .string tx, .string dr, .slice A n c]

set_option maxRecDepth 100000 in
set_option maxHeartbeats 1600000 in
theorem szOp_ok (k a b d : Int) (nm tx dr : ByteArray) (A : Option Addr) (n c : Nat) (left : Int) (w : World) (h1 : left ≤ 1048576) (h : (nm.size : Int) + tx.size + dr.size + n ≤ left) :
    Calls Try.prog 34 #[opV k a b d nm tx dr A n c, .int .i64 left] w fun e w' => e = .returned (.int .i64 (left - nm.size - tx.size - dr.size - n)) ∧ Below w.heap.size w w' := by
  have a1 : 0 ≤ left - (nm.size : Int) := by omega
  have a2 : 0 ≤ left - (nm.size : Int) - tx.size := by omega
  have a3 : 0 ≤ left - (nm.size : Int) - tx.size - dr.size := by omega
  have a4 : 0 ≤ left - (nm.size : Int) - tx.size - dr.size - n := by omega
  have HI := Lib.hid (if_neg (by omega) : (if left - (nm.size : Int) - tx.size - dr.size < (n : Int) then (-1 : Int) else left - (nm.size : Int) - tx.size - dr.size - n) = left - nm.size - tx.size - dr.size - n)
  go_enter Try.func34, Try.ntmps34
  go_wp2_with fail
  refine (szByteS_any A n c _ _ (by omega) (by omega) (by omega)).mono ?_
  rintro e w' ⟨rfl, rfl⟩
  rw [HI.out]
  go_wp2_with fail
  go_ret
  exact ⟨rfl, (Below.refl _ _).alloc (Nat.le_refl _) _⟩

set_option maxRecDepth 100000 in
set_option maxHeartbeats 1600000 in
theorem szOp_big (k a b d : Int) (nm tx dr : ByteArray) (A : Option Addr) (n c : Nat) (left : Int) (w : World) (h0 : 0 ≤ left) (h1 : left ≤ 1048576) (g1 : nm.size ≤ 9223372036854775807) (g2 : tx.size ≤ 9223372036854775807) (g4 : dr.size ≤ 9223372036854775807) (g3 : n ≤ 9223372036854775807) (h : left < (nm.size : Int) + tx.size + dr.size + n) :
    Calls Try.prog 34 #[opV k a b d nm tx dr A n c, .int .i64 left] w fun e w' => e = .returned (.int .i64 (-1)) ∧ Below w.heap.size w w' := by
  by_cases c1 : left < (nm.size : Int)
  · have a1 : left - (nm.size : Int) < 0 := by omega
    go_enter Try.func34, Try.ntmps34
    go_wp2_with fail
    go_ret
    exact ⟨rfl, (Below.refl _ _).alloc (Nat.le_refl _) _⟩
  · have a1 : 0 ≤ left - (nm.size : Int) := by omega
    by_cases c2 : left - (nm.size : Int) < tx.size
    · have a2 : left - (nm.size : Int) - tx.size < 0 := by omega
      go_enter Try.func34, Try.ntmps34
      go_wp2_with fail
      go_ret
      exact ⟨rfl, (Below.refl _ _).alloc (Nat.le_refl _) _⟩
    · have a2 : 0 ≤ left - (nm.size : Int) - tx.size := by omega
      by_cases c3 : left - (nm.size : Int) - tx.size < dr.size
      · have a3 : left - (nm.size : Int) - tx.size - dr.size < 0 := by omega
        go_enter Try.func34, Try.ntmps34
        go_wp2_with fail
        go_ret
        exact ⟨rfl, (Below.refl _ _).alloc (Nat.le_refl _) _⟩
      · have a3 : 0 ≤ left - (nm.size : Int) - tx.size - dr.size := by omega
        have HI := Lib.hid (if_pos (by omega) : (if left - (nm.size : Int) - tx.size - dr.size < (n : Int) then (-1 : Int) else left - (nm.size : Int) - tx.size - dr.size - n) = -1)
        go_enter Try.func34, Try.ntmps34
        go_wp2_with fail
        refine (szByteS_any A n c _ _ (by omega) (by omega) (by omega)).mono ?_
        rintro e w' ⟨rfl, rfl⟩
        rw [HI.out]
        go_wp2_with fail
        go_ret
        exact ⟨rfl, (Below.refl _ _).alloc (Nat.le_refl _) _⟩

set_option maxRecDepth 100000 in
set_option maxHeartbeats 3200000 in
theorem toOp_any (k a b d : Int) (nm tx dr : ByteArray) (A : Option Addr) (n c : Nat) (zs : List Int) (w : World) (hr : Rd w w.heap.size A zs) (hl : zs.length = n) (hn : n ≤ 1099511627776) :
    Calls Try.prog 36 #[opV k a b d nm tx dr A n c] w
      fun e w' => ∃ A' c', e = .returned (opV k a b d nm tx dr A' n c') ∧ Own w' w.heap.size A' n c' zs ∧ Below w.heap.size w w' := by
  have HR := Lib.hid hr
  have HL := Lib.hid hl
  clear hr hl
  go_enter Try.func36, Try.ntmps36
  go_wp2_with fail
  have hb0 : Below w.heap.size w (((w.alloc (.cells #[.int .i64 k, .int .i64 a, .int .i64 b, .int .i64 d, .string nm, .string tx, .string dr, .slice A n c] 55)).alloc (.cells #[.int .i64 0, .int .i64 0, .int .i64 0, .int .i64 0, .string ByteArray.empty, .string ByteArray.empty, .string ByteArray.empty, .slice none 0 0] 58)).alloc (.cells #[.int .i64 k, .int .i64 a, .int .i64 b, .int .i64 d, .string nm, .string tx, .string dr, .slice none 0 0] 58)) :=
    (((Below.refl _ _).alloc (Nat.le_refl _) _).alloc (by simp) _).alloc (by simp; omega) _
  have HB0 := Lib.hid hb0
  clear hb0
  refine (toByteS_any A n c zs _ ((HR.out.below (Nat.le_refl _) HB0.out).more (by simp; omega)) HL.out (by omega)).mono ?_
  rintro e v1 ⟨A1, c1, rfl, ho1, hb1⟩
  have HO := Lib.hid ho1
  have HB1 := Lib.hid hb1
  obtain ⟨hc, hf⟩ := bcell hb1
  have hz : w.heap.size + 2 < v1.heap.size := by have := hb1.size; simp at this; omega
  clear ho1 hb1
  go_wp2_with fail
  refine bodyPost_ret (v := opV k a b d nm tx dr A1 n c1) (by simp [results, Try.results36, go_sem, hc]) rfl ⟨A1, c1, rfl, ?_, ?_⟩
  · have h0 := HO.out.more (base' := w.heap.size + 3) (by simp)
    have s7 := own_set h0 (w.heap.size + 1 + 1) 7 (.slice A1 n c1) (by omega)
    have s0 := own_set s7 (w.heap.size + 1) 0 (.int .i64 k) (by omega)
    have s1 := own_set s0 (w.heap.size + 1) 1 (.int .i64 a) (by omega)
    have s2 := own_set s1 (w.heap.size + 1) 2 (.int .i64 b) (by omega)
    have s3 := own_set s2 (w.heap.size + 1) 3 (.int .i64 d) (by omega)
    have s4 := own_set s3 (w.heap.size + 1) 4 (.string nm) (by omega)
    have s5 := own_set s4 (w.heap.size + 1) 5 (.string tx) (by omega)
    have s6 := own_set s5 (w.heap.size + 1) 6 (.string dr) (by omega)
    have s8 := own_set s6 (w.heap.size + 1) 7 (.slice A1 n c1) (by omega)
    exact s8.more (by omega)
  · have h0 := HB0.out.trans (HB1.out.mono (by simp; omega))
    exact ((((((((h0.setCell (by simp; omega) _).setCell (by simp) _).setCell (by simp) _).setCell (by simp) _).setCell (by simp) _).setCell (by simp) _).setCell (by simp) _).setCell (by simp) _).setCell (by simp) _

set_option maxRecDepth 100000 in
set_option maxHeartbeats 1600000 in
theorem eqOp_yes (k a b d : Int) (nm tx dr : ByteArray) (A A' : Option Addr) (n c n' c' : Nat) (zs : List Int) (w : World) (hx : Rd w w.heap.size A zs) (hy : Rd w w.heap.size A' zs) (hl : zs.length = n) (hl' : zs.length = n') (hn : n ≤ 1099511627776) :
    Calls Try.prog 38 #[opV k a b d nm tx dr A n c, opV k a b d nm tx dr A' n' c'] w fun e w' => e = .returned (.bool true) ∧ Below w.heap.size w w' := by
  have e1 : (!(nm.toList == nm.toList)) = false := by simp
  have e2 : (!(tx.toList == tx.toList)) = false := by simp
  have e3 : (!(dr.toList == dr.toList)) = false := by simp
  have k1 : (k != k) = false := by simp
  have k2 : (a != a) = false := by simp
  have k3 : (b != b) = false := by simp
  have k4 : (d != d) = false := by simp
  have HX := Lib.hid hx
  have HY := Lib.hid hy
  have HL := Lib.hid hl
  have HL' := Lib.hid hl'
  have hb0 := Lib.hid (((Below.refl w.heap.size w).alloc (Nat.le_refl _) (.cells #[.int .i64 k, .int .i64 a, .int .i64 b, .int .i64 d, .string nm, .string tx, .string dr, .slice A n c] 58)).alloc (by simp) (.cells #[.int .i64 k, .int .i64 a, .int .i64 b, .int .i64 d, .string nm, .string tx, .string dr, .slice A' n' c'] 58))
  clear hx hy hl hl'
  go_enter Try.func38, Try.ntmps38
  go_wp2_with fail
  refine (eqByteS_yes A A' n c n' c' zs _ ((HX.out.below (Nat.le_refl _) hb0.out).more (by simp; omega)) ((HY.out.below (Nat.le_refl _) hb0.out).more (by simp; omega)) HL.out HL'.out (by omega)).mono ?_
  rintro e v1 ⟨rfl, hb1⟩
  have HB1 := Lib.hid hb1
  clear hb1
  go_wp2_with fail
  go_ret
  exact ⟨rfl, hb0.out.trans (HB1.out.mono (by simp; omega))⟩

set_option maxRecDepth 100000 in
set_option maxHeartbeats 800000 in
theorem markOp_any (k a b d : Int) (nm tx dr : ByteArray) (A : Option Addr) (n c : Nat) (base : Nat) (zs : List Int) (m : Int) (w : World) (ho : Own w base A n c zs) (hb : base ≤ w.heap.size) (hn : n ≤ 1099511627776) (h0 : 0 ≤ m) (h1 : m ≤ 1099511627776) :
    Calls Try.prog 41 #[opV k a b d nm tx dr A n c, .int .i64 m] w fun e w' => e = .returned (.int .i64 (m + n)) ∧ Own w' base A n c (marks n m) ∧ w.grownBy w' (Value.slice A n c).ownBlock := by
  have hb0 := Lib.hid ((Below.refl w.heap.size w).alloc (Nat.le_refl _) (.cells #[.int .i64 k, .int .i64 a, .int .i64 b, .int .i64 d, .string nm, .string tx, .string dr, .slice A n c] 58))
  have ho0 := Lib.hid (ho.alloc (.cells #[.int .i64 k, .int .i64 a, .int .i64 b, .int .i64 d, .string nm, .string tx, .string dr, .slice A n c] 58))
  clear ho
  go_enter Try.func41, Try.ntmps41
  go_wp2_with fail
  refine (markByteS_any A n c base _ m _ ho0.out hn h0 h1).mono ?_
  rintro e v1 ⟨rfl, ho1, hg1⟩
  have HO := Lib.hid ho1
  have HG := Lib.hid (grown_trans (World.grownBy_alloc w (.cells #[.int .i64 k, .int .i64 a, .int .i64 b, .int .i64 d, .string nm, .string tx, .string dr, .slice A n c] 58) (Value.slice A n c).ownBlock) hg1)
  clear ho1 hg1
  go_wp2_with fail
  go_ret
  exact ⟨rfl, HO.out, HG.out⟩

set_option maxRecDepth 100000 in
set_option maxHeartbeats 800000 in
theorem heldOp_any (k a b d : Int) (nm tx dr : ByteArray) (A : Option Addr) (n c : Nat) (m : Int) (w : World) (hr : Rd w w.heap.size A (marks n m)) (hn : n ≤ 1099511627776) (h0 : 0 ≤ m) (h1 : m ≤ 1099511627776) :
    Calls Try.prog 44 #[opV k a b d nm tx dr A n c, .int .i64 m] w fun e w' => e = .returned (.int .i64 (m + n)) ∧ Below w.heap.size w w' := by
  have hb0 := Lib.hid ((Below.refl w.heap.size w).alloc (Nat.le_refl _) (.cells #[.int .i64 k, .int .i64 a, .int .i64 b, .int .i64 d, .string nm, .string tx, .string dr, .slice A n c] 58))
  have HR := Lib.hid hr
  have hp : 0 ≤ m + (n : Int) := by omega
  clear hr
  go_enter Try.func44, Try.ntmps44
  go_wp2_with fail
  refine (heldByteS_any A n c m _ ((HR.out.below (Nat.le_refl _) hb0.out).more (by simp)) hn h0 h1).mono ?_
  rintro e w' ⟨rfl, rfl⟩
  go_wp2_with fail
  go_ret
  exact ⟨rfl, hb0.out⟩
end Go.Proofs.Yteiojpglhmikoaa.Oq

