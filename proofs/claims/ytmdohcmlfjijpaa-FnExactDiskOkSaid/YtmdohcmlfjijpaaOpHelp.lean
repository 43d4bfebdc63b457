/- Contracts of the laws' helpers over DiskOp: the size, the copy, the comparison. -/
import Derived.Test.YtmdohcmlfjijpaaBytes
import Derived.Lib.BufferWrite
import Derived.Outline
namespace Go.Proofs.Ytmdohcmlfjijpaa.OpOk
open Go.RowKit Go.Proofs.Ytmdohcmlfjijpaa.Bytes
set_option linter.unusedVariables false

set_option maxRecDepth 100000 in
set_option maxHeartbeats 400000 in
theorem szByteS_any (A : Option Addr) (n c : Nat) (left : Int) (w : World) (hn : n ≤ 9223372036854775807) (h0 : 0 ≤ left) (h1 : left ≤ 1048576) :
    Calls Try.prog 85 #[.slice A n c, .int .i64 left] w fun e w' => e = .returned (.int .i64 (if left < n then -1 else left - n)) ∧ w = w' := by
  by_cases h : left < n
  · have HI := Lib.hid (if_pos h : (if left < (n : Int) then (-1 : Int) else left - n) = -1)
    have h' : left - (n : Int) < 0 := by omega
    go_enter Try.func85, Try.ntmps85
    go_wp2_with fail
    go_ret
    exact ⟨rfl, rfl⟩
  · have HI := Lib.hid (if_neg h : (if left < (n : Int) then (-1 : Int) else left - n) = left - n)
    have h' : 0 ≤ left - (n : Int) := by omega
    go_enter Try.func85, Try.ntmps85
    go_wp2_with fail
    go_ret
    exact ⟨rfl, rfl⟩

set_option maxRecDepth 100000 in
set_option maxHeartbeats 800000 in
theorem szDiskOp_ok (k : Int) (name to_ : ByteArray) (A : Option Addr) (n c : Nat) (left : Int) (w : World) (h1 : left ≤ 1048576) (h : (name.size : Int) + to_.size + n ≤ left) :
    Calls Try.prog 38 #[.agg #[.int .i64 k, .string name, .string to_, .slice A n c], .int .i64 left] w fun e w' => e = .returned (.int .i64 (left - name.size - to_.size - n)) ∧ Below w.heap.size w w' := by
  have a1 : 0 ≤ left - (name.size : Int) := by omega
  have a2 : 0 ≤ left - (name.size : Int) - to_.size := by omega
  have a3 : 0 ≤ left - (name.size : Int) - to_.size - n := by omega
  have HI := Lib.hid (if_neg (by omega) : (if left - (name.size : Int) - to_.size < (n : Int) then (-1 : Int) else left - (name.size : Int) - to_.size - n) = left - name.size - to_.size - n)
  go_enter Try.func38, Try.ntmps38
  go_wp2_with fail
  refine (szByteS_any A n c _ _ (by omega) (by omega) (by omega)).mono ?_
  rintro e w' ⟨rfl, rfl⟩
  rw [HI.out]
  go_wp2_with fail
  go_ret
  exact ⟨rfl, (Below.refl _ _).alloc (Nat.le_refl _) _⟩

set_option maxRecDepth 100000 in
set_option maxHeartbeats 800000 in
theorem szDiskOp_big (k : Int) (name to_ : ByteArray) (A : Option Addr) (n c : Nat) (left : Int) (w : World) (h0 : 0 ≤ left) (h1 : left ≤ 1048576) (g1 : name.size ≤ 9223372036854775807) (g2 : to_.size ≤ 9223372036854775807) (g3 : n ≤ 9223372036854775807) (h : left < (name.size : Int) + to_.size + n) :
    Calls Try.prog 38 #[.agg #[.int .i64 k, .string name, .string to_, .slice A n c], .int .i64 left] w fun e w' => e = .returned (.int .i64 (-1)) ∧ Below w.heap.size w w' := by
  by_cases c1 : left < (name.size : Int)
  · have a1 : left - (name.size : Int) < 0 := by omega
    go_enter Try.func38, Try.ntmps38
    go_wp2_with fail
    go_ret
    exact ⟨rfl, (Below.refl _ _).alloc (Nat.le_refl _) _⟩
  · have a1 : 0 ≤ left - (name.size : Int) := by omega
    by_cases c2 : left - (name.size : Int) < to_.size
    · have a2 : left - (name.size : Int) - to_.size < 0 := by omega
      go_enter Try.func38, Try.ntmps38
      go_wp2_with fail
      go_ret
      exact ⟨rfl, (Below.refl _ _).alloc (Nat.le_refl _) _⟩
    · have a2 : 0 ≤ left - (name.size : Int) - to_.size := by omega
      have HI := Lib.hid (if_pos (by omega) : (if left - (name.size : Int) - to_.size < (n : Int) then (-1 : Int) else left - (name.size : Int) - to_.size - n) = -1)
      go_enter Try.func38, Try.ntmps38
      go_wp2_with fail
      refine (szByteS_any A n c _ _ (by omega) (by omega) (by omega)).mono ?_
      rintro e w' ⟨rfl, rfl⟩
      rw [HI.out]
      go_wp2_with fail
      go_ret
      exact ⟨rfl, (Below.refl _ _).alloc (Nat.le_refl _) _⟩

theorem bcell {W w1 : World} (hb : Below W.heap.size W w1) : (∀ b o, b < W.heap.size → w1.cell? ⟨b, o, none⟩ = W.cell? ⟨b, o, none⟩) ∧ (∀ b o, b < W.heap.size → w1.frozen? ⟨b, o, none⟩ = W.frozen? ⟨b, o, none⟩) :=
  ⟨fun b o h => hb.cell (p := ⟨b, o, none⟩) h, fun b o h => hb.frozen (p := ⟨b, o, none⟩) h⟩
/-- a store into a block that is not the own row's leaves it -/
theorem own_set {w : World} {base : Nat} {A : Option Addr} {n c : Nat} {zs : List Int} (h : Own w base A n c zs) (b i : Nat) (v : Value) (hb : b < base) : Own (w.setCell ⟨b, i, none⟩ v) base A n c zs :=
  h.keep (Go.Lib.grownBy_setCell w b i v) (fun g hg e => by have := (h.blk g hg).1; injection e with e; omega)

set_option maxRecDepth 100000 in
set_option maxHeartbeats 1600000 in
theorem toDiskOp_any (k : Int) (name to_ : ByteArray) (A : Option Addr) (n c : Nat) (zs : List Int) (w : World) (hr : Rd w w.heap.size A zs) (hl : zs.length = n) (hn : n ≤ 1099511627776) :
    Calls Try.prog 40 #[.agg #[.int .i64 k, .string name, .string to_, .slice A n c]] w
      fun e w' => ∃ A' c', e = .returned (.agg #[.int .i64 k, .string name, .string to_, .slice A' n c']) ∧ Own w' w.heap.size A' n c' zs ∧ Below w.heap.size w w' := by
  have HR := Lib.hid hr
  have HL := Lib.hid hl
  clear hr hl
  go_enter Try.func40, Try.ntmps40
  go_wp2_with fail
  have hb0 : Below w.heap.size w (((w.alloc (.cells #[.int .i64 k, .string name, .string to_, .slice A n c] 60)).alloc (.cells #[.int .i64 0, .string ByteArray.empty, .string ByteArray.empty, .slice none 0 0] 63)).alloc (.cells #[.int .i64 k, .string name, .string to_, .slice none 0 0] 63)) :=
    (((Below.refl _ _).alloc (Nat.le_refl _) _).alloc (by simp) _).alloc (by simp; omega) _
  have HB0 := Lib.hid hb0
  clear hb0
  refine (toByteS_any A n c zs _ ((HR.out.below (Nat.le_refl _) HB0.out).more (by simp; omega)) HL.out (by omega)).mono ?_
  rintro e v1 ⟨A1, c1, rfl, ho1, hb1⟩
  have HO := Lib.hid ho1
  have HB1 := Lib.hid hb1
  obtain ⟨hc, hf⟩ := bcell hb1
  have hz : w.heap.size + 2 < v1.heap.size := by have := hb1.size; simp at this; omega
  clear ho1 hb1
  go_wp2_with fail
  refine bodyPost_ret (v := .agg #[.int .i64 k, .string name, .string to_, .slice A1 n c1]) (by simp [results, Try.results40, go_sem, hc]) rfl ⟨A1, c1, rfl, ?_, ?_⟩
  · have h0 := HO.out.more (base' := w.heap.size + 3) (by simp)
    have h1 := own_set (own_set (own_set (own_set (own_set h0 (w.heap.size + 1 + 1) 3 (.slice A1 n c1) (by omega)) (w.heap.size + 1) 0 (.int .i64 k) (by omega)) (w.heap.size + 1) 1 (.string name) (by omega)) (w.heap.size + 1) 2 (.string to_) (by omega)) (w.heap.size + 1) 3 (.slice A1 n c1) (by omega)
    exact h1.more (by omega)
  · have h0 := HB0.out.trans (HB1.out.mono (by simp; omega))
    exact ((((h0.setCell (by simp; omega) _).setCell (by simp) _).setCell (by simp) _).setCell (by simp) _).setCell (by simp) _

set_option maxRecDepth 100000 in
set_option maxHeartbeats 1600000 in
theorem eqDiskOp_yes (k : Int) (name to_ : ByteArray) (A A' : Option Addr) (n c c' : Nat) (zs : List Int) (w : World) (hx : Rd w w.heap.size A zs) (hy : Rd w w.heap.size A' zs) (hl : zs.length = n) (hn : n ≤ 1099511627776) :
    Calls Try.prog 42 #[.agg #[.int .i64 k, .string name, .string to_, .slice A n c], .agg #[.int .i64 k, .string name, .string to_, .slice A' n c']] w fun e w' => e = .returned (.bool true) ∧ Below w.heap.size w w' := by
  have e1 : (!(name.toList == name.toList)) = false := by simp
  have e2 : (!(to_.toList == to_.toList)) = false := by simp
  have e3 : (k != k) = false := by simp
  have HX := Lib.hid hx
  have HY := Lib.hid hy
  have HL := Lib.hid hl
  have hb0 := Lib.hid (((Below.refl w.heap.size w).alloc (Nat.le_refl _) (.cells #[.int .i64 k, .string name, .string to_, .slice A n c] 63)).alloc (by simp) (.cells #[.int .i64 k, .string name, .string to_, .slice A' n c'] 63))
  clear hx hy hl
  go_enter Try.func42, Try.ntmps42
  go_wp2_with fail
  refine (eqByteS_yes A A' n c n c' zs _ ((HX.out.below (Nat.le_refl _) hb0.out).more (by simp; omega)) ((HY.out.below (Nat.le_refl _) hb0.out).more (by simp; omega)) HL.out HL.out (by omega)).mono ?_
  rintro e v1 ⟨rfl, hb1⟩
  have HB1 := Lib.hid hb1
  clear hb1
  go_wp2_with fail
  go_ret
  exact ⟨rfl, hb0.out.trans (HB1.out.mono (by simp; omega))⟩
end Go.Proofs.Ytmdohcmlfjijpaa.OpOk
