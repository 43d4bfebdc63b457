/- Contracts of the checksum, in the program (a closure over its register): a plain function of the bytes. -/
import Derived.Test.YteiojpglhmikoaaAppend
import Derived.Laws.BitsAllLaws
import Derived.Laws.BitsLemmas
import Derived.OneCell
namespace Go.Proofs.Yteiojpglhmikoaa.Crc
open Go.RowKit Go.Proofs.Yteiojpglhmikoaa.Bytes
set_option linter.unusedVariables false

/-! ### the register, as a plain function -/
def c1 (r : Nat) : Nat := if r % 2 = 1 then (r / 2) ^^^ 2197175160 else r / 2
def cn : Nat → Nat → Nat
  | 0, r => r
  | j + 1, r => c1 (cn j r)
def cb (r : Nat) (z : Int) : Nat := cn 8 (r ^^^ z.toNat)
def cf (l : List Int) : Nat := l.foldl cb 4294967295
theorem c1_lt {r : Nat} (h : r < 4294967296) : c1 r < 4294967296 := by
  unfold c1; split
  · exact Nat.xor_lt_two_pow (n := 32) (by omega) (by omega)
  · omega
theorem cn_lt (j : Nat) {r : Nat} (h : r < 4294967296) : cn j r < 4294967296 := by
  induction j with
  | zero => exact h
  | succ j ih => exact c1_lt ih
theorem xor_byte_lt {r : Nat} {z : Int} (h : r < 4294967296) (h1 : z < 256) : r ^^^ z.toNat < 4294967296 := Nat.xor_lt_two_pow (n := 32) (by omega) (by omega)
theorem cb_lt {r : Nat} {z : Int} (h : r < 4294967296) (h1 : z < 256) : cb r z < 4294967296 := cn_lt 8 (xor_byte_lt h h1)
theorem cf_snoc (l : List Int) (z : Int) : cf (l ++ [z]) = cb (cf l) z := by simp [cf, List.foldl_append]
theorem cf_lt (l : List Int) (h : ∀ z ∈ l, 0 ≤ z ∧ z < 256) : cf l < 4294967296 := by
  have key : ∀ (l : List Int) (r : Nat), r < 4294967296 → (∀ z ∈ l, 0 ≤ z ∧ z < 256) → l.foldl cb r < 4294967296 := by
    intro l
    induction l with
    | nil => intro r hr _; exact hr
    | cons z l ih => intro r hr hz; exact ih _ (cb_lt hr (hz z (by simp)).2) fun y hy => hz y (by simp [hy])
  exact key l _ (by omega) h
theorem cf_take (zs : List Int) (k : Nat) (h : k < zs.length) : cf (zs.take (k + 1)) = cb (cf (zs.take k)) (zs.getD k 0) := by
  have e : zs.getD k 0 = zs[k] := by simp only [List.getD, List.getElem?_eq_getElem h]; rfl
  rw [List.take_succ_eq_append_getElem h, cf_snoc, e]
theorem c1_odd {r : Nat} (h : r % 2 = 1) : c1 r = (r / 2) ^^^ 2197175160 := if_pos h
theorem c1_even {r : Nat} (h : r % 2 = 0) : c1 r = r / 2 := if_neg (by omega)
theorem xor_all {x : Nat} (h : x < 4294967296) : x ^^^ 4294967295 = 4294967295 - x := by
  apply Nat.eq_of_testBit_eq
  intro i
  have h1 := Nat.testBit_two_pow_sub_succ (n := 32) (x := x) (by omega) i
  have h2 := Nat.testBit_two_pow_sub_one 32 i
  rw [Nat.testBit_xor, show (4294967295 : Nat) = 2 ^ 32 - 1 by omega, h2, show (2 ^ 32 - 1 - x : Nat) = 2 ^ 32 - (x + 1) by omega, h1]
  by_cases hi : i < 32
  · simp [hi]
  · have hx : x.testBit i = false := Nat.testBit_lt_two_pow (Nat.lt_of_lt_of_le (show x < 2 ^ 32 by omega) (Nat.pow_le_pow_right (by omega) (by omega)))
    simp [hi, hx]

/-! ### the program: a closure over its register -/
theorem u32_xor' (a b : Nat) (ha : a < 4294967296) (hb : b < 4294967296) : bits .xor .u32 (a : Int) (b : Int) = ((a ^^^ b : Nat) : Int) := u32_xor_nat a b ha hb
theorem u32_and1 (a : Nat) (ha : a < 4294967296) : bits .and .u32 (a : Int) 1 = ((a % 2 : Nat) : Int) := by
  have := u32_and_nat a 1 ha (by omega)
  rw [nat_mask1] at this
  exact this

theorem not32 {r : Nat} (h : r < 4294967296) : wrap64 (bits .xor .u32 IntKind.u32.max (r : Int)) = ((4294967295 - r : Nat) : Int) := by
  have e : IntKind.u32.max = ((4294967295 : Nat) : Int) := by decide
  rw [e, u32_xor' 4294967295 r (by omega) h, Nat.xor_comm, xor_all h, IntWalk.wrap64_in _ ⟨by omega, by omega⟩]

end Go.Proofs.Yteiojpglhmikoaa.Crc

