/- Contracts of the laws' helpers over byte slices (a comparison; the marks as lists): each returns what its Go text says in every world that holds the slices, lengths at most 2^40. -/
import Derived.Test.YteiojpglhmikoaaKiA
import Derived.WalkKit
import Derived.WalkSmall
import Derived.Deep.QuietTactic
import Derived.BigQuiet
import Derived.Lib.Hide
namespace Go.Proofs.Yteiojpglhmikoaa.Bytes
open Go.RowKit
set_option linter.unusedVariables false
/-! ### eqByteS: two slices hold the same -/
def eqB (xs ys : List Int) : Bool := decide (xs = ys)
theorem eqB_len {xs ys : List Int} (h : xs.length ≠ ys.length) : eqB xs ys = false := by
  unfold eqB; exact decide_eq_false fun e => h (by rw [e])
theorem eqB_at {xs ys : List Int} {k : Nat} (h : xs.getD k 0 ≠ ys.getD k 0) : eqB xs ys = false := by
  unfold eqB; exact decide_eq_false fun e => h (by rw [e])
theorem eqB_all {xs ys : List Int} (hl : xs.length = ys.length) (h : ∀ k, k < xs.length → xs.getD k 0 = ys.getD k 0) : eqB xs ys = true := by
  unfold eqB
  refine decide_eq_true (List.ext_getElem hl fun k h1 h2 => ?_)
  have := h k h1
  simpa [List.getD, h1, h2] using this

set_option maxRecDepth 100000 in
set_option maxHeartbeats 800000 in
theorem eqByteS_any (A A' : Option Addr) (n c m c' : Nat) (xs ys : List Int) (w : World) (hx : Rd w w.heap.size A xs) (hy : Rd w w.heap.size A' ys) (hl : xs.length = n) (hm : ys.length = m) (hn : n ≤ 1099511627776) (hn' : m ≤ 1099511627776) :
    Calls Try.prog 18 #[.slice A n c, .slice A' m c'] w fun e w' => e = .returned (.bool (eqB xs ys)) ∧ ∃ j, w' = w.drewN j := by
  by_cases hnm : n = m
  · subst hnm
    have HL := Lib.hid hl
    have HM := Lib.hid hm
    clear hl hm
    go_enter Try.func18, Try.ntmps18
    go_wp2
    go_loopw [5] (fun i wr => ∃ k j : Nat, k ≤ n ∧ i = .int .i64 k ∧ (∀ t, t < k → xs.getD t 0 = ys.getD t 0) ∧ wr = w.drewN j) (fun i _ => n - (intOf i).toNat)
    case atStart => exact ⟨0, 0, Nat.zero_le _, rfl, fun t ht => by omega, rfl⟩
    case round =>
      obtain ⟨k, j, hk, rfl, ha, rfl⟩ := hrel
      have HA := Lib.hid ha
      clear ha
      by_cases hlt : k < n
      · obtain ⟨b, o, rfl, hB, hc⟩ := hx.at_ (k := k) (by rw [HL.out]; exact hlt)
        obtain ⟨b', o', rfl, hB', hc'⟩ := hy.at_ (k := k) (by rw [HM.out]; exact hlt)
        obtain ⟨z, hz⟩ : ∃ z, z = xs.getD k 0 := ⟨_, rfl⟩
        obtain ⟨z', hz'⟩ : ∃ z, z = ys.getD k 0 := ⟨_, rfl⟩
        rw [← hz] at hc
        rw [← hz'] at hc'
        have HZ := Lib.hid hz
        have HZ' := Lib.hid hz'
        clear hx hy hz hz'
        by_cases he : z = z'
        · have heb : (z != z') = false := by simp [he]
          have HE := Lib.hid he
          clear he
          go_wp2
          go_quiet (fail)
          go_wp2
          refine ⟨⟨k + 1, _, by omega, by go_num, fun t ht => ?_, rfl⟩, by simp [intOf]; omega⟩
          rcases Nat.lt_or_ge t k with h1 | h1
          · exact HA.out t h1
          · obtain rfl : t = k := by omega
            rw [← HZ.out, ← HZ'.out, HE.out]
        · have heb : (z != z') = true := by simp [he]
          have HE := Lib.hid he
          clear he
          go_wp2
          go_quiet (fail)
          go_wp2
          go_ret
          have hf := eqB_at (xs := xs) (ys := ys) (k := k) (by rw [← HZ.out, ← HZ'.out]; exact HE.out)
          exact ⟨ret_bool hf.symm, j + nq, by simp [World.drewN_drewN]⟩
      · obtain rfl : n = k := by omega
        have HE := Lib.hid (eqB_all (xs := xs) (ys := ys) (by rw [HL.out, HM.out]) (fun t ht => HA.out t (by have := HL.out; omega)))
        go_wp2
        go_ret
        exact ⟨ret_bool HE.out.symm, _, rfl⟩
  · have HE := Lib.hid (eqB_len (xs := xs) (ys := ys) (by omega))
    have hne : (!((n : Int) == (m : Int))) = true := by simp; omega
    go_enter Try.func18, Try.ntmps18
    go_wp2
    go_ret
    exact ⟨ret_bool HE.out.symm, 0, rfl⟩

/-! ### markByteS writes k, k + 1, .. (as bytes) into a slice of the call's own; heldByteS finds them there -/
def marks (n : Nat) (k : Int) : List Int := (List.range n).map fun i : Nat => (k + (i : Int)) % 256
def mpart (zs : List Int) (n : Nat) (k : Int) (i : Nat) : List Int := (marks n k).take i ++ zs.drop i
theorem marks_len (n : Nat) (k : Int) : (marks n k).length = n := by simp [marks]
theorem marks_at {n : Nat} (k : Int) {i : Nat} (h : i < n) : (marks n k).getD i 0 = (k + (i : Int)) % 256 := by simp [marks, List.getD, h]
theorem mpart_set {zs : List Int} {n : Nat} (k : Int) {i : Nat} (hl : zs.length = n) (h : i < n) : (mpart zs n k i).set i ((k + (i : Int)) % 256) = mpart zs n k (i + 1) := by
  have e : (marks n k)[i]'(by rw [marks_len]; exact h) = (k + (i : Int)) % 256 := by simp [marks]
  unfold mpart
  rw [List.set_append_right _ _ (by simp only [List.length_take]; omega), show i - (List.take i (marks n k)).length = 0 from (by have := marks_len n k; simp only [List.length_take, this]; omega),
    List.drop_eq_getElem_cons (by omega), List.set_cons_zero, List.take_succ_eq_append_getElem (by rw [marks_len]; exact h), e, List.append_assoc]
  rfl
theorem mpart_end {zs : List Int} {n : Nat} (k : Int) (hl : zs.length = n) : mpart zs n k n = marks n k := by
  unfold mpart; rw [List.take_of_length_le (by rw [marks_len]; omega), List.drop_of_length_le (by omega), List.append_nil]
theorem eqB_refl (xs : List Int) : eqB xs xs = true := by simp [eqB]
theorem eqByteS_yes (A A' : Option Addr) (n c m c' : Nat) (xs : List Int) (w : World) (hx : Rd w w.heap.size A xs) (hy : Rd w w.heap.size A' xs) (hl : xs.length = n) (hm : xs.length = m) (hn : n ≤ 1099511627776) :
    Calls Try.prog 18 #[.slice A n c, .slice A' m c'] w fun e w' => e = .returned (.bool true) ∧ Below w.heap.size w w' := by
  refine (eqByteS_any A A' n c m c' xs xs w hx hy hl hm hn (by omega)).mono ?_
  rintro e w' ⟨rfl, j, rfl⟩
  exact ⟨by rw [eqB_refl], below_drewN (Below.refl _ _) j⟩

end Go.Proofs.Yteiojpglhmikoaa.Bytes

