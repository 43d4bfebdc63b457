/- Texts that lay in modules of their own: BytesEq, BytesC, SzB. -/
import Derived.Test.YtgnpgkkjcloghaaGreatDoorKiA
import Derived.WalkKit
import Derived.WalkSmall
import Derived.Deep.QuietTactic
import Derived.BigQuiet
import Derived.Lib.Hide
import Derived.Lib.BufferWrite
import Derived.Outline
namespace Go.Proofs.YtgnpgkkjcloghaaGreatDoor.Bytes
open Go.RowKit
set_option linter.unusedVariables false
/-! ### eqByteS: two slices hold the same -/
def eqB (xs ys : List Int) : Bool := decide (xs = ys)
theorem eqB_len {xs ys : List Int} (h : xs.length ≠ ys.length) : eqB xs ys = false := by
  unfold eqB; exact decide_eq_false fun e => h (by rw [e])
theorem eqB_at {xs ys : List Int} {k : Nat} (h : xs.getD k 0 ≠ ys.getD k 0) : eqB xs ys = false := by
  unfold eqB; exact decide_eq_false fun e => h (by rw [e])
theorem eqB_all {xs ys : List Int} (hl : xs.length = ys.length) (h : ∀ k, k < xs.length → xs.getD k 0 = ys.getD k 0) : eqB xs ys = true := by
  unfold eqB
  refine decide_eq_true (List.ext_getElem hl fun k h1 h2 => ?_)
  have := h k h1
  simpa [List.getD, h1, h2] using this

set_option maxRecDepth 100000 in
set_option maxHeartbeats 800000 in
theorem eqByteS_any (A A' : Option Addr) (n c m c' : Nat) (xs ys : List Int) (w : World) (hx : Rd w w.heap.size A xs) (hy : Rd w w.heap.size A' ys) (hl : xs.length = n) (hm : ys.length = m) (hn : n ≤ 1099511627776) (hn' : m ≤ 1099511627776) :
    Calls Tryz.prog 164 #[.slice A n c, .slice A' m c'] w fun e w' => e = .returned (.bool (eqB xs ys)) ∧ ∃ j, w' = w.drewN j := by
  by_cases hnm : n = m
  · subst hnm
    have HL := Lib.hid hl
    have HM := Lib.hid hm
    clear hl hm
    go_enter Tryz.func164, Tryz.ntmps164
    go_wp2
    go_loopw [5] (fun i wr => ∃ k j : Nat, k ≤ n ∧ i = .int .i64 k ∧ (∀ t, t < k → xs.getD t 0 = ys.getD t 0) ∧ wr = w.drewN j) (fun i _ => n - (intOf i).toNat)
    case atStart => exact ⟨0, 0, Nat.zero_le _, rfl, fun t ht => by omega, rfl⟩
    case round =>
      obtain ⟨k, j, hk, rfl, ha, rfl⟩ := hrel
      have HA := Lib.hid ha
      clear ha
      by_cases hlt : k < n
      · obtain ⟨b, o, rfl, hB, hc⟩ := hx.at_ (k := k) (by rw [HL.out]; exact hlt)
        obtain ⟨b', o', rfl, hB', hc'⟩ := hy.at_ (k := k) (by rw [HM.out]; exact hlt)
        obtain ⟨z, hz⟩ : ∃ z, z = xs.getD k 0 := ⟨_, rfl⟩
        obtain ⟨z', hz'⟩ : ∃ z, z = ys.getD k 0 := ⟨_, rfl⟩
        rw [← hz] at hc
        rw [← hz'] at hc'
        have HZ := Lib.hid hz
        have HZ' := Lib.hid hz'
        clear hx hy hz hz'
        by_cases he : z = z'
        · have heb : (z != z') = false := by simp [he]
          have HE := Lib.hid he
          clear he
          go_wp2
          go_quiet (fail)
          go_wp2
          refine ⟨⟨k + 1, _, by omega, by go_num, fun t ht => ?_, rfl⟩, by simp [intOf]; omega⟩
          rcases Nat.lt_or_ge t k with h1 | h1
          · exact HA.out t h1
          · obtain rfl : t = k := by omega
            rw [← HZ.out, ← HZ'.out, HE.out]
        · have heb : (z != z') = true := by simp [he]
          have HE := Lib.hid he
          clear he
          go_wp2
          go_quiet (fail)
          go_wp2
          go_ret
          have hf := eqB_at (xs := xs) (ys := ys) (k := k) (by rw [← HZ.out, ← HZ'.out]; exact HE.out)
          exact ⟨ret_bool hf.symm, j + nq, by simp [World.drewN_drewN]⟩
      · obtain rfl : n = k := by omega
        have HE := Lib.hid (eqB_all (xs := xs) (ys := ys) (by rw [HL.out, HM.out]) (fun t ht => HA.out t (by have := HL.out; omega)))
        go_wp2
        go_ret
        exact ⟨ret_bool HE.out.symm, _, rfl⟩
  · have HE := Lib.hid (eqB_len (xs := xs) (ys := ys) (by omega))
    have hne : (!((n : Int) == (m : Int))) = true := by simp; omega
    go_enter Tryz.func164, Tryz.ntmps164
    go_wp2
    go_ret
    exact ⟨ret_bool HE.out.symm, 0, rfl⟩

/-! ### markByteS writes k, k + 1, .. (as bytes) into a slice of the call's own; heldByteS finds them there -/
theorem eqB_refl (xs : List Int) : eqB xs xs = true := by simp [eqB]
theorem eqByteS_yes (A A' : Option Addr) (n c m c' : Nat) (xs : List Int) (w : World) (hx : Rd w w.heap.size A xs) (hy : Rd w w.heap.size A' xs) (hl : xs.length = n) (hm : xs.length = m) (hn : n ≤ 1099511627776) :
    Calls Tryz.prog 164 #[.slice A n c, .slice A' m c'] w fun e w' => e = .returned (.bool true) ∧ Below w.heap.size w w' := by
  refine (eqByteS_any A A' n c m c' xs xs w hx hy hl hm hn (by omega)).mono ?_
  rintro e w' ⟨rfl, j, rfl⟩
  exact ⟨by rw [eqB_refl], below_drewN (Below.refl _ _) j⟩

end Go.Proofs.YtgnpgkkjcloghaaGreatDoor.Bytes
namespace Go.Proofs.YtgnpgkkjcloghaaGreatDoor.Bytes
open Go.RowKit
set_option linter.unusedVariables false
/-! ### toByteS: a copy -/
def part (zs : List Int) (n k : Nat) : List Int := zs.take k ++ List.replicate (n - k) 0
end Go.Proofs.YtgnpgkkjcloghaaGreatDoor.Bytes
namespace Go.Proofs.YtgnpgkkjcloghaaGreatDoor.OpOk
open Go.RowKit Go.Proofs.YtgnpgkkjcloghaaGreatDoor.Bytes
set_option linter.unusedVariables false

theorem bcell {W w1 : World} (hb : Below W.heap.size W w1) : (∀ b o, b < W.heap.size → w1.cell? ⟨b, o, none⟩ = W.cell? ⟨b, o, none⟩) ∧ (∀ b o, b < W.heap.size → w1.frozen? ⟨b, o, none⟩ = W.frozen? ⟨b, o, none⟩) :=
  ⟨fun b o h => hb.cell (p := ⟨b, o, none⟩) h, fun b o h => hb.frozen (p := ⟨b, o, none⟩) h⟩
end Go.Proofs.YtgnpgkkjcloghaaGreatDoor.OpOk
