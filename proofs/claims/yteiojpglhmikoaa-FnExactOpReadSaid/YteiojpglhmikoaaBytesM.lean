/- Contracts of the laws' helpers that mark a byte slice and find its marks. -/
import Derived.Test.YteiojpglhmikoaaBytesEq
namespace Go.Proofs.Yteiojpglhmikoaa.Bytes
open Go.RowKit
set_option linter.unusedVariables false

set_option maxRecDepth 100000 in
set_option maxHeartbeats 800000 in
theorem markByteS_any (A : Option Addr) (n c : Nat) (base : Nat) (zs : List Int) (k : Int) (w : World) (ho : Own w base A n c zs) (hn : n ≤ 1099511627776) (h0 : 0 ≤ k) (h1 : k ≤ 1099511627776) :
    Calls Try.prog 19 #[.slice A n c, .int .i64 k] w fun e w' => e = .returned (.int .i64 (k + n)) ∧ Own w' base A n c (marks n k) ∧ w.grownBy w' (Value.slice A n c).ownBlock := by
  have hl := Lib.hid ho.len
  go_enter Try.func19, Try.ntmps19
  go_wp2
  go_loopw [1, 5] (fun m i wr => ∃ t : Nat, t ≤ n ∧ i = .int .i64 t ∧ m = .int .i64 (k + t) ∧ Own wr base A n c (mpart zs n k t) ∧ w.grownBy wr (Value.slice A n c).ownBlock) (fun _ i _ => n - (intOf i).toNat)
  case atStart => exact ⟨0, Nat.zero_le _, rfl, by go_num, by simpa [mpart] using ho, World.grownBy.refl _ _⟩
  case round =>
    obtain ⟨t, ht, rfl, rfl, ho, hg⟩ := hrel
    by_cases hlt : t < n
    · obtain ⟨g, rfl, hbg, hgl⟩ := ho.head (by omega)
      obtain ⟨hc, hf⟩ := ho.spot hlt
      have hs := ho.stored t ((k + (t : Int)) % 256)
      rw [mpart_set k hl.out hlt] at hs
      have HS := Lib.hid hs.1
      have HG := Lib.hid (grown_trans hg hs.2)
      clear hs hg ho
      generalize (mpart zs n k t).getD t 0 = z at *
      go_wp2
      exact ⟨⟨t + 1, by omega, by go_num, by go_num, HS.out, HG.out⟩, by simp [intOf]; omega⟩
    · obtain rfl : n = t := by omega
      rw [mpart_end k hl.out] at ho
      go_wp2
      go_ret
      exact ⟨ret_int rfl, ho, hg⟩

set_option maxRecDepth 100000 in
set_option maxHeartbeats 800000 in
theorem heldByteS_any (A : Option Addr) (n c : Nat) (k : Int) (w : World) (hr : Rd w w.heap.size A (marks n k)) (hn : n ≤ 1099511627776) (h0 : 0 ≤ k) (h1 : k ≤ 1099511627776) :
    Calls Try.prog 20 #[.slice A n c, .int .i64 k] w fun e w' => e = .returned (.int .i64 (k + n)) ∧ w = w' := by
  go_enter Try.func20, Try.ntmps20
  go_wp2
  go_loop [1, 5] (fun m i => ∃ t : Nat, t ≤ n ∧ i = .int .i64 t ∧ m = .int .i64 (k + t)) (fun _ i => n - (intOf i).toNat)
  case atStart => exact ⟨0, Nat.zero_le _, rfl, by go_num⟩
  case round =>
    obtain ⟨t, ht, rfl, rfl⟩ := hrel
    by_cases hlt : t < n
    · obtain ⟨b, o, rfl, hB, hc⟩ := hr.at_ (k := t) (by rw [marks_len]; exact hlt)
      rw [marks_at k hlt] at hc
      have hne : ((k + (t : Int)) % 256 != (k + (t : Int)) % 256) = false := by simp
      clear hr
      go_wp2
      exact ⟨⟨t + 1, by omega, by go_num, by go_num⟩, by simp [intOf]; omega⟩
    · obtain rfl : n = t := by omega
      go_wp2
      go_ret
      exact ⟨ret_int rfl, rfl⟩
end Go.Proofs.Yteiojpglhmikoaa.Bytes

