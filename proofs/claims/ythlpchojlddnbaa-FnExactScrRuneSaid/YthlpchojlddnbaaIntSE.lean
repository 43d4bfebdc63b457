/- A store into a slice of ints, and the laws' comparison of equal slices of ints. -/
import Derived.Test.YthlpchojlddnbaaIntsB
namespace Go.Proofs.Ythlpchojlddnbaa.DOk
open Go.RowKit Go.Proofs.Ythlpchojlddnbaa.Bytes
set_option linter.unusedVariables false
theorem OwnI.stored {w : World} {base g n c : Nat} {zs : List Int} (h : OwnI w base (some ⟨g, 0, none⟩) n c zs) (k : Nat) (z : Int) :
    OwnI (w.setCell ⟨g, k, none⟩ (.int .i64 z)) base (some ⟨g, 0, none⟩) n c (zs.set k z) ∧ w.grownBy (w.setCell ⟨g, k, none⟩ (.int .i64 z)) (some g) := by
  have hs := World.ownsRow.stored (h := h) k (.int .i64 z)
  refine ⟨?_, hs.2⟩
  have e : iv (zs.set k z) = (iv zs).set k (.int .i64 z) := by simp [iv]
  unfold OwnI; rw [e]; exact hs.1
set_option maxRecDepth 100000 in
set_option maxHeartbeats 800000 in
theorem eqIntS_yes (A A' : Option Addr) (n c c' : Nat) (xs : List Int) (w : World) (hx : RdI w w.heap.size A xs) (hy : RdI w w.heap.size A' xs) (hl : xs.length = n) (hn : n ≤ 2097152) :
    Calls Try.prog 66 #[.slice A n c, .slice A' n c'] w fun e w' => e = .returned (.bool true) ∧ Below w.heap.size w w' := by
  have HL := Lib.hid hl
  have HX := Lib.hid hx
  have HY := Lib.hid hy
  clear hl hx hy
  go_enter Try.func66, Try.ntmps66
  go_wp2
  go_loopw [5] (fun i wr => ∃ k j : Nat, k ≤ n ∧ i = .int .i64 k ∧ wr = w.drewN j) (fun i _ => n - (intOf i).toNat)
  case atStart => exact ⟨0, 0, Nat.zero_le _, rfl, rfl⟩
  case round =>
    obtain ⟨k, j, hk, rfl, rfl⟩ := hrel
    by_cases hlt : k < n
    · have hlt' : k < xs.length := by rw [HL.out]; exact hlt
      obtain ⟨b, o, rfl, hB, hc⟩ := HX.out.at_ hlt'
      obtain ⟨b', o', rfl, hB', hc'⟩ := HY.out.at_ hlt'
      generalize xs[k] = z at *
      have hne : (z != z) = false := by simp
      go_wp2
      go_quiet (fail)
      go_wp2
      exact ⟨⟨k + 1, _, by omega, by go_num, rfl⟩, by simp [intOf]; omega⟩
    · obtain rfl : n = k := by omega
      go_wp2
      go_ret
      exact ⟨rfl, below_drewN (Below.refl _ _) j⟩

end Go.Proofs.Ythlpchojlddnbaa.DOk

