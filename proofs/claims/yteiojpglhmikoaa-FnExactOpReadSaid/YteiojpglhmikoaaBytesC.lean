/- Contracts of the laws' helpers over byte slices (a copy): each returns what its Go text says in every world that holds the slices, lengths at most 2^40. -/
import Derived.Test.YteiojpglhmikoaaBytesEq
import Derived.WalkKit
import Derived.WalkSmall
import Derived.Deep.QuietTactic
import Derived.BigQuiet
import Derived.Lib.Hide
namespace Go.Proofs.Yteiojpglhmikoaa.Bytes
open Go.RowKit
set_option linter.unusedVariables false
/-! ### toByteS: a copy -/
def part (zs : List Int) (n k : Nat) : List Int := zs.take k ++ List.replicate (n - k) 0
theorem part_set {zs : List Int} {n k : Nat} (hl : zs.length = n) (hk : k < n) : (part zs n k).set k (zs.getD k 0) = part zs n (k + 1) := by
  have e : zs.getD k 0 = zs[k] := by simp [List.getD, show k < zs.length by omega]
  unfold part
  rw [e, show n - k = (n - (k + 1)) + 1 by omega, List.replicate_succ, List.set_append_right _ _ (by simp; omega)]
  simp [show k - min k zs.length = 0 by omega]
  rw [List.take_succ_eq_append_getElem (by omega), List.append_assoc]
  rfl
theorem part_end {zs : List Int} {n : Nat} (hl : zs.length = n) : part zs n n = zs := by
  unfold part; rw [List.take_of_length_le (by omega)]; simp
theorem bv_set (zs : List Int) (k : Nat) (z : Int) : (bv zs).set k (.int .u8 z) = bv (zs.set k z) := by simp [bv]

set_option maxRecDepth 100000 in
set_option maxHeartbeats 800000 in
theorem toByteS_any (A : Option Addr) (n c : Nat) (zs : List Int) (w : World) (hr : Rd w w.heap.size A zs) (hl : zs.length = n) (hn : n ≤ 1099511627776) :
    Calls Try.prog 17 #[.slice A n c] w fun e w' => ∃ A' c', e = .returned (.slice A' n c') ∧ Own w' w.heap.size A' n c' zs ∧ Below w.heap.size w w' := by
  obtain ⟨i0, hi, hz0, hz1, hz2⟩ := info_parts Tryinfo
  have hm : n ≤ maxLen := by unfold maxLen; omega
  have HL := Lib.hid hl
  clear hl
  go_enter Try.func17, Try.ntmps17
  go_wp2_with (at_make; refine wpList_make_full _ rfl _ _ 22 rfl w.heap.size 5 i0 (.int .u8 0) 1 Try.underlying22 hi hz0 hz1 _ _ _ _ n rfl rfl rfl rfl ?c1 hm (Nat.le_refl _) ?_)
  case c1 => rw [hz2]; omega
  intro w1 hown hgrow
  have hown' : Own w1 w.heap.size (some ⟨w.heap.size, 0, none⟩) n n (part zs n 0) := by
    unfold Own
    have e : bv (part zs n 0) = (madeCells #[Value.int .u8 0] n).toList := by
      simp [part, bv, toList_madeCells_one]
    rw [e]; exact hown
  have hb1 : Below w.heap.size w w1 := (Below.refl _ _).grown hgrow (Nat.le_refl _) (by simp)
  clear hown hgrow
  go_wp2
  go_loopw [4] (fun i wr => ∃ k : Nat, k ≤ n ∧ i = .int .i64 k ∧ Own wr w.heap.size (some ⟨w.heap.size, 0, none⟩) n n (part zs n k) ∧ Below w.heap.size w wr) (fun i _ => n - (intOf i).toNat)
  case atStart => exact ⟨0, Nat.zero_le _, rfl, hown', hb1⟩
  case round =>
    obtain ⟨k, hk, rfl, ho, hb⟩ := hrel
    clear hown' hb1
    by_cases hlt : k < n
    · obtain ⟨b, o, rfl, hB, hc0⟩ := hr.at_ (k := k) (by rw [HL.out]; exact hlt)
      have hc := (hb.cell (p := ⟨b, o + k, none⟩) hB).trans hc0
      have hd := World.ownsRow.cellAt (h := ho) k (by omega)
      have hf := World.ownsRow.frozenAt (h := ho) k
      have hd' : ∃ u, wr.cell? ⟨w.heap.size, k, none⟩ = some u := by
        rw [hd]; exact ⟨_, List.getElem?_eq_getElem (by have := HL.out; simp [bv, part]; omega)⟩
      obtain ⟨u, hu⟩ := hd'
      have hs := World.ownsRow.stored (h := ho) k (.int .u8 (zs.getD k 0))
      rw [bv_set, part_set HL.out hlt] at hs
      have HS := Lib.hid hs.1
      have HB := Lib.hid hb
      clear hs hd hc0 ho hb hr
      generalize zs.getD k 0 = z at *
      go_wp2
      go_roundw
      case rel => exact ⟨k + 1, by omega, by go_num, HS.out, HB.out.setCell (by simp) _⟩
      case measure => simp [intOf]; omega
    · obtain rfl : n = k := by omega
      rw [part_end HL.out] at ho
      go_wp2
      go_ret
      exact ⟨_, _, rfl, ho, hb⟩

end Go.Proofs.Yteiojpglhmikoaa.Bytes

