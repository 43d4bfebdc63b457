/- The laws' copy of a slice of ints. -/
import Derived.Test.YthlpchojlddnbaaIntSE
namespace Go.Proofs.Ythlpchojlddnbaa.DOk
open Go.RowKit Go.Proofs.Ythlpchojlddnbaa.Bytes
set_option linter.unusedVariables false

def partI (zs : List Int) (n k : Nat) : List Int := zs.take k ++ List.replicate (n - k) 0
theorem partI_set {zs : List Int} {n k : Nat} (hl : zs.length = n) (hk : k < n) : (partI zs n k).set k (zs[k]'(by omega)) = partI zs n (k + 1) := by
  unfold partI
  rw [List.set_append_right _ _ (by rw [List.length_take]; omega), List.length_take, show k - min k zs.length = 0 by omega, show n - k = (n - (k + 1)) + 1 by omega, List.replicate_succ, List.set_cons_zero, List.take_succ_eq_append_getElem (by omega), List.append_assoc]
  rfl
theorem partI_end {zs : List Int} {n : Nat} (hl : zs.length = n) : partI zs n n = zs := by
  unfold partI; rw [Nat.sub_self, List.replicate_zero, List.append_nil, List.take_of_length_le (by omega)]
theorem partI_len {zs : List Int} {n k : Nat} (hl : zs.length = n) (hk : k ≤ n) : (partI zs n k).length = n := by
  unfold partI; rw [List.length_append, List.length_take, List.length_replicate]; omega
set_option maxRecDepth 100000 in
set_option maxHeartbeats 800000 in
theorem toIntS_any (A : Option Addr) (n c : Nat) (zs : List Int) (w : World) (hr : RdI w w.heap.size A zs) (hl : zs.length = n) (hn : n ≤ 2097152) :
    Calls Try.prog 61 #[.slice A n c] w fun e w' => ∃ A' c', e = .returned (.slice A' n c') ∧ OwnI w' w.heap.size A' n c' zs ∧ Below w.heap.size w w' := by
  obtain ⟨i0, hi, hz0, hz1, hz2⟩ := info_parts intInfo
  have hm : n ≤ maxLen := by unfold maxLen; omega
  have HL := Lib.hid hl
  have HR := Lib.hid hr
  clear hl hr
  go_enter Try.func61, Try.ntmps61
  go_wp2_with (at_make; refine wpList_make_full _ rfl _ _ 46 rfl w.heap.size 3 i0 (.int .i64 0) 1 Try.underlying46 hi hz0 hz1 _ _ _ _ n rfl rfl rfl rfl ?c1 hm (Nat.le_refl _) ?_)
  case c1 => rw [hz2]; omega
  intro w1 hown hgrow
  have hown' : OwnI w1 w.heap.size (some ⟨w.heap.size, 0, none⟩) n n (partI zs n 0) := by
    unfold OwnI
    have e : iv (partI zs n 0) = (madeCells #[Value.int .i64 0] n).toList := by
      simp [iv, partI, toList_madeCells_one]
    rw [e]; exact hown
  have hb1 : Below w.heap.size w w1 := (Below.refl _ _).grown hgrow (Nat.le_refl _) (by simp)
  clear hown hgrow
  go_wp2
  go_loopw [4] (fun i wr => ∃ k : Nat, k ≤ n ∧ i = .int .i64 k ∧ OwnI wr w.heap.size (some ⟨w.heap.size, 0, none⟩) n n (partI zs n k) ∧ Below w.heap.size w wr) (fun i _ => n - (intOf i).toNat)
  case atStart => exact ⟨0, Nat.zero_le _, rfl, hown', hb1⟩
  case round =>
    obtain ⟨k, hk, rfl, ho, hb⟩ := hrel
    clear hown' hb1
    by_cases hlt : k < n
    · have hlt' : k < zs.length := by rw [HL.out]; exact hlt
      obtain ⟨b, o, rfl, hB, hc⟩ := (HR.out.below (Nat.le_refl _) hb).at_ hlt'
      have hf := World.ownsRow.frozenAt (h := ho) k
      obtain ⟨u, hu⟩ : ∃ u, wr.cell? ⟨w.heap.size, k, none⟩ = some u := by
        rw [World.ownsRow.cellAt (h := ho) k (by omega)]; exact ⟨_, List.getElem?_eq_getElem (by have := partI_len HL.out (Nat.le_of_lt hlt); simp [iv]; omega)⟩
      have hs := ho.stored k zs[k]
      rw [partI_set HL.out hlt] at hs
      have HS := Lib.hid hs.1
      have HB := Lib.hid hb
      clear hs ho hb
      generalize zs[k] = z at *
      go_wp2
      go_roundw
      case rel => exact ⟨k + 1, by omega, by go_num, HS.out, HB.out.setCell (by simp) _⟩
      case measure => simp [intOf]; omega
    · obtain rfl : n = k := by omega
      rw [partI_end HL.out] at ho
      have HO := Lib.hid ho
      have HB := Lib.hid hb
      clear ho hb
      go_wp2
      go_ret
      exact ⟨_, _, rfl, HO.out, HB.out⟩

end Go.Proofs.Ythlpchojlddnbaa.DOk

