/- Contracts of the laws' helpers that mark a slice of ints and find its marks. -/
import Derived.Test.YthlpchojlddnbaaIntSE
namespace Go.Proofs.Ythlpchojlddnbaa.DOk
open Go.RowKit Go.Proofs.Ythlpchojlddnbaa.Bytes
set_option linter.unusedVariables false

def marksN (n : Nat) (k : Int) : List Int := (List.range n).map fun i : Nat => k + (i : Int)
def mpartI (zs : List Int) (n : Nat) (k : Int) (i : Nat) : List Int := (marksN n k).take i ++ zs.drop i
theorem marksN_len (n : Nat) (k : Int) : (marksN n k).length = n := by simp [marksN]
theorem mpartI_set {zs : List Int} {n : Nat} (k : Int) {i : Nat} (hl : zs.length = n) (h : i < n) : (mpartI zs n k i).set i (k + (i : Int)) = mpartI zs n k (i + 1) := by
  have e : (marksN n k)[i]'(by rw [marksN_len]; exact h) = k + (i : Int) := by simp [marksN]
  unfold mpartI
  rw [List.set_append_right _ _ (by simp only [List.length_take]; omega), show i - (List.take i (marksN n k)).length = 0 from (by have := marksN_len n k; simp only [List.length_take, this]; omega),
    List.drop_eq_getElem_cons (by omega), List.set_cons_zero, List.take_succ_eq_append_getElem (by rw [marksN_len]; exact h), e, List.append_assoc]
  rfl
theorem mpartI_end {zs : List Int} {n : Nat} (k : Int) (hl : zs.length = n) : mpartI zs n k n = marksN n k := by
  unfold mpartI; rw [List.take_of_length_le (by rw [marksN_len]; omega), List.drop_of_length_le (by omega), List.append_nil]
set_option maxRecDepth 100000 in
set_option maxHeartbeats 800000 in
theorem markIntS_own (A : Option Addr) (n c base : Nat) (zs : List Int) (k : Int) (w : World) (ho : OwnI w base A n c zs) (hn : n ≤ 2097152) (h0 : 0 ≤ k) (h1 : k ≤ 1099511627776) :
    Calls Try.prog 68 #[.slice A n c, .int .i64 k] w fun e w' => e = .returned (.int .i64 (k + n)) ∧ OwnI w' base A n c (marksN n k) ∧ w.grownBy w' (Value.slice A n c).ownBlock := by
  have hl := Lib.hid ho.len
  go_enter Try.func68, Try.ntmps68
  go_wp2
  go_loopw [1, 5] (fun m i wr => ∃ t : Nat, t ≤ n ∧ i = .int .i64 t ∧ m = .int .i64 (k + t) ∧ OwnI wr base A n c (mpartI zs n k t) ∧ w.grownBy wr (Value.slice A n c).ownBlock) (fun _ i _ => n - (intOf i).toNat)
  case atStart => exact ⟨0, Nat.zero_le _, rfl, by go_num, by simpa [mpartI] using ho, World.grownBy.refl _ _⟩
  case round =>
    clear ho
    obtain ⟨t, ht, rfl, rfl, ho, hg⟩ := hrel
    by_cases hlt : t < n
    · obtain ⟨g, rfl⟩ : ∃ g, A = some ⟨g, 0, none⟩ := by
        rcases ho.2 with ⟨_, h⟩ | ⟨fb, _, _, h, _⟩
        · omega
        · injection h with h _ _; exact ⟨fb, h⟩
      have hf := World.ownsRow.frozenAt (h := ho) t
      obtain ⟨u, hu⟩ : ∃ u, wr.cell? ⟨g, t, none⟩ = some u := by
        rw [World.ownsRow.cellAt (h := ho) t (by omega)]; exact ⟨_, List.getElem?_eq_getElem (by have := ho.len; simp [iv]; omega)⟩
      have hs := ho.stored t (k + (t : Int))
      rw [mpartI_set k hl.out hlt] at hs
      have HS := Lib.hid hs.1
      have HG := Lib.hid (grown_trans hg hs.2)
      clear hs hg ho
      go_wp2
      exact ⟨⟨t + 1, by omega, by go_num, by go_num, HS.out, HG.out⟩, by simp [intOf]; omega⟩
    · obtain rfl : n = t := by omega
      rw [mpartI_end k hl.out] at ho
      have HO := Lib.hid ho
      have HG := Lib.hid hg
      clear ho hg
      go_wp2
      go_ret
      exact ⟨ret_int rfl, HO.out, HG.out⟩
set_option maxRecDepth 100000 in
set_option maxHeartbeats 800000 in
theorem heldIntS_any (A : Option Addr) (n c : Nat) (k : Int) (w : World) (hr : RdI w w.heap.size A (marksN n k)) (hn : n ≤ 2097152) (h0 : 0 ≤ k) (h1 : k ≤ 1099511627776) :
    Calls Try.prog 70 #[.slice A n c, .int .i64 k] w fun e w' => e = .returned (.int .i64 (k + n)) ∧ w = w' := by
  go_enter Try.func70, Try.ntmps70
  go_wp2
  go_loop [1, 5] (fun m i => ∃ t : Nat, t ≤ n ∧ i = .int .i64 t ∧ m = .int .i64 (k + t)) (fun _ i => n - (intOf i).toNat)
  case atStart => exact ⟨0, Nat.zero_le _, rfl, by go_num⟩
  case round =>
    obtain ⟨t, ht, rfl, rfl⟩ := hrel
    by_cases hlt : t < n
    · obtain ⟨b, o, rfl, hB, hc⟩ := hr.at_ (k := t) (by rw [marksN_len]; exact hlt)
      rw [show (marksN n k)[t]'(by rw [marksN_len]; exact hlt) = k + (t : Int) by simp [marksN]] at hc
      have hne : ((k + (t : Int)) != (k + (t : Int))) = false := by simp
      clear hr
      go_wp2
      exact ⟨⟨t + 1, by omega, by go_num, by go_num⟩, by simp [intOf]; omega⟩
    · obtain rfl : n = t := by omega
      go_wp2
      go_ret
      exact ⟨ret_int rfl, rfl⟩
end Go.Proofs.Ythlpchojlddnbaa.DOk

