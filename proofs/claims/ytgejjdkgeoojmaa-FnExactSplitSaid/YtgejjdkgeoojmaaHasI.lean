/- Whether an int stands in a slice of ints, in the model. -/
import Derived.Test.YtgejjdkgeoojmaaIntsB
import Derived.Deep.QuietTactic
import Derived.BigQuiet
namespace Go.Proofs.Ytgejjdkgeoojmaa.DOk
open Go.RowKit Go.Proofs.Ytgejjdkgeoojmaa.Bytes Go.Proofs.Ytgejjdkgeoojmaa.Rows_
set_option linter.unusedVariables false
/-! ### l02HasInt -/
def hasI (zs : List Int) (z : Int) : Bool := zs.any (· == z)
theorem hasI_hit (zs : List Int) (z : Int) (k : Nat) (hk : k < zs.length) (h : (zs[k] == z) = true) : hasI zs z = true := by
  unfold hasI; rw [List.any_eq_true]; exact ⟨zs[k], List.getElem_mem hk, h⟩
theorem hasI_miss (zs : List Int) (z : Int) (h : ∀ k (hk : k < zs.length), (zs[k] == z) = false) : hasI zs z = false := by
  unfold hasI; rw [List.any_eq_false]
  intro x hx
  obtain ⟨k, hk, rfl⟩ := List.getElem_of_mem hx
  simp [h k hk]

set_option maxRecDepth 100000 in
set_option maxHeartbeats 800000 in
theorem l02HasInt_any (A : Option Addr) (n c : Nat) (zs : List Int) (z : Int) (w : World) (B : Nat) (hr : RdI w B A zs) (hl : zs.length = n) (hn : n ≤ 1099511627776) :
    Calls Try.prog 75 #[.slice A n c, .int .i64 z] w fun e w' => e = .returned (.bool (hasI zs z)) ∧ w = w' := by
  have HL := Lib.hid hl
  have HR := Lib.hid hr
  clear hl hr
  go_enter Try.func75, Try.ntmps75
  go_wp2_with fail
  go_loop [9] (fun i => ∃ k : Nat, k ≤ n ∧ i = .int .i64 k ∧ Hid (∀ j (hj : j < zs.length), j < k → (zs[j] == z) = false)) (fun i => n - (intOf i).toNat)
  case atStart => exact ⟨0, Nat.zero_le _, rfl, Lib.hid (fun j _ h => absurd h (by omega))⟩
  case round =>
    obtain ⟨k, hk, rfl, HA⟩ := hrel
    by_cases hlt : k < n
    · have hlt' : k < zs.length := by rw [HL.out]; exact hlt
      obtain ⟨b, o, rfl, hB, hc⟩ := HR.out.at_ hlt'
      cases he : (zs[k] == z) <;> have HE := Lib.hid he
      · have HN := Lib.hid (fun j (hj : j < zs.length) (h : j < k + 1) => (by
          rcases Nat.lt_or_ge j k with h1 | h1
          · exact HA.out j hj h1
          · have : j = k := by omega
            subst this; exact HE.out : (zs[j] == z) = false))
        generalize zs[k] = x at *
        go_wp2_with fail
        exact ⟨⟨k + 1, by omega, by go_num, HN⟩, by simp [intOf]; omega⟩
      · have HV := Lib.hid (hasI_hit zs z k hlt' HE.out)
        generalize zs[k] = x at *
        go_wp2_with fail
        go_ret
        exact ⟨Bytes.ret_bool HV.out.symm, rfl⟩
    · obtain rfl : n = k := by omega
      have HV := Lib.hid (hasI_miss zs z (fun j hj => HA.out j hj (by have := HL.out; omega)))
      go_wp2_with fail
      go_ret
      exact ⟨Bytes.ret_bool HV.out.symm, rfl⟩

end Go.Proofs.Ytgejjdkgeoojmaa.DOk

