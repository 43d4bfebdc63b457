/- The model's helpers over links that look one up. -/
import Derived.Test.YtckiloacbanbmaaDoorRows_
import Derived.Outline
namespace Go.Proofs.YtckiloacbanbmaaDoor.DOk
open Go.RowKit Go.Proofs.YtckiloacbanbmaaDoor.Bytes Go.Proofs.YtckiloacbanbmaaDoor.Rows_
set_option linter.unusedVariables false

/-- the id of the first link of that name, 0 where there is none -/
def findD : List LinkD → List UInt8 → Int
  | [], _ => 0
  | x :: r, s => if x.1.toList == s then x.2 else findD r s
theorem findD_hit : ∀ (ks : List LinkD) (s : List UInt8) (i : Nat) (hi : i < ks.length), (∀ j (hj : j < ks.length), j < i → (ks[j].1.toList == s) = false) → (ks[i].1.toList == s) = true → findD ks s = ks[i].2
  | x :: r, s, 0, _, _, h => by unfold findD; simp only [List.getElem_cons_zero] at h ⊢; rw [if_pos h]
  | x :: r, s, i + 1, hi, ha, h => by
    have h0 := ha 0 (by simp) (by omega)
    unfold findD
    simp only [List.getElem_cons_zero] at h0
    rw [h0]
    simp only [List.getElem_cons_succ] at h ⊢
    exact findD_hit r s i (by simpa using hi) (fun j hj hlt => by have := ha (j + 1) (by simpa using hj) (by omega); simpa using this) h
theorem findD_miss : ∀ (ks : List LinkD) (s : List UInt8), (∀ j (hj : j < ks.length), (ks[j].1.toList == s) = false) → findD ks s = 0
  | [], _, _ => rfl
  | x :: r, s, ha => by
    have h0 := ha 0 (by simp)
    unfold findD
    simp only [List.getElem_cons_zero] at h0
    rw [h0]
    exact findD_miss r s (fun j hj => by have := ha (j + 1) (by simpa using hj); simpa using this)

set_option maxRecDepth 100000 in
set_option maxHeartbeats 800000 in
theorem l02Find_any (A : Option Addr) (n c : Nat) (ks : List LinkD) (s : ByteArray) (w : World) (hr : RdL w w.heap.size A ks) (hl : ks.length = n) (hn : n ≤ 1099511627776) :
    Calls Tryd.prog 27 #[.slice A n c, .string s] w fun e w' => e = .returned (.int .i64 (findD ks s.toList)) ∧ Below w.heap.size w w' := by
  have HL := Lib.hid hl
  have HR := Lib.hid hr
  clear hl hr
  go_enter Tryd.func27, Tryd.ntmps27
  go_wp2_with fail
  go_loopw [9] (fun i wr => ∃ k : Nat, k ≤ n ∧ i = .int .i64 k ∧ Below w.heap.size w wr ∧ Hid (∀ j (hj : j < ks.length), j < k → (ks[j].1.toList == s.toList) = false)) (fun i _ => n - (intOf i).toNat)
  case atStart => exact ⟨0, Nat.zero_le _, rfl, Below.refl _ _, Lib.hid (fun j _ h => absurd h (by omega))⟩
  case round =>
    obtain ⟨k, hk, rfl, hb, HA⟩ := hrel
    by_cases hlt : k < n
    · have hlt' : k < ks.length := by rw [HL.out]; exact hlt
      obtain ⟨b, o, rfl, hB, hc0, hc1⟩ := (HR.out.below (Nat.le_refl _) hb).at_ hlt'
      have HB := Lib.hid hb
      have hz : w.heap.size ≤ wr.heap.size := hb.size
      clear hb
      cases he : (ks[k].1.toList == s.toList) <;> have HE := Lib.hid he
      · have HN := Lib.hid (fun j (hj : j < ks.length) (h : j < k + 1) => (by
          rcases Nat.lt_or_ge j k with h1 | h1
          · exact HA.out j hj h1
          · have : j = k := by omega
            subst this; exact HE.out : (ks[j].1.toList == s.toList) = false))
        generalize ks[k].1 = nm at *
        generalize ks[k].2 = id at *
        go_wp2_with fail
        exact ⟨⟨k + 1, by omega, by go_num, HB.out.alloc hz _, HN⟩, by simp [intOf]; omega⟩
      · have HV := Lib.hid (findD_hit ks s.toList k hlt' (fun j hj h => HA.out j hj h) HE.out)
        generalize ks[k].1 = nm at *
        generalize ks[k].2 = id at *
        go_wp2_with fail
        go_ret
        exact ⟨ret_int HV.out.symm, HB.out.alloc hz _⟩
    · obtain rfl : n = k := by omega
      have HV := Lib.hid (findD_miss ks s.toList (fun j hj => HA.out j hj (by have := HL.out; omega)))
      go_wp2_with fail
      go_ret
      exact ⟨ret_int HV.out.symm, hb⟩
end Go.Proofs.YtckiloacbanbmaaDoor.DOk
