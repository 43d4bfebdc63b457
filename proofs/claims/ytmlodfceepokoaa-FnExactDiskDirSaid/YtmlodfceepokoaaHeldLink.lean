/- The laws' helpers that find the marks of links again. -/
import Derived.Test.YtmlodfceepokoaaMarkAll
import Derived.Deep.RegionHeld3
namespace Go.Proofs.Ytmlodfceepokoaa.DOk
open Go.RowKit Go.Proofs.Ytmlodfceepokoaa.Bytes Go.Proofs.Ytmlodfceepokoaa.Rows_
open Go.Proofs.Ytmlodfceepokoaa.Mt (mt mark_text)
set_option linter.unusedVariables false

theorem markL_at : ∀ (ks : List LinkD) (k : Nat) (t : Nat) (h : t < ks.length), (markL k ks)[t]? = some (mt (k + 2 * t), ((k + 2 * t + 1 : Nat) : Int))
  | x :: ks, k, 0, h => rfl
  | x :: ks, k, t + 1, h => by
    have := markL_at ks (k + 2) t (by simpa using h)
    rw [markL, List.getElem?_cons_succ, this, show k + 2 + 2 * t = k + 2 * (t + 1) by omega]
theorem markL_get (ks : List LinkD) (k : Nat) (t : Nat) (h : t < ks.length) (h' : t < (markL k ks).length) : (markL k ks)[t] = (mt (k + 2 * t), ((k + 2 * t + 1 : Nat) : Int)) := by
  have := markL_at ks k t h
  rw [List.getElem?_eq_getElem h'] at this
  exact Option.some.inj this

set_option maxRecDepth 100000 in
set_option maxHeartbeats 3200000 in
theorem heldLinkS_any (A : Option Addr) (n c : Nat) (ks : List LinkD) (k : Nat) (w : World) (hr : RdL w w.heap.size A (markL k ks)) (hl : ks.length = n) (h0 : 1 ≤ k) (h1 : k + 2 * n ≤ 1099511627776) :
    Calls Try.prog 44 #[.slice A n c, .int .i64 k] w fun e w' => e = .returned (.int .i64 ((k + 2 * n : Nat) : Int)) ∧ Below w.heap.size w w' := by
  have HL := Lib.hid hl
  have HR := Lib.hid hr
  clear hl hr
  go_enter Try.func44, Try.ntmps44
  go_wp2_with fail
  go_loopw [1, 5] (fun m i wr => ∃ t : Nat, t ≤ n ∧ i = .int .i64 t ∧ m = .int .i64 ((k + 2 * t : Nat) : Int) ∧ Below w.heap.size w wr) (fun _ i _ => n - (intOf i).toNat)
  case atStart => exact ⟨0, Nat.zero_le _, rfl, rfl, Below.refl _ _⟩
  case round =>
    obtain ⟨t, ht, rfl, rfl, hb⟩ := hrel
    by_cases hlt : t < n
    · have hlt' : t < ks.length := by rw [HL.out]; exact hlt
      have hlm : t < (markL k ks).length := by rw [markL_len]; exact hlt'
      have hbs := hb.size
      obtain ⟨b, o, rfl, hB, hc0, hc1⟩ := (HR.out.below (Nat.le_refl _) hb).at_ hlm
      rw [markL_get ks k t hlt' hlm] at hc0 hc1
      simp only at hc0 hc1
      have hB2 : b < wr.heap.size := by omega
      have HM := Lib.hid (fun W => mark_text (k + 2 * t) W (by omega) (by omega))
      have HB := Lib.hid hb
      have HQ2 := Lib.hid (show ((k + 2 * (t + 1) : Nat) : Int) = ((k + 2 * t : Nat) : Int) + 1 + 1 by omega)
      rw [show ((k + 2 * t + 1 : Nat) : Int) = ((k + 2 * t : Nat) : Int) + 1 by omega] at hc1
      have ht0 : (0 : Int) ≤ (t : Int) := by omega
      have ht1 : (t : Int) < (n : Int) := by omega
      have q1 : k + 2 * t + 2 ≤ 1099511627776 := by omega
      generalize k + 2 * t = kt at *
      generalize mt kt = y at *
      have e1 : ((kt : Int) + 1 != (kt : Int) + 1) = false := by simp
      clear hb
      go_wp2_with fail
      go_region_with ((go_at_call 84; refine (HM.out _).mono ?_; rintro e w' ⟨rfl, hb⟩; have hcc : w'.cell? ⟨b, o + t * 2, none⟩ = some (.string y) := (hb.cell (p := ⟨b, o + t * 2, none⟩) hB2).trans hc0; have hcd : w'.cell? ⟨b, o + t * 2 + 1, none⟩ = some (.int .i64 ((kt : Int) + 1)) := (hb.cell (p := ⟨b, o + t * 2 + 1, none⟩) hB2).trans hc1))
      all_goals
        have HBB := Lib.hid (HB.out.trans ((((Below.refl wr.heap.size wr).drew.trans (show Below wr.heap.size wr.drew _ from hb))).mono hbs))
        clear hb hc0 hc1
        go_wp2_with fail
        refine ⟨⟨t + 1, by omega, by go_num, ?_, HBB.out⟩, by simp [intOf]; omega⟩
        rw [HQ2.out]
    · obtain rfl : n = t := by omega
      go_wp2_with fail
      go_ret
      exact ⟨rfl, hb⟩
end Go.Proofs.Ytmlodfceepokoaa.DOk
