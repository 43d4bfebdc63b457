/- The laws' helper that finds the marks of a disk again: the files. -/
import Derived.Test.YtehhophjhjeenaaMarkAll
namespace Go.Proofs.Ytehhophjhjeenaa.DOk
open Go.RowKit Go.Proofs.Ytehhophjhjeenaa.Bytes Go.Proofs.Ytehhophjhjeenaa.Rows_
set_option linter.unusedVariables false

theorem markF_at : ∀ (gs : List FileD) (k : Int) (t : Nat) (h : t < gs.length), (markF k gs)[t]? = some (mkF (endF k (gs.take t)) gs[t])
  | g :: gs, k, 0, h => by simp [markF, endF, usedD]
  | g :: gs, k, t + 1, h => by
    have := markF_at gs (k + 2 + g.n) t (by simpa using h)
    rw [markF, List.getElem?_cons_succ, this, List.take_succ_cons, endF_cons]; rfl
theorem markF_get (gs : List FileD) (k : Int) (t : Nat) (h : t < gs.length) (h' : t < (markF k gs).length) : (markF k gs)[t] = mkF (endF k (gs.take t)) gs[t] := by
  have := markF_at gs k t h
  rw [List.getElem?_eq_getElem h'] at this
  exact Option.some.inj this

set_option maxRecDepth 100000 in
set_option maxHeartbeats 3200000 in
theorem heldFileS_any (F : Option Addr) (n c : Nat) (gs : List FileD) (k : Int) (w : World) (hr : RdF w w.heap.size F (markF k gs)) (hb : RdB w w.heap.size (markF k gs)) (hl : gs.length = n) (h0 : 0 ≤ k) (h1 : endF k gs ≤ 1099511627776) :
    Calls Try.prog 86 #[.slice F n c, .int .i64 k] w fun e w' => e = .returned (.int .i64 (endF k gs)) ∧ w = w' := by
  have HL := Lib.hid hl
  have HLE := Lib.hid (endF_le k gs)
  have hn : n ≤ 1099511627776 := by unfold endF at h1; omega
  have H1 := Lib.hid h1
  have HR := Lib.hid hr
  have HB := Lib.hid hb
  clear hl h1 hr hb
  go_enter Try.func86, Try.ntmps86
  go_wp2_with fail
  go_loop [1, 5] (fun m i => ∃ t : Nat, t ≤ n ∧ i = .int .i64 t ∧ m = .int .i64 (endF k (gs.take t))) (fun _ i => n - (intOf i).toNat)
  case atStart => exact ⟨0, Nat.zero_le _, rfl, by simp [endF, usedD]⟩
  case round =>
    obtain ⟨t, ht, rfl, rfl⟩ := hrel
    by_cases hlt : t < n
    · have hlt' : t < gs.length := by rw [HL.out]; exact hlt
      have hlm : t < (markF k gs).length := by rw [markF_len]; exact hlt'
      obtain ⟨l1, l2⟩ := HLE.out t hlt'
      have l3 := H1.out
      have HE := Lib.hid (show endF k (gs.take (t + 1)) = endF k (gs.take t) + 2 + gs[t].n by rw [List.take_succ_eq_append_getElem hlt', endF_snoc])
      obtain ⟨b, o, rfl, hB, hc0, hc1, hc2⟩ := HR.out.at_ hlm
      have hbd := (HB.out _ (List.getElem_mem hlm)).1
      rw [markF_get gs k t hlt' hlm] at hc0 hc1 hc2 hbd
      simp only [mkF] at hc0 hc1 hc2 hbd
      generalize gs[t] = g at *
      have l4 : endF k (gs.take t) + 2 + g.n ≤ 1099511627776 := by omega
      have l5 : 0 ≤ endF k (gs.take t) := by omega
      generalize endF k (gs.take t) = kt at *
      have e1 : (kt != kt) = false := by simp
      have e2 : ((kt + 1 + (g.n : Int)) != (kt + 1 + (g.n : Int))) = false := by simp
      have HM := Lib.hid (heldByteS_any g.A g.n g.c (kt + 1) w hbd (by omega) (by omega) (by omega))
      clear hbd
      go_wp2_with fail
      refine HM.out.mono ?_
      rintro e v ⟨rfl, rfl⟩
      go_wp2_with fail
      refine ⟨⟨t + 1, by omega, by go_num, ?_⟩, by simp [intOf]; omega⟩
      rw [HE.out]; go_num
    · obtain rfl : n = t := by omega
      have e : gs.take n = gs := List.take_of_length_le (by rw [HL.out]; exact Nat.le_refl _)
      rw [e]
      go_wp2_with fail
      go_ret
      exact ⟨rfl, rfl⟩
end Go.Proofs.Ytehhophjhjeenaa.DOk
