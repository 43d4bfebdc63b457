/- slices.Concat at nodes. -/
import Derived.Test.YtgejjdkgeoojmaaTrCd
namespace Go.Proofs.Ytgejjdkgeoojmaa.Tr
open Go.RowKit Go.Proofs.Ytgejjdkgeoojmaa.Bytes Go.Proofs.Ytgejjdkgeoojmaa.Rows_ Go.Proofs.Ytgejjdkgeoojmaa.RowK
set_option linter.unusedVariables false
set_option maxRecDepth 100000 in
set_option maxHeartbeats 1600000 in
theorem growNilN_any (n : Nat) (w : World) (hn : n ≤ 1000000) :
    Calls Try.prog 106 #[.slice none 0 0, .int .i64 n] w fun e w' => ∃ A' c', e = .returned (.slice A' 0 c') ∧ w'.ownsRow w.heap.size 90 3 (.slice A' 0 c') 0 [] ∧ Below w.heap.size w w' := by
  obtain ⟨i0, hi, hz0, hz1, hz2⟩ := info_parts infoN
  by_cases h0 : n = 0
  · subst h0
    go_enter Try.func106, Try.ntmps106
    go_wp2_with fail
    go_ret
    exact ⟨none, 0, rfl, World.ownsRow_nil _ _ _ _, Below.refl _ _⟩
  · have hpos : ¬ ((n : Int) ≤ 0) := by omega
    have hpos' : 0 < (n : Int) := by omega
    have hold : (Builtin.firstCells i0.size 0 (.slice none 0 0)).run Try.prog w.drew = .ok ([] : List Value).toArray w.drew := run_firstCells_none w.drew i0.size 0 0 0
    have hrz : ∀ ty, (Builtin.append_ #[49, 3] ty #[.slice none 0 0, .int .i64 (n : Int)]).run Try.prog w = _ := fun ty =>
      Lib.run_append_grow_zeros w 49 3 ty 90 i0 (.agg #[.int .i64 0, .bool false, .int .i64 0]) .i64 .i64 Try.underlying49 Try.underlying3 hi hz0 none 0 0 [] hold n (by omega) (by rw [hz1]; decide) (by omega) (by omega) (by rw [hz2]; omega) (growslice_fits (by omega) (by rw [hz2]; omega))
    have hGm := grownCap_le_maxLen w (0 + n) 0 90 (by unfold maxLen; omega)
    have hGn : 0 + n ≤ grownCap w (0 + n) 0 90 := grownCap_ge w _ _ _
    rw [Nat.zero_add] at hrz hGm hGn
    obtain ⟨G, hG⟩ : ∃ G, G = grownCap w n 0 90 := ⟨_, rfl⟩
    obtain ⟨cs, hcs⟩ : ∃ cs : Array Value, cs = (([] : List Value).toArray ++ Builtin.zeroCells (Value.agg #[.int .i64 0, .bool false, .int .i64 0]).cells n ++ Builtin.zeroCells (Value.agg #[.int .i64 0, .bool false, .int .i64 0]).cells (grownCap w n 0 90 - n)) := ⟨_, rfl⟩
    rw [← hcs, ← hG] at hrz
    rw [← hG] at hGm hGn
    have HCS := Lib.hid (show cs.size = G * 3 by
      have hz : (Value.agg #[.int .i64 0, .bool false, .int .i64 0]).cells.size = 3 := rfl
      rw [hcs, ← hG, Array.size_append, Array.size_append, size_zeroCells, size_zeroCells, hz]
      simp only [List.size_toArray, List.length_nil]
      omega)
    have HGM := Lib.hid hGm
    have hG63 : G ≤ 9223372036854775807 := by unfold maxLen at hGm; omega
    clear hold hG hcs hGm
    go_enter Try.func106, Try.ntmps106
    go_wp2_with (at_builtin; refine Lib.wpList_append_run _ rfl _ _ _ _ rfl _ _ rfl rfl _ _ (hrz _) ?_)
    go_ret
    refine ⟨_, _, rfl, ⟨by simp, .inr ⟨w.heap.size, G, cs, rfl, Nat.le_refl _, heap_alloc_new _ _, Nat.zero_le _, HGM.out, HCS.out, by simp⟩⟩, ?_⟩
    exact ((show Below w.heap.size w w.drew from ⟨rfl, rfl, rfl, Nat.le_refl _, fun _ _ => rfl⟩)).alloc (Nat.le_refl _) _
set_option maxRecDepth 100000 in
set_option maxHeartbeats 1600000 in
theorem concatN_any (A : Option Addr) (n c : Nat) (ps : List PartD) (w : World) (hr : RdPs 3 w A ps) (hl : ps.length = n) (hn : n ≤ 1000) (hA : A = none → n = 0) :
    Calls Try.prog 88 #[.slice A n c] w fun e w' => ∃ A' c', e = .returned (.slice A' (sumN ps) c') ∧ w'.ownsRow w.heap.size 90 3 (.slice A' (sumN ps) c') (sumN ps) (catD ps).flatten ∧ Below w.heap.size w w' := by
  have HR := Lib.hid hr
  have HL := Lib.hid hl
  have hsum := sumN_le ps hr.2
  rw [hl] at hsum
  clear hr hl
  go_enter Try.func88, Try.ntmps88
  go_wp2_with fail
  go_loop [3, 11] (fun s i => ∃ k : Nat, k ≤ n ∧ i = .int .i64 k ∧ s = .int .i64 (sumN (ps.take k) : Nat)) (fun _ i => n - (intOf i).toNat)
  case atStart => exact ⟨0, Nat.zero_le _, rfl, rfl⟩
  case round =>
    obtain ⟨k, hk, rfl, rfl⟩ := hrel
    by_cases hlt : k < n
    · have hlt' : k < ps.length := by rw [HL.out]; exact hlt
      obtain ⟨b, o, rfl, hlB, hc⟩ := HR.out.1.at_ hlt'
      have HS := Lib.hid (sumN_snoc ps k hlt')
      have hle := sumN_take_le ps (k + 1)
      have hle0 := sumN_take_le ps k
      rw [HS.out] at hle
      generalize ps[k].A = x0 at *
      generalize ps[k].n = x1 at *
      generalize ps[k].c = x2 at *
      generalize hS0 : sumN (ps.take k) = S0 at *
      have HS0 := Lib.hid hS0
      clear hS0
      go_wp2_with fail
      exact ⟨⟨k + 1, by omega, by go_num, by rw [HS.out]; go_num⟩, by simp [intOf]; omega⟩
    · obtain rfl : n = k := by omega
      have e : ps.take n = ps := List.take_of_length_le (by rw [HL.out]; exact Nat.le_refl _)
      rw [e]
      clear e
      generalize hS0 : sumN ps = S0 at *
      have HS0 := Lib.hid hS0
      clear hS0
      go_wp2_with (go_at_call 106; refine (growNilN_any S0 _ (by omega)).mono ?_; rintro e v1 ⟨A1, c1, rfl, ho1, hb1⟩)
      have HO1 := Lib.hid ho1
      have HB1 := Lib.hid hb1
      clear ho1 hb1
      go_loopw [6, 27] (fun v i wr => ∃ (k : Nat) (A2 : Option Addr) (c2 : Nat), k ≤ n ∧ i = .int .i64 k ∧ v = .slice A2 (sumN (ps.take k)) c2 ∧ wr.ownsRow w.heap.size 90 3 (.slice A2 (sumN (ps.take k)) c2) (sumN (ps.take k)) (catD (ps.take k)).flatten ∧ Below w.heap.size w wr) (fun _ i _ => n - (intOf i).toNat)
      case atStart => exact ⟨0, A1, c1, Nat.zero_le _, rfl, rfl, HO1.out, HB1.out⟩
      case round =>
        clear HO1 HB1
        obtain ⟨k, A2, c2, hk, rfl, rfl, ho, hb⟩ := hrel
        have hz : w.heap.size ≤ wr.heap.size := hb.size
        by_cases hlt : k < n
        · have hlt' : k < ps.length := by rw [HL.out]; exact hlt
          obtain ⟨b, o, rfl, hlB, hc⟩ := (HR.out.1.below hb).at_ hlt'
          have HS := Lib.hid (sumN_snoc ps k hlt')
          have HCt := Lib.hid (catD_snoc ps k hlt')
          have hle0 := sumN_take_le ps k
          rw [HS0.out] at hle0
          have HP := Lib.hid (HR.out.2 _ (List.getElem_mem hlt'))
          have HB := Lib.hid hb
          have HO := Lib.hid ho
          clear hb ho
          rcases hpk : ps[k] with ⟨pA, pn, pc, prows⟩
          rw [hpk] at hc HS HCt HP
          simp only at hc HS HCt HP
          generalize hS1 : sumN (ps.take k) = S1 at *
          have HS1 := Lib.hid hS1
          have HPK := Lib.hid hpk
          clear hS1 hpk
          have hbd : pn ≤ 1000 := HP.out.bd
          have HRd := Lib.hid (show RdK 3 wr w.heap.size pA prows from HP.out.rd.below (Nat.le_refl _) HB.out)
          have HPn := Lib.hid (show pA = none → pn = 0 ∧ pc = 0 from HP.out.nil)
          have HPc := Lib.hid (show prows.length = pn from HP.out.cnt)
          go_wp2_with (at_builtin; refine append_rowsT Try.underlying49 infoN rfl (by decide) (by decide) rfl _ _ rfl rfl rfl HO.out HRd.out HP.out.len HP.out.one HPn.out HPc.out (by omega) (by omega) hz ?_)
          intro A3 c3 w3 ho3 hb3 hg3
          have HO3 := Lib.hid (show w3.ownsRow w.heap.size 90 3 (.slice A3 (sumN (ps.take (k + 1))) c3) (sumN (ps.take (k + 1))) (catD (ps.take (k + 1))).flatten by
            rw [HS.out, HCt.out, List.flatten_append]; exact ho3)
          have HB3 := Lib.hid (HB.out.trans hb3)
          clear ho3 hb3 hg3
          go_wp2_with fail
          exact ⟨⟨k + 1, A3, c3, by omega, by go_num, by rw [HS.out], HO3.out, HB3.out⟩, by simp [intOf]; omega⟩
        · obtain rfl : n = k := by omega
          have e : ps.take n = ps := List.take_of_length_le (by rw [HL.out]; exact Nat.le_refl _)
          rw [e, HS0.out] at ho ⊢
          have HO := Lib.hid ho
          have HB := Lib.hid hb
          clear ho hb e
          go_wp2_with fail
          go_ret
          exact ⟨A2, c2, by rw [HS0.out]; (try rfl), by rw [HS0.out]; exact HO.out, HB.out⟩
end Go.Proofs.Ytgejjdkgeoojmaa.Tr

