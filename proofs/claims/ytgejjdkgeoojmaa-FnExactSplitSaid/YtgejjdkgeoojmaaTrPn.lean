/- impl.panesOf: the panes of the nodes that are leaves. -/
import Derived.Test.YtgejjdkgeoojmaaTrI1
import Derived.Test.YtgejjdkgeoojmaaAppOne
namespace Go.Proofs.Ytgejjdkgeoojmaa.Tr
open Go.RowKit Go.Proofs.Ytgejjdkgeoojmaa.Bytes Go.Proofs.Ytgejjdkgeoojmaa.Rows_ Go.Proofs.Ytgejjdkgeoojmaa.RowK Go.Proofs.Ytgejjdkgeoojmaa.DOk
set_option linter.unusedVariables false
theorem panesD_yes (t : List NodeD) (k : Nat) (h : k < t.length) (hl : leafB t[k] = true) : panesD (t.take (k + 1)) = panesD (t.take k) ++ [t[k].pane] := by
  unfold panesD; rw [List.take_succ_eq_append_getElem h, List.filter_append, List.map_append]; simp [hl]
theorem panesD_no (t : List NodeD) (k : Nat) (h : k < t.length) (hl : leafB t[k] = false) : panesD (t.take (k + 1)) = panesD (t.take k) := by
  unfold panesD; rw [List.take_succ_eq_append_getElem h, List.filter_append, List.map_append]; simp [hl]
theorem panesD_le (t : List NodeD) : (panesD t).length ≤ t.length := by unfold panesD; rw [List.length_map]; exact List.length_filter_le _ _
set_option maxRecDepth 100000 in
set_option maxHeartbeats 1600000 in
theorem panesOf_any (A : Option Addr) (n c B : Nat) (t : List NodeD) (w : World) (hr : RdN w B A t) (hl : t.length = n) (hn : n ≤ 1000000) (hB : B ≤ w.heap.size) :
    Calls Try.prog 79 #[.slice A n c] w fun e w' => ∃ A' n' c', e = .returned (.slice A' n' c') ∧ OwnI w' w.heap.size A' n' c' (panesD t) ∧ Below w.heap.size w w' := by
  obtain ⟨i0, hi, hz0, hz1, hz2⟩ := info_parts intInfo
  have HR := Lib.hid hr
  have HL := Lib.hid hl
  clear hr hl
  go_enter Try.func79, Try.ntmps79
  go_wp2_with fail
  go_loopw [3, 8] (fun v i wr => ∃ (k : Nat) (A2 : Option Addr) (n2 c2 : Nat), k ≤ n ∧ i = .int .i64 k ∧ v = .slice A2 n2 c2 ∧ OwnI wr w.heap.size A2 n2 c2 (panesD (t.take k)) ∧ Below w.heap.size w wr) (fun _ i _ => n - (intOf i).toNat)
  case atStart => exact ⟨0, none, 0, 0, Nat.zero_le _, rfl, rfl, World.ownsRow_nil _ _ _ _, Below.refl _ _⟩
  case round =>
    obtain ⟨k, A2, n2, c2, hk, rfl, rfl, ho, hb⟩ := hrel
    have hz : w.heap.size ≤ wr.heap.size := hb.size
    have hn2 : n2 ≤ n := by
      have h1 := ho.len
      have h2 := panesD_le (t.take k)
      rw [List.length_take] at h2; omega
    by_cases hlt : k < n
    · have hlt' : k < t.length := by rw [HL.out]; exact hlt
      obtain ⟨b, o, rfl, hlB, hc0, hc1, hc2⟩ := (HR.out.below hB hb).at_ hlt'
      have hbw : b < wr.heap.size := by omega
      have HY := Lib.hid (panesD_yes t k hlt')
      have HN := Lib.hid (panesD_no t k hlt')
      have hbx : Below w.heap.size w (wr.alloc (.cells #[.int .i64 t[k].pane, .bool t[k].down, .int .i64 t[k].first] 90)) := hb.alloc hz _
      have HOX := Lib.hid (ho.alloc (.cells #[.int .i64 t[k].pane, .bool t[k].down, .int .i64 t[k].first] 90))
      have HBX := Lib.hid hbx
      clear ho hb hbx
      cases hlf : leafB t[k] <;> have HLF := Lib.hid (show leafB ⟨t[k].pane, t[k].down, t[k].first⟩ = _ from hlf) <;> have HLF0 := Lib.hid hlf <;> clear hlf
      · have HS := Lib.hid (HN.out HLF0.out)
        clear HY HN HLF0
        generalize t[k].pane = x0 at *
        generalize t[k].down = x1 at *
        generalize t[k].first = x2 at *
        go_wp2_with fail
        refine (isLeaf_any x0 x2 x1 _).mono ?_
        rintro e v1 ⟨rfl, hb1⟩
        rw [HLF.out]
        have HO1 := Lib.hid (HOX.out.below (Nat.le_refl _) hb1)
        have HB1 := Lib.hid (HBX.out.trans (hb1.mono (by simp; omega)))
        clear hb1
        go_wp2_with fail
        exact ⟨⟨k + 1, A2, n2, c2, by omega, by go_num, rfl, by rw [HS.out]; exact HO1.out, HB1.out⟩, by simp [intOf]; omega⟩
      · have HS := Lib.hid (HY.out HLF0.out)
        clear HY HN HLF0
        generalize t[k].pane = x0 at *
        generalize t[k].down = x1 at *
        generalize t[k].first = x2 at *
        go_wp2_with fail
        refine (isLeaf_any x0 x2 x1 _).mono ?_
        rintro e v1 ⟨rfl, hb1⟩
        rw [HLF.out]
        have HO1 := Lib.hid (HOX.out.below (Nat.le_refl _) hb1)
        have HB1 := Lib.hid (HBX.out.trans (hb1.mono (by simp; omega)))
        obtain ⟨hcc, hff⟩ := bcell hb1
        have hzv : wr.heap.size < v1.heap.size := by have := hb1.size; simp at this; omega
        clear hb1
        go_wp2_with (at_builtin; refine AppOne.append_one Try.underlying53 hi hz0 hz1 hz2 rfl (by decide) rfl _ _ rfl rfl _ rfl rfl HO1.out rfl (by omega) (by omega) ?_)
        intro A3 c3 w3 ho3 hg3 hl3
        have HO3 := Lib.hid (show OwnI w3 w.heap.size A3 (n2 + 1) c3 (panesD (t.take (k + 1))) by
          rw [HS.out]; unfold OwnI iv; rw [List.map_append]; exact ho3)
        have HB3 := Lib.hid (HB1.out.grown hg3 (by omega) (fun g hg => (HO1.out.blk g hg).1))
        clear ho3 hg3 hl3
        go_wp2_with fail
        exact ⟨⟨k + 1, A3, n2 + 1, c3, by omega, by go_num, rfl, HO3.out, HB3.out⟩, by simp [intOf]; omega⟩
    · obtain rfl : n = k := by omega
      rw [List.take_of_length_le (by rw [HL.out]; exact Nat.le_refl _)] at ho
      have HO := Lib.hid ho
      have HB := Lib.hid hb
      clear ho hb
      go_wp2_with fail
      go_ret
      exact ⟨A2, n2, c2, rfl, HO.out, HB.out⟩
end Go.Proofs.Ytgejjdkgeoojmaa.Tr

