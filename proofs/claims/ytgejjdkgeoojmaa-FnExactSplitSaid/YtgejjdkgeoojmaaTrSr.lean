/- The model's Leaves; After in the program and in the model. -/
import Derived.Test.YtgejjdkgeoojmaaTrSq
namespace Go.Proofs.Ytgejjdkgeoojmaa.Tr
open Go.RowKit Go.Proofs.Ytgejjdkgeoojmaa.Bytes Go.Proofs.Ytgejjdkgeoojmaa.Rows_ Go.Proofs.Ytgejjdkgeoojmaa.RowK Go.Proofs.Ytgejjdkgeoojmaa.DOk Go.Proofs.Ytgejjdkgeoojmaa.Opq
open Tree
set_option linter.unusedVariables false
theorem leaf_pane {n : NodeD} (h : nodeB n = true) : leafB n = decide (0 < n.pane) := by
  unfold nodeB at h
  rw [Bool.or_eq_true] at h
  rcases h with h | h
  · rw [h]; have := (leafB_form h).2; simp; omega
  · obtain ⟨e, _⟩ := splitB_form h
    rw [e, leafB_split]; rfl
set_option maxRecDepth 100000 in
set_option maxHeartbeats 1600000 in
theorem spec_Leaves_any (A : Option Addr) (n c B : Nat) (t : List NodeD) (w : World) (hi : InN w B A n c t) :
    Calls Try.prog 36 #[.slice A n c] w fun e w' => ∃ A' n' c', e = .returned (.slice A' n' c') ∧ OwnI w' w.heap.size A' n' c' (leavesD t) ∧ Below w.heap.size w w' := by
  obtain ⟨i0, hi0, hz0, hz1, hz2⟩ := info_parts intInfo
  have HI := Lib.hid hi
  have HL := Lib.hid hi.len
  clear hi
  have HB0 := Lib.hid ((Below.refl w.heap.size w).alloc (Nat.le_refl _) (.cells #[] 3))
  have HZ := Lib.hid (own_zero w 3 1)
  cases ho : okT t
  · have HO := Lib.hid ho
    have HR := Lib.hid (show leavesD t = [] by unfold leavesD; rw [if_neg (by rw [ho]; simp)])
    clear ho
    go_enter Try.func36, Try.ntmps36
    go_wp2_with fail
    refine (spec_TreeOk_any A n c B t _ (HI.out.below HB0.out)).mono ?_
    rintro e v1 ⟨rfl, hb1⟩
    rw [HO.out]
    have HZ1 := Lib.hid (own_belowK HZ.out (Nat.le_refl _) hb1)
    have HB1 := Lib.hid (HB0.out.trans (hb1.mono (by simp)))
    clear hb1
    go_wp2_with fail
    go_ret
    exact ⟨_, 0, 0, rfl, by rw [HR.out]; exact HZ1.out, HB1.out⟩
  · have HO := Lib.hid ho
    have HR := Lib.hid (show leavesD t = panesD t by unfold leavesD; rw [if_pos ho])
    have HOK := Lib.hid (okT_len ho)
    have hn31 : n ≤ 31 := by have := HOK.out.1; have := HL.out; omega
    clear ho
    go_enter Try.func36, Try.ntmps36
    go_wp2_with fail
    refine (spec_TreeOk_any A n c B t _ (HI.out.below HB0.out)).mono ?_
    rintro e v1 ⟨rfl, hb1⟩
    rw [HO.out]
    have HZ1 := Lib.hid (own_belowK HZ.out (Nat.le_refl _) hb1)
    have HB1 := Lib.hid (HB0.out.trans (hb1.mono (by simp)))
    clear hb1
    go_wp2_with fail
    go_loopw [3, 13] (fun v i wr => ∃ (k : Nat) (A2 : Option Addr) (n2 c2 : Nat), k ≤ n ∧ i = .int .i64 k ∧ v = .slice A2 n2 c2 ∧ OwnI wr w.heap.size A2 n2 c2 (panesD (t.take k)) ∧ Below w.heap.size w wr) (fun _ i _ => n - (intOf i).toNat)
    case atStart => exact ⟨0, _, 0, 0, Nat.zero_le _, rfl, rfl, HZ1.out, HB1.out⟩
    case round =>
      clear HZ1 HB1
      obtain ⟨k, A2, n2, c2, hk, rfl, rfl, ho, hb⟩ := hrel
      have hz : w.heap.size ≤ wr.heap.size := hb.size
      have hn2 : n2 ≤ n := by
        have h1 := ho.len
        have h2 := panesD_le (t.take k)
        rw [List.length_take] at h2; omega
      by_cases hlt : k < n
      · have hlt' : k < t.length := by rw [HL.out]; exact hlt
        obtain ⟨b, o, rfl, hlB, hc0, hc1, hc2⟩ := (HI.out.below hb).rd.at_ hlt'
        have hbw : b < wr.heap.size := by have := HI.out.base; omega
        have HLP := Lib.hid (leaf_pane (HOK.out.2 t[k] (List.getElem_mem hlt')))
        have HPy := Lib.hid (panesD_yes t k hlt')
        have HPn := Lib.hid (panesD_no t k hlt')
        have HOX := Lib.hid (ho.alloc (.cells #[.int .i64 t[k].pane, .bool t[k].down, .int .i64 t[k].first] 90))
        have HBX := Lib.hid (hb.alloc hz (.cells #[.int .i64 t[k].pane, .bool t[k].down, .int .i64 t[k].first] 90))
        clear ho hb
        by_cases hp : 0 < t[k].pane
        · have HP1 := Lib.hid (HPy.out (by rw [HLP.out]; simpa using hp))
          clear HPy HPn HLP
          generalize t[k].pane = x0 at *
          generalize t[k].down = x1 at *
          generalize t[k].first = x2 at *
          go_wp2_with (at_builtin; refine AppOne.append_one Try.underlying53 hi0 hz0 hz1 hz2 rfl (by decide) rfl _ _ rfl rfl (wr.heap.size + 1) (by simp) rfl HOX.out rfl (by omega) (by simp; omega) ?_)
          intro A3 c3 w3 ho3 hg3 hl3
          have HO3 := Lib.hid (show OwnI w3 w.heap.size A3 (n2 + 1) c3 (panesD (t.take (k + 1))) by
            rw [HP1.out]; unfold OwnI iv; rw [List.map_append]; exact ho3)
          have HB3 := Lib.hid (HBX.out.grown hg3 (by simp; omega) (fun g hg => (HOX.out.blk g hg).1))
          clear ho3 hg3 hl3
          go_wp2_with fail
          exact ⟨⟨k + 1, A3, n2 + 1, c3, by omega, by go_num, rfl, HO3.out, HB3.out⟩, by simp [intOf]; omega⟩
        · have HP1 := Lib.hid (HPn.out (by rw [HLP.out]; simpa using hp))
          clear HPy HPn HLP
          generalize t[k].pane = x0 at *
          generalize t[k].down = x1 at *
          generalize t[k].first = x2 at *
          go_wp2_with fail
          exact ⟨⟨k + 1, A2, n2, c2, by omega, by go_num, rfl, by rw [HP1.out]; exact HOX.out, HBX.out⟩, by simp [intOf]; omega⟩
      · obtain rfl : n = k := by omega
        rw [List.take_of_length_le (by rw [HL.out]; exact Nat.le_refl _)] at ho
        have HO2 := Lib.hid ho
        have HB2 := Lib.hid hb
        clear ho hb
        go_wp2_with fail
        go_ret
        exact ⟨_, _, _, rfl, by rw [HR.out]; exact HO2.out, HB2.out⟩
/-! ### the first place of an int -/
def idxV (zs : List Int) (z : Int) : Int := match zs.findIdx? (· == z) with | some i => (i : Int) | none => -1
theorem find_at {α : Type} {p : α → Bool} : ∀ (zs : List α) (k : Nat) (hk : k < zs.length), (∀ j (hj : j < zs.length), j < k → p zs[j] = false) → p zs[k] = true → zs.findIdx? p = some k
  | [], _, hk, _, _ => by simp at hk
  | x :: r, 0, _, _, h => by have h' : p x = true := h; simp [List.findIdx?_cons, h']
  | x :: r, k + 1, hk, ha, h => by
    have h0 : p x = false := ha 0 (Nat.zero_lt_succ _) (by omega)
    have := find_at r k (by simpa using hk) (fun j hj hjk => ha (j + 1) (by simpa using hj) (by omega)) h
    simp [List.findIdx?_cons, h0, this]
theorem find_none {α : Type} {p : α → Bool} (zs : List α) (h : ∀ j (hj : j < zs.length), p zs[j] = false) : zs.findIdx? p = none := by
  rw [List.findIdx?_eq_none_iff]
  intro x hx
  obtain ⟨j, hj, rfl⟩ := List.getElem_of_mem hx
  exact h j hj
set_option maxRecDepth 100000 in
set_option maxHeartbeats 800000 in
theorem indexI_any (A : Option Addr) (n c B : Nat) (zs : List Int) (z : Int) (w : World) (hr : RdI w B A zs) (hl : zs.length = n) (hn : n ≤ 1099511627776) :
    Calls Try.prog 90 #[.slice A n c, .int .i64 z] w fun e w' => e = .returned (.int .i64 (idxV zs z)) ∧ w = w' := by
  have HR := Lib.hid hr
  have HL := Lib.hid hl
  clear hr hl
  go_enter Try.func90, Try.ntmps90
  go_wp2_with fail
  go_loop [8] (fun i => ∃ k : Nat, k ≤ n ∧ i = .int .i64 k ∧ Hid (∀ j (hj : j < zs.length), j < k → (zs[j] == z) = false)) (fun i => n - (intOf i).toNat)
  case atStart => exact ⟨0, Nat.zero_le _, rfl, Lib.hid (fun j _ h => absurd h (by omega))⟩
  case round =>
    obtain ⟨k, hk, rfl, HA⟩ := hrel
    by_cases hlt : k < n
    · have hlt' : k < zs.length := by rw [HL.out]; exact hlt
      obtain ⟨b, o, rfl, hlB, hc⟩ := HR.out.at_ hlt'
      by_cases he : zs[k] = z
      · have HE := Lib.hid (find_at (p := (· == z)) zs k hlt' HA.out (by simp [he]))
        have HV := Lib.hid (show idxV zs z = (k : Int) by unfold idxV; rw [HE.out])
        rw [he] at hc
        clear he
        go_wp2_with fail
        go_ret
        exact ⟨ret_int HV.out.symm, rfl⟩
      · have hne : (z == zs[k]) = false := by simp; exact fun e => he e.symm
        have HN := Lib.hid (fun j (hj : j < zs.length) (h : j < k + 1) => (by
          rcases Nat.lt_or_ge j k with h1 | h1
          · exact HA.out j hj h1
          · have : j = k := by omega
            subst this; simpa using he : (zs[j] == z) = false))
        clear he
        generalize zs[k] = x at *
        go_wp2_with fail
        exact ⟨⟨k + 1, by omega, by go_num, HN⟩, by simp [intOf]; omega⟩
    · obtain rfl : n = k := by omega
      have HV := Lib.hid (show idxV zs z = -1 by unfold idxV; rw [find_none zs (fun j hj => HA.out j hj (by have := HL.out; omega))])
      go_wp2_with fail
      go_ret
      exact ⟨ret_int HV.out.symm, rfl⟩
end Go.Proofs.Ytgejjdkgeoojmaa.Tr

