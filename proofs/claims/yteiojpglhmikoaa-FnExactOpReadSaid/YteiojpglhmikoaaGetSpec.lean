/- The contract of the model's number decoding: it answers the same function of the bytes and the offset as the program. -/
import Derived.Test.YteiojpglhmikoaaGetVar
import Derived.Test.YteiojpglhmikoaaPutVar
import Derived.Laws.BytesArg
namespace Go.Proofs.Yteiojpglhmikoaa.Var
open Go.RowKit Go.Proofs.Yteiojpglhmikoaa.Bytes
set_option linter.unusedVariables false

theorem str_inj {xs ys : List Int} (hx : ∀ z ∈ xs, 0 ≤ z ∧ z < 256) (hy : ∀ z ∈ ys, 0 ≤ z ∧ z < 256) (h : strOfNums xs = strOfNums ys) : xs = ys := by
  have h1 : xs.map (fun n => UInt8.ofNat n.toNat) = ys.map (fun n => UInt8.ofNat n.toNat) := by rw [← strOfNums_data, ← strOfNums_data, h]
  have hl : xs.length = ys.length := by have := congrArg List.length h1; simpa using this
  refine List.ext_getElem hl fun i a b => ?_
  have h2 : (xs.map (fun n => UInt8.ofNat n.toNat))[i]'(by simpa using a) = (ys.map (fun n => UInt8.ofNat n.toNat))[i]'(by simpa using b) := by simp only [h1]
  simp only [List.getElem_map] at h2
  have h3 := congrArg UInt8.toNat h2
  have a1 := hx _ (List.getElem_mem a)
  have b1 := hy _ (List.getElem_mem b)
  simp only [UInt8.toNat_ofNat'] at h3
  omega

theorem str_eq {xs ys : List Int} (h : xs = ys) : ((strOfNums xs).toList == (strOfNums ys).toList) = true ∧ ((strOfNums xs).toList != (strOfNums ys).toList) = false := by
  subst h; simp
theorem str_ne {xs ys : List Int} (hx : ∀ z ∈ xs, 0 ≤ z ∧ z < 256) (hy : ∀ z ∈ ys, 0 ≤ z ∧ z < 256) (h : xs ≠ ys) :
    ((strOfNums xs).toList == (strOfNums ys).toList) = false ∧ (!((strOfNums xs).toList == (strOfNums ys).toList)) = true := by
  have hne : (strOfNums xs).toList ≠ (strOfNums ys).toList := by
    intro e
    rw [ByteArray.toList_eq, ByteArray.toList_eq] at e
    exact h (str_inj hx hy (by
      have e2 : (strOfNums xs).data = (strOfNums ys).data := by rw [← Array.toArray_toList (xs := (strOfNums xs).data), e, Array.toArray_toList]
      exact ByteArray.ext e2))
  exact ⟨beq_eq_false_iff_ne.2 hne, by rw [beq_eq_false_iff_ne.2 hne]; rfl⟩

set_option maxRecDepth 100000 in
set_option maxHeartbeats 3200000 in
theorem spec_GetVar_in (A : Option Addr) (n c : Nat) (zs : List Int) (a : Nat) (w : World) (hr : Rd w w.heap.size A zs) (hg : Rng zs) (hl : zs.length = n) (hn : n ≤ 1099511627776) (hnc : n ≤ c) (ha : a < n) :
    Calls Try.prog 119 #[.slice A n c, .int .i64 a] w fun e w' => e = gvRet zs a ∧ Below w.heap.size w w' := by
  have hk1 := gvk_le zs a (by omega)
  rw [hl] at hk1
  have HB := Lib.hid (gvk_big zs a)
  have HE := Lib.hid (gvk_end zs a)
  have HF := Lib.hid (fun h => gvRet_no (gv_false (zs := zs) (a := a) h))
  have HY := Lib.hid (gv_yes (zs := zs) (a := a))
  generalize gvk zs a = K at *
  have HL := Lib.hid hl
  clear hl
  go_enter Try.func119, Try.ntmps119
  go_wp2
  go_loop [7] (fun i => ∃ k : Nat, i = .int .i64 ((a : Int) + (k : Int)) ∧ k ≤ 5 ∧ a + k ≤ n ∧ k ≤ K) (fun i => (6 + (a : Int) - intOf i).toNat)
  case atStart => exact ⟨0, by go_num, by omega, by omega, by omega⟩
  case round =>
    obtain ⟨k, rfl, hk5, hkn, hkK⟩ := hrel
    by_cases hgo : k < K ∧ k < 5
    · obtain ⟨hgo1, hgo2⟩ := hgo
      obtain ⟨b, o, rfl, hB, hc⟩ := hr.at_ (k := a + k) (by rw [HL.out]; omega)
      have hbig := HB.out k hgo1
      have hd := hg.at_ (a + k)
      generalize zs.getD (a + k) 0 = d at *
      go_wp2_with fail
      exact ⟨⟨k + 1, by go_num, by omega, by omega, by omega⟩, by simp [intOf]; omega⟩
    · by_cases hK5 : 5 ≤ K
      · obtain rfl : k = 5 := by omega
        have hfin := Lib.hid (HF.out (fun h => by omega))
        have heq5 : (((a : Int) + ((5 : Nat) : Int)) == (a : Int) + 5) = true := by simp
        by_cases hend : a + 5 = n
        · have heq : (((a : Int) + ((5 : Nat) : Int)) == (n : Int)) = true := by simp; omega
          have hlen : (n : Int) ≤ (a : Int) + 5 := by omega
          have Hend := Lib.hid hend
          clear hend hgo
          go_wp2_with fail
          go_ret3
          exact ⟨hfin.out, Below.refl _ _⟩
        · have heq : (((a : Int) + 5) == (n : Int)) = false := by simp; omega
          have hlen : (a : Int) + 5 < (n : Int) := by omega
          clear hend hgo
          go_wp2_with fail
          go_ret3
          exact ⟨hfin.out, Below.refl _ _⟩
      · obtain rfl : k = K := by omega
        by_cases hend : a + k = n
        · have hfin := Lib.hid (HF.out (fun h => by have := HL.out; omega))
          have heq : (((a : Int) + (k : Int)) == (n : Int)) = true := by simp; omega
          have hlen : (n : Int) ≤ (a : Int) + (k : Int) := by omega
          have Hend := Lib.hid hend
          clear hend hgo
          go_wp2_with fail
          go_ret3
          exact ⟨hfin.out, Below.refl _ _⟩
        · have hlt : a + k < n := by omega
          have heq : (((a : Int) + (k : Int)) == (n : Int)) = false := by simp; omega
          have heq5 : (((a : Int) + (k : Int)) == (a : Int) + 5) = false := by simp; omega
          have hsm := HE.out (by rw [HL.out]; omega)
          have hd := hg.at_ (a + k)
          have HENC := Lib.hid (seg_enc zs a k hg (by rw [HL.out]; omega) HB.out hsm)
          have HK := Lib.hid hkK
          clear hend hgo hkK
          obtain ⟨b, o, rfl, hB, hc⟩ := hr.at_ (k := a + k) (by rw [HL.out]; omega)
          obtain ⟨d, hdd⟩ : ∃ d, d = zs.getD (a + k) 0 := ⟨_, rfl⟩
          rw [← hdd] at hc hd hsm
          have HD := Lib.hid hdd
          clear hdd
          have hK4 : k < 5 := by omega
          have H0 := Lib.hid (gvh_zero zs a k)
          go_wp2_with fail
          go_loop [8, 9] (fun v i => ∃ j : Nat, j ≤ k + 1 ∧ i = .int .i64 ((a : Int) + (j : Int) - 1) ∧ v = .int .i64 (gvh zs a k j)) (fun _ i => (intOf i + 1 - (a : Int)).toNat)
          case atStart => exact ⟨k + 1, by omega, by go_num, by rw [gvh_top]; rfl⟩
          case round =>
            obtain ⟨j, hj, rfl, rfl⟩ := hrel
            have hvb := gvh_lt zs a k j hK4
            by_cases hj0 : 0 < j
            · obtain ⟨t, rfl⟩ : ∃ t, j = t + 1 := ⟨j - 1, by omega⟩
              have hc' := (hr.at_ (k := a + t) (by rw [HL.out]; omega))
              obtain ⟨b', o', hbo, hB', hc'⟩ := hc'
              injection hbo with hbo
              injection hbo with hb1 hb2
              subst hb1 hb2
              have hst := gvh_step zs a k t (by omega) (by rw [HL.out]; omega)
              have hdt := hg.at_ (a + t)
              have hvn := gvh_lt zs a k t hK4
              have HC := Lib.hid hc
              clear hc
              generalize zs.getD (a + t) 0 = dt at *
              obtain ⟨Y, hY⟩ : ∃ Y, Y = gvh zs a k t := ⟨_, rfl⟩
              rw [← hY] at hst hvn
              generalize gvh zs a k (t + 1) = X at *
              have HYY := Lib.hid hY
              have HST := Lib.hid hst
              clear hY hst
              rw [show (a : Int) + ((t + 1 : Nat) : Int) - 1 = ((a + t : Nat) : Int) by omega]
              go_wp2_with fail
              exact ⟨⟨t, by omega, by go_num, by rw [← HYY.out]; have := HST.out; go_num⟩, by simp [intOf]; omega⟩
            · obtain rfl : j = 0 := by omega
              have hV := H0.out
              have hin := Lib.hid (HY.out (by rw [HL.out]; exact ha) hK4 (by rw [HL.out]; exact hlt))
              rw [show ((a : Int) + ((0 : Nat) : Int) - 1) = (a : Int) - 1 by omega, hV]
              rw [hV] at hvb
              clear hV
              by_cases hmax : gvv zs a (k + 1) ≤ 4294967295
              · go_wp2_with fail
                refine (spec_PutVar_yes none 0 0 [] _ _ (fun _ => ⟨rfl, rfl⟩) (fun h => absurd h (by simp)) rfl (by omega) hmax).mono ?_
                rintro e w1 ⟨A1, n1, c1, rfl, ho1, hb1⟩
                rw [List.nil_append] at ho1
                have hl1 := ho1.len
                have hp1 := vEnc_pos (gvv zs a (k + 1))
                obtain ⟨g, rfl, hg1, hg2⟩ := ho1.head (by omega)
                have hcv1 : ∀ nq, (convert 22 9 (.slice (some ⟨g, 0, none⟩) n1 c1)).run Try.prog (w1.drewN nq) = .ok (.string (strOfNums (vEnc (gvv zs a (k + 1))))) (w1.drewN nq) :=
                  fun nq => run_convert_bytes_arg (w1.drewN nq) 22 5 Try.underlying22 Try.underlying5 g 0 n1 c1 _ hl1 (fun i hi => by rw [Nat.zero_add]; exact (ho1.spot hi).1) 9 Try.underlying9
                have hr1 := hr.below (Nat.le_refl _) hb1
                have hcv2 : ∀ nq, (convert 22 9 (.slice (some ⟨b, o + a, none⟩) (a + k + 1 - a) (c - a))).run Try.prog (w1.drewN nq) = .ok (.string (strOfNums (seg zs a k))) (w1.drewN nq) :=
                  fun nq => run_convert_bytes_arg (w1.drewN nq) 22 5 Try.underlying22 Try.underlying5 b (o + a) (a + k + 1 - a) (c - a) _ (by rw [seg_len zs a k (by rw [HL.out]; exact hlt)]; omega) (fun i hi => by
                    obtain ⟨b2, o2, e2, _, hc2⟩ := hr1.at_ (k := a + i) (by rw [HL.out]; omega)
                    injection e2 with e2
                    injection e2 with e3 e4
                    subst e3 e4
                    rw [seg_at zs a k i (by omega), Nat.add_assoc]
                    exact hc2) 9 Try.underlying9
                clear hr1
                have hle : (a : Int) + (k : Int) + 1 ≤ (c : Int) := by omega
                have hsum : IntKind.i64.wrap ((a : Int) + (k : Int) + 1) = (a : Int) + (k : Int) + 1 := IntWalk.i64_in _ (by omega)
                have HL1 := Lib.hid hl1
                clear hl1 hp1
                by_cases hz : 0 < k ∧ zs.getD (a + k) 0 = 0
                · obtain ⟨hne1, hne2⟩ := str_ne (ys := seg zs a k) (vEnc_rng _ _ (Nat.lt_succ_self (gvv zs a (k + 1)))) (fun z hz => hg z (List.mem_of_mem_drop (List.mem_of_mem_take hz))) (fun h => HENC.out.1 h hz)
                  have hfin := Lib.hid (HF.out (fun h => h.2.2.1 hz))
                  have HZ := Lib.hid hz
                  clear hz
                  go_wp2_with fail
                  go_quiet (fail)
                  go_wp2_with fail
                  go_ret3
                  exact ⟨hfin.out, below_drewN hb1 _⟩
                · obtain ⟨hne1, hne2⟩ := str_eq (HENC.out.2 hz)
                  have hfin := Lib.hid (gvRet_yes _ _ (hin.out hz hmax))
                  have HZ := Lib.hid hz
                  clear hz
                  go_wp2_with fail
                  go_quiet (fail)
                  go_wp2_with fail
                  go_ret3
                  exact ⟨hfin.out, below_drewN hb1 _⟩
              · have hfin := Lib.hid (HF.out (fun h => hmax h.2.2.2))
                go_wp2_with fail
                refine (spec_PutVar_no none 0 0 _ _ (by omega)).mono ?_
                rintro e w' ⟨rfl, rfl⟩
                go_wp2_with fail
                go_quiet (fail)
                go_wp2_with fail
                go_ret3
                exact ⟨hfin.out, below_drewN (Below.refl _ _) _⟩

/-! ### both, at every offset -/
theorem spec_GetVar_any (A : Option Addr) (n c : Nat) (zs : List Int) (a : Int) (w : World) (hr : Rd w w.heap.size A zs) (hg : Rng zs) (hl : zs.length = n) (hn : n ≤ 1099511627776) (hnc : n ≤ c) :
    Calls Try.prog 119 #[.slice A n c, .int .i64 a] w fun e w' => e = gvRet zs a ∧ Below w.heap.size w w' := by
  by_cases h0 : a < 0
  · have hfin := Lib.hid (gvRet_no (zs := zs) (gv_out (.inl h0)))
    go_enter Try.func119, Try.ntmps119
    go_wp2_with fail
    go_ret3
    exact ⟨hfin.out, Below.refl _ _⟩
  · obtain ⟨k, rfl⟩ := Int.eq_ofNat_of_zero_le (show 0 ≤ a by omega)
    by_cases hk : k < n
    · exact spec_GetVar_in A n c zs k w hr hg hl hn hnc hk
    · have hfin := Lib.hid (gvRet_no (zs := zs) (at_ := (k : Int)) (gv_out (.inr (by omega))))
      have hge : (n : Int) ≤ (k : Int) := by omega
      clear h0 hk
      go_enter Try.func119, Try.ntmps119
      go_wp2_with fail
      go_ret3
      exact ⟨hfin.out, Below.refl _ _⟩
end Go.Proofs.Yteiojpglhmikoaa.Var

