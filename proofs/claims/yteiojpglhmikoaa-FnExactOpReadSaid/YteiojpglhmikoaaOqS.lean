/- The model's OpOk, at every operation. -/
import Derived.Test.YteiojpglhmikoaaOqK
import Derived.Test.YteiojpglhmikoaaOqH
import Derived.Test.YteiojpglhmikoaaWordOkC
import Derived.Deep.Cut
import Derived.Deep.CutRange
import Derived.Deep.DeepCutAuto
import Derived.Deep.QuietTactic
import Derived.BigQuiet
import Derived.Deep.CutBlock
namespace Go.Proofs.Yteiojpglhmikoaa.Oq
open Go.RowKit Go.Proofs.Yteiojpglhmikoaa.Bytes Go.Proofs.Yteiojpglhmikoaa.OpOk Go.Proofs.Yteiojpglhmikoaa.Opq Go.Proofs.Yteiojpglhmikoaa.Made
set_option linter.unusedVariables false
set_option linter.unusedSimpArgs false
theorem rtb2 {a b : Bool} (h : a = b) : Ending.returned (.bool a) = .returned (.bool b) := by rw [h]
abbrev opC2 (k a b d : Int) (nm tx dr : ByteArray) (A : Option Addr) (n c : Nat) : Array Value := #[.int .i64 k, .int .i64 a, .int .i64 b, .int .i64 d, .string nm, .string tx, .string dr, .slice A n c]
def hasA (k : Int) : Array Value := #[.bool (uA k), .bool (uB k), .bool (uC k), .bool (uN k), .bool (uT k), .bool (uD k)]
set_option maxRecDepth 100000 in
set_option maxHeartbeats 1600000 in
theorem l16Has_any (k : Int) (w : World) (hk : 1 ≤ k ∧ k ≤ 14) : Calls Try.prog 66 #[.int .i64 k] w fun e w' => e = .returned (.slice (some ⟨w.heap.size, 0, none⟩) 6 6) ∧ w' = w.alloc (.cells (hasA k) 4) := by
  have hk' : k = 1 ∨ k = 2 ∨ k = 3 ∨ k = 4 ∨ k = 5 ∨ k = 6 ∨ k = 7 ∨ k = 8 ∨ k = 9 ∨ k = 10 ∨ k = 11 ∨ k = 12 ∨ k = 13 ∨ k = 14 := by omega
  clear hk
  rcases hk' with rfl | rfl | rfl | rfl | rfl | rfl | rfl | rfl | rfl | rfl | rfl | rfl | rfl | rfl
  all_goals
    go_enter Try.func66, Try.ntmps66
    go_wp2_with fail
    go_ret
    exact ⟨rfl, rfl⟩
set_option maxHeartbeats 800000 in
theorem l16In_any (h : Bool) (x lo hi : Int) (w : World) : Calls Try.prog 67 #[.bool h, .int .i64 x, .int .i64 lo, .int .i64 hi] w fun e w' => e = .returned (.bool (inB h x lo hi)) ∧ w = w' := by
  cases h
  · have HE := Lib.hid (show inB false x lo hi = (x == 0) by unfold inB; rw [if_neg (by simp), Bool.eq_iff_iff]; simp)
    go_enter Try.func67, Try.ntmps67
    go_wp2_with fail
    go_ret
    exact ⟨rtb2 HE.out.symm, rfl⟩
  · by_cases h1 : lo ≤ x
    · have HE := Lib.hid (show inB true x lo hi = decide (x ≤ hi) by unfold inB; rw [if_pos rfl, Bool.eq_iff_iff]; simp; omega)
      go_enter Try.func67, Try.ntmps67
      go_wp2_with fail
      go_ret
      exact ⟨rtb2 HE.out.symm, rfl⟩
    · have HE := Lib.hid (show inB true x lo hi = false by unfold inB; rw [if_pos rfl]; exact decide_eq_false (by omega))
      have h2 : x < lo := by omega
      clear h1
      go_enter Try.func67, Try.ntmps67
      go_wp2_with fail
      go_ret
      exact ⟨rtb2 HE.out.symm, rfl⟩
def csQ (q0 q1 q2 q3 q4 q5 : Bool) : Array Value := #[.bool q0, .bool q1, .bool q2, .bool q3, .bool q4, .bool q5]
set_option maxRecDepth 100000 in
set_option maxHeartbeats 6400000 in
theorem spec_OpOk_any (k a b d : Int) (nm tx dr : ByteArray) (A : Option Addr) (n c : Nat) (w : World) (h1 : nm.size ≤ maxLen) (h2 : tx.size ≤ maxLen) (h3 : dr.size ≤ maxLen) (hn : n ≤ 1099511627776) :
    Calls Try.prog 35 #[opV k a b d nm tx dr A n c] w fun e w' => e = .returned (.bool (okS k a b d (madeB wb 12 nm.data.toList) nm.toList.isEmpty tx.toList.isEmpty dr.toList.isEmpty tx.size dr.size n)) ∧ Below w.heap.size w w' := by
  have H1 := Lib.hid h1
  have HB0 := Lib.hid ((Below.refl w.heap.size w).alloc (Nat.le_refl _) (.cells (opC2 k a b d nm tx dr A n c) 58))
  have g2 : tx.size ≤ 9223372036854775807 := by unfold maxLen at h2; omega
  have g3 : dr.size ≤ 9223372036854775807 := by unfold maxLen at h3; omega
  clear h1 h2 h3
  by_cases hk : 1 ≤ k ∧ k ≤ 14
  rotate_left
  · have HE := Lib.hid (show okS k a b d (madeB wb 12 nm.data.toList) nm.toList.isEmpty tx.toList.isEmpty dr.toList.isEmpty tx.size dr.size n = false by unfold okS; rw [decide_eq_false hk]; rfl)
    by_cases hk1 : k < 1
    · clear hk
      go_enter Try.func35, Try.ntmps35
      go_wp2_with fail
      go_ret
      exact ⟨rtb2 HE.out.symm, HB0.out⟩
    · have hk2 : 14 < k := by omega
      have hk3 : 1 ≤ k := by omega
      clear hk hk1
      go_enter Try.func35, Try.ntmps35
      go_wp2_with fail
      go_ret
      exact ⟨rtb2 HE.out.symm, HB0.out⟩
  · obtain ⟨OV, hOV⟩ : ∃ x, okS k a b d (madeB wb 12 nm.data.toList) nm.toList.isEmpty tx.toList.isEmpty dr.toList.isEmpty tx.size dr.size n = x := ⟨_, rfl⟩
    rw [hOV]
    unfold okS at hOV
    rw [decide_eq_true hk] at hOV
    have HK := Lib.hid hOV.symm
    clear hOV
    have HHAS := Lib.hid (fun W => l16Has_any k W hk)
    have HSW := Lib.hid (show (k = 12 ∧ amF k = 120 ∧ blF k = 1 ∧ bmF k = 120) ∨ (k = 3 ∧ amF k = 1000000 ∧ blF k = 0 ∧ bmF k = 1) ∨ (k = 6 ∧ amF k = 1000000 ∧ blF k = 0 ∧ bmF k = 255) ∨ (k = 10 ∧ amF k = 1000000 ∧ blF k = 68 ∧ bmF k = 85) ∨ (k ≠ 12 ∧ k ≠ 3 ∧ k ≠ 6 ∧ k ≠ 10 ∧ amF k = 1000000 ∧ blF k = 1 ∧ bmF k = 1000000) by
      rcases (show k = 12 ∨ k = 3 ∨ k = 6 ∨ k = 10 ∨ (k ≠ 12 ∧ k ≠ 3 ∧ k ≠ 6 ∧ k ≠ 10) by omega) with rfl | rfl | rfl | rfl | ⟨a1, a2, a3, a4⟩
      · exact .inl ⟨rfl, rfl, rfl, rfl⟩
      · exact .inr (.inl ⟨rfl, rfl, rfl, rfl⟩)
      · exact .inr (.inr (.inl ⟨rfl, rfl, rfl, rfl⟩))
      · exact .inr (.inr (.inr (.inl ⟨rfl, rfl, rfl, rfl⟩)))
      · refine .inr (.inr (.inr (.inr ⟨a1, a2, a3, a4, ?_, ?_, ?_⟩)))
        · unfold amF; rw [if_neg a1]
        · unfold blF; rw [if_neg a2, if_neg a3, if_neg a4]
        · unfold bmF; rw [if_neg a1, if_neg a2, if_neg a3, if_neg a4])
    unfold hasA at HHAS
    have HQ10 := Lib.hid (show k = 10 → uN k = false ∧ uT k = false by rintro rfl; exact ⟨rfl, rfl⟩)
    generalize uA k = q0 at HK HHAS
    generalize uB k = q1 at HK HHAS
    generalize uC k = q2 at HK HHAS
    generalize uN k = q3 at HK HHAS HQ10
    generalize uT k = q4 at HK HHAS HQ10
    generalize uD k = q5 at HK HHAS
    generalize amF k = am at HK HSW
    generalize blF k = bl at HK HSW
    generalize bmF k = bm at HK HSW
    obtain ⟨hk1, hk2⟩ := hk
    obtain ⟨V, hV⟩ : ∃ V, V = (w.alloc (.cells (opC2 k a b d nm tx dr A n c) 58)).alloc (.cells #[.bool q0, .bool q1, .bool q2, .bool q3, .bool q4, .bool q5] 4) := ⟨_, rfl⟩
    have RB := Lib.hid (show RowB V w.heap.size (opC2 k a b d nm tx dr A n c) from hV ▸ (RowB.new w _ _).alloc _)
    have RH := Lib.hid (show RowB V (w.heap.size + 1) #[.bool q0, .bool q1, .bool q2, .bool q3, .bool q4, .bool q5] from by
      have h := RowB.new (w.alloc (.cells (opC2 k a b d nm tx dr A n c) 58)) #[.bool q0, .bool q1, .bool q2, .bool q3, .bool q4, .bool q5] 4
      rw [World.size_alloc] at h; rw [hV]; exact h)
    have HBV := Lib.hid (show Below w.heap.size w V from hV ▸ HB0.out.alloc (by simp) _)
    go_enter Try.func35, Try.ntmps35
    go_wp2_with fail
    refine (HHAS.out _).mono ?_
    rintro e w' ⟨rfl, rfl⟩
    rw [World.size_alloc, ← hV]
    clear hV
    have k0 : V.cell? ⟨w.heap.size, 0, none⟩ = some (.int .i64 k) := RB.out.cell 0
    have k1 : V.cell? ⟨w.heap.size, 1, none⟩ = some (.int .i64 a) := RB.out.cell 1
    have k2 : V.cell? ⟨w.heap.size, 2, none⟩ = some (.int .i64 b) := RB.out.cell 2
    have k3 : V.cell? ⟨w.heap.size, 3, none⟩ = some (.int .i64 d) := RB.out.cell 3
    have k4 : V.cell? ⟨w.heap.size, 4, none⟩ = some (.string nm) := RB.out.cell 4
    have k5 : V.cell? ⟨w.heap.size, 5, none⟩ = some (.string tx) := RB.out.cell 5
    have k6 : V.cell? ⟨w.heap.size, 6, none⟩ = some (.string dr) := RB.out.cell 6
    have k7 : V.cell? ⟨w.heap.size, 7, none⟩ = some (.slice A n c) := RB.out.cell 7
    have r0 : V.cell? ⟨w.heap.size + 1, 0, none⟩ = some (.bool q0) := RH.out.cell 0
    have r1 : V.cell? ⟨w.heap.size + 1, 1, none⟩ = some (.bool q1) := RH.out.cell 1
    have r2 : V.cell? ⟨w.heap.size + 1, 2, none⟩ = some (.bool q2) := RH.out.cell 2
    have r3 : V.cell? ⟨w.heap.size + 1, 3, none⟩ = some (.bool q3) := RH.out.cell 3
    have r4 : V.cell? ⟨w.heap.size + 1, 4, none⟩ = some (.bool q4) := RH.out.cell 4
    have r5 : V.cell? ⟨w.heap.size + 1, 5, none⟩ = some (.bool q5) := RH.out.cell 5
    go_upto_block 0 with fail
    go_cut [4, 5, 6] (fun s4 s5 s6 wx => s4 = .int .i64 am ∧ s5 = .int .i64 bl ∧ s6 = .int .i64 bm ∧ V = wx)
    case first =>
      rcases HSW.out with ⟨rfl, rfl, rfl, rfl⟩ | ⟨rfl, rfl, rfl, rfl⟩ | ⟨rfl, rfl, rfl, rfl⟩ | ⟨rfl, rfl, rfl, rfl⟩ | ⟨a1, a2, a3, a4, rfl, rfl, rfl⟩
      rotate_left 4
      · have e1 : (k == 12) = false := by simp [a1]
        have e2 : (k == 3) = false := by simp [a2]
        have e3 : (k == 6) = false := by simp [a3]
        have e4 : (k == 10) = false := by simp [a4]
        clear a1 a2 a3 a4
        go_wp2_with fail
        go_meet
        case rel => exact ⟨rfl, rfl, rfl, rfl⟩
      all_goals
        go_wp2_with fail
        go_meet
        case rel => exact ⟨rfl, rfl, rfl, rfl⟩
    case rest =>
      obtain ⟨rfl, rfl, rfl, rfl⟩ := hcut
      go_upto_region 20 with fail
      have C0 := Lib.hid (fun W => (l16In_any q0 a 1 am W).mono fun _ _ ⟨x, y⟩ => (show _ ∧ _ from ⟨x, y.symm⟩))
      cases b0 : inB q0 a 1 am <;> rw [b0] at C0 HK <;> clear b0
      · have HE := Lib.hid (show OV = false by rw [HK.out]; simp only [Bool.and_false, Bool.false_and, Bool.true_and, Bool.and_true])
        go_quiet ((go_at_call 67; (first | (with_reducible exact Calls.quiet_of_same (C0.out _)))))
        go_wp2_with fail
        go_ret
        exact ⟨rtb2 HE.out.symm, below_drewN HBV.out _⟩
      have C1 := Lib.hid (fun W => (l16In_any q1 b bl bm W).mono fun _ _ ⟨x, y⟩ => (show _ ∧ _ from ⟨x, y.symm⟩))
      cases b1 : inB q1 b bl bm <;> rw [b1] at C1 HK <;> clear b1
      · have HE := Lib.hid (show OV = false by rw [HK.out]; simp only [Bool.and_false, Bool.false_and, Bool.true_and, Bool.and_true])
        go_quiet ((go_at_call 67; (first | (with_reducible exact Calls.quiet_of_same (C0.out _)) | (with_reducible exact Calls.quiet_of_same (C1.out _)))))
        go_wp2_with fail
        go_ret
        exact ⟨rtb2 HE.out.symm, below_drewN HBV.out _⟩
      have C2 := Lib.hid (fun W => (l16In_any q2 d 1 120 W).mono fun _ _ ⟨x, y⟩ => (show _ ∧ _ from ⟨x, y.symm⟩))
      cases b2 : inB q2 d 1 120 <;> rw [b2] at C2 HK <;> clear b2
      · have HE := Lib.hid (show OV = false by rw [HK.out]; simp only [Bool.and_false, Bool.false_and, Bool.true_and, Bool.and_true])
        go_quiet ((go_at_call 67; (first | (with_reducible exact Calls.quiet_of_same (C0.out _)) | (with_reducible exact Calls.quiet_of_same (C1.out _)) | (with_reducible exact Calls.quiet_of_same (C2.out _)))))
        go_wp2_with fail
        go_ret
        exact ⟨rtb2 HE.out.symm, below_drewN HBV.out _⟩
      have C3 := Lib.hid (fun W => (l16In_any q5 (n : Int) 1 2000 W).mono fun _ _ ⟨x, y⟩ => (show _ ∧ _ from ⟨x, y.symm⟩))
      cases b3 : inB q5 (n : Int) 1 2000 <;> rw [b3] at C3 HK <;> clear b3
      · have HE := Lib.hid (show OV = false by rw [HK.out]; simp only [Bool.and_false, Bool.false_and, Bool.true_and, Bool.and_true])
        go_quiet ((go_at_call 67; (first | (with_reducible exact Calls.quiet_of_same (C0.out _)) | (with_reducible exact Calls.quiet_of_same (C1.out _)) | (with_reducible exact Calls.quiet_of_same (C2.out _)) | (with_reducible exact Calls.quiet_of_same (C3.out _)))))
        go_wp2_with fail
        go_ret
        exact ⟨rtb2 HE.out.symm, below_drewN HBV.out _⟩
      go_quiet ((go_at_call 67; (first | (with_reducible exact Calls.quiet_of_same (C0.out _)) | (with_reducible exact Calls.quiet_of_same (C1.out _)) | (with_reducible exact Calls.quiet_of_same (C2.out _)) | (with_reducible exact Calls.quiet_of_same (C3.out _)))))
      clear C0 C1 C2 C3
      have HBW := Lib.hid (below_drewN HBV.out nq)
      obtain ⟨n1, hn1⟩ : ∃ x : Nat, nm.size = x := ⟨_, rfl⟩
      clear hn1 n1
      by_cases h10 : k = 10
      · subst h10
        obtain ⟨rfl, rfl⟩ := HQ10.out rfl
        cases hd : dirB b <;> rw [hd] at HK
        · have hd2 := of_decide_eq_false hd
          have d76 : (b != 76) = true := by simp; omega
          have d82 : (b != 82) = true := by simp; omega
          have d85 : (b != 85) = true := by simp; omega
          have d68 : (b != 68) = true := by simp; omega
          clear hd hd2
          have HE := Lib.hid (show OV = false by rw [HK.out]; simp)
          go_wp2_with fail
          go_ret
          exact ⟨rtb2 HE.out.symm, HBW.out⟩
        · have hd2 := of_decide_eq_true hd
          clear hd
          rcases hd2 with rfl | rfl | rfl | rfl
          all_goals
            cases en : nm.toList.isEmpty <;> have EN := en <;> rw [en] at HK <;> clear EN
            · skip
              have HE := Lib.hid (show OV = false by rw [HK.out]; simp)
              go_wp2_with fail
              go_ret
              exact ⟨rtb2 HE.out.symm, HBW.out⟩
            · skip
              cases et : tx.toList.isEmpty <;> have ET := et <;> rw [et] at HK <;> clear ET
              · skip
                have HE := Lib.hid (show OV = false by rw [HK.out]; simp)
                go_wp2_with fail
                go_ret
                exact ⟨rtb2 HE.out.symm, HBW.out⟩
              · cases ed : dr.toList.isEmpty <;> have ED := ed <;> rw [ed] at HK <;> clear ED
                · skip
                  have HE := Lib.hid (show OV = false by rw [HK.out]; simp)
                  go_wp2_with fail
                  go_ret
                  exact ⟨rtb2 HE.out.symm, HBW.out⟩
                · skip
                  by_cases ht : tx.size ≤ 60
                  · have HE := Lib.hid (show OV = decide ((dr.size : Int) ≤ 60) by rw [HK.out, decide_eq_true ht, Bool.eq_iff_iff]; simp; try omega)
                    go_wp2_with fail
                    go_ret
                    exact ⟨rtb2 HE.out.symm, HBW.out⟩
                  · have HE := Lib.hid (show OV = false by rw [HK.out, decide_eq_false ht]; simp)
                    have ht2 : 60 < tx.size := by omega
                    clear ht
                    go_wp2_with fail
                    go_ret
                    exact ⟨rtb2 HE.out.symm, HBW.out⟩
      · have e10 : (k == 10) = false := by simp [h10]
        have HD := HK.out
        rw [decide_eq_false h10] at HD
        clear HK h10
        have HK := Lib.hid HD
        clear HD
        cases q3
        · skip
          cases en : nm.toList.isEmpty <;> have EN := en <;> rw [en] at HK <;> clear EN
          · skip
            have HE := Lib.hid (show OV = false by rw [HK.out]; simp)
            go_wp2_with fail
            go_ret
            exact ⟨rtb2 HE.out.symm, HBW.out⟩
          · skip
            cases q4
            rotate_left
            · skip
              by_cases ht : tx.size ≤ 60
              · have HE := Lib.hid (show OV = decide ((dr.size : Int) ≤ 60) by rw [HK.out, decide_eq_true ht, Bool.eq_iff_iff]; simp; try omega)
                go_wp2_with fail
                go_ret
                exact ⟨rtb2 HE.out.symm, HBW.out⟩
              · have HE := Lib.hid (show OV = false by rw [HK.out, decide_eq_false ht]; simp)
                have ht2 : 60 < tx.size := by omega
                clear ht
                go_wp2_with fail
                go_ret
                exact ⟨rtb2 HE.out.symm, HBW.out⟩
            · skip
              cases et : tx.toList.isEmpty <;> have ET := et <;> rw [et] at HK <;> clear ET
              · skip
                have HE := Lib.hid (show OV = false by rw [HK.out]; simp)
                go_wp2_with fail
                go_ret
                exact ⟨rtb2 HE.out.symm, HBW.out⟩
              · cases ed : dr.toList.isEmpty <;> have ED := ed <;> rw [ed] at HK <;> clear ED
                · skip
                  have HE := Lib.hid (show OV = false by rw [HK.out]; simp)
                  go_wp2_with fail
                  go_ret
                  exact ⟨rtb2 HE.out.symm, HBW.out⟩
                · skip
                  by_cases ht : tx.size ≤ 60
                  · have HE := Lib.hid (show OV = decide ((dr.size : Int) ≤ 60) by rw [HK.out, decide_eq_true ht, Bool.eq_iff_iff]; simp; try omega)
                    go_wp2_with fail
                    go_ret
                    exact ⟨rtb2 HE.out.symm, HBW.out⟩
                  · have HE := Lib.hid (show OV = false by rw [HK.out, decide_eq_false ht]; simp)
                    have ht2 : 60 < tx.size := by omega
                    clear ht
                    go_wp2_with fail
                    go_ret
                    exact ⟨rtb2 HE.out.symm, HBW.out⟩
        · have HW := Lib.hid (fnExactWordOk.spec_any nm (V.drewN nq) H1.out)
          cases ew : madeB wb 12 nm.data.toList <;> rw [ew] at HK HW <;> clear ew
          · skip
            have HE := Lib.hid (show OV = false by rw [HK.out]; simp)
            go_wp2_with fail
            refine HW.out.mono ?_
            rintro e w' ⟨rfl, rfl⟩
            go_wp2_with fail
            go_ret
            exact ⟨rtb2 HE.out.symm, HBW.out⟩
          · skip
            cases q4
            rotate_left
            · skip
              by_cases ht : tx.size ≤ 60
              · have HE := Lib.hid (show OV = decide ((dr.size : Int) ≤ 60) by rw [HK.out, decide_eq_true ht, Bool.eq_iff_iff]; simp; try omega)
                go_wp2_with fail
                refine HW.out.mono ?_
                rintro e w' ⟨rfl, rfl⟩
                go_wp2_with fail
                go_ret
                exact ⟨rtb2 HE.out.symm, HBW.out⟩
              · have HE := Lib.hid (show OV = false by rw [HK.out, decide_eq_false ht]; simp)
                have ht2 : 60 < tx.size := by omega
                clear ht
                go_wp2_with fail
                refine HW.out.mono ?_
                rintro e w' ⟨rfl, rfl⟩
                go_wp2_with fail
                go_ret
                exact ⟨rtb2 HE.out.symm, HBW.out⟩
            · skip
              cases et : tx.toList.isEmpty <;> have ET := et <;> rw [et] at HK <;> clear ET
              · skip
                have HE := Lib.hid (show OV = false by rw [HK.out]; simp)
                go_wp2_with fail
                refine HW.out.mono ?_
                rintro e w' ⟨rfl, rfl⟩
                go_wp2_with fail
                go_ret
                exact ⟨rtb2 HE.out.symm, HBW.out⟩
              · cases ed : dr.toList.isEmpty <;> have ED := ed <;> rw [ed] at HK <;> clear ED
                · skip
                  have HE := Lib.hid (show OV = false by rw [HK.out]; simp)
                  go_wp2_with fail
                  refine HW.out.mono ?_
                  rintro e w' ⟨rfl, rfl⟩
                  go_wp2_with fail
                  go_ret
                  exact ⟨rtb2 HE.out.symm, HBW.out⟩
                · skip
                  by_cases ht : tx.size ≤ 60
                  · have HE := Lib.hid (show OV = decide ((dr.size : Int) ≤ 60) by rw [HK.out, decide_eq_true ht, Bool.eq_iff_iff]; simp; try omega)
                    go_wp2_with fail
                    refine HW.out.mono ?_
                    rintro e w' ⟨rfl, rfl⟩
                    go_wp2_with fail
                    go_ret
                    exact ⟨rtb2 HE.out.symm, HBW.out⟩
                  · have HE := Lib.hid (show OV = false by rw [HK.out, decide_eq_false ht]; simp)
                    have ht2 : 60 < tx.size := by omega
                    clear ht
                    go_wp2_with fail
                    refine HW.out.mono ?_
                    rintro e w' ⟨rfl, rfl⟩
                    go_wp2_with fail
                    go_ret
                    exact ⟨rtb2 HE.out.symm, HBW.out⟩
end Go.Proofs.Yteiojpglhmikoaa.Oq

