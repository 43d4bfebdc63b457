/- impl.readPart at every list of nodes: it reads the tree that the list begins with. -/
import Derived.Test.YtgejjdkgeoojmaaTrAt
import Derived.RegionTactic
import Derived.ChangeAlike
namespace Go.Proofs.Ytgejjdkgeoojmaa.Tr
open Go.RowKit Go.Proofs.Ytgejjdkgeoojmaa.Bytes Go.Proofs.Ytgejjdkgeoojmaa.Rows_ Go.Proofs.Ytgejjdkgeoojmaa.RowK Go.Proofs.Ytgejjdkgeoojmaa.Opq
open Tree
set_option linter.unusedVariables false
attribute [local go_sem ↓] Go.wp_at_zero Go.wp_at_succ
set_option maxRecDepth 100000 in
set_option maxHeartbeats 3200000 in
theorem readPart_any : ∀ (k : Nat) (A : Option Addr) (n c B : Nat) (t : List NodeD) (w : World), RdN w B A t → t.length = n → n ≤ k → n ≤ c → c ≤ maxLen → B ≤ w.heap.size →
    Calls Try.prog 98 #[.slice A n c] w (ReadP w B (readT k t)) := by
  intro k
  induction k with
  | zero =>
    intro A n c B t w hr hl hk hc hm hB
    obtain rfl : n = 0 := by omega
    obtain rfl : t = [] := List.length_eq_zero_iff.1 hl
    go_enter Try.func98, Try.ntmps98
    go_wp2_with fail
    refine bodyPost_ret (v := .tuple #[.nilIface, .slice none 0 0, .bool false]) (by simp [results, Try.results98, go_sem]) rfl ⟨Below.refl _ _, ?_⟩
    simp only [readT]
  | succ k ih =>
    intro A n c B t w hr hl hk hc hm hB
    rcases t with _ | ⟨x, t⟩
    · obtain rfl : n = 0 := by simpa using hl.symm
      go_enter Try.func98, Try.ntmps98
      go_wp2_with fail
      refine bodyPost_ret (v := .tuple #[.nilIface, .slice none 0 0, .bool false]) (by simp [results, Try.results98, go_sem]) rfl ⟨Below.refl _ _, ?_⟩
      simp only [readT]
    · obtain ⟨m, rfl⟩ : ∃ m, n = m + 1 := ⟨t.length, by simpa using hl.symm⟩
      have HTL := Lib.hid (show t.length = m by simpa using hl)
      clear hl
      obtain ⟨b, o, rfl, hlt, hc0, hc1, hc2⟩ := hr.at_ (i := 0) (by simp)
      have HT := Lib.hid hr.tail
      clear hr
      obtain ⟨p, d, f⟩ := x
      simp only [Nat.zero_mul, Nat.add_zero, List.getElem_cons_zero] at hc0 hc1 hc2
      have HM := Lib.hid hm
      unfold maxLen at hm
      have hm0 : ¬ ((m + 1 : Nat) = 0) := by omega
      have hi1 : (1 : Int) ≤ (m : Int) + 1 := by omega
      have hi2 : (m : Int) + 1 ≤ (c : Int) := by omega
      have hbw : b < w.heap.size := by omega
      have hbn : b ≠ w.heap.size := by omega
      have HRT := Lib.hid (show readT (k + 1) (⟨p, d, f⟩ :: t) = _ from readT.eq_3 k ⟨p, d, f⟩ t)
      have HBX := Lib.hid ((Below.refl w.heap.size w).alloc (Nat.le_refl _) (.cells #[.int .i64 p, .bool d, .int .i64 f] 90))
      cases hL : leafB ⟨p, d, f⟩ <;> have HL := Lib.hid hL <;> clear hL
      · cases hS : splitB ⟨p, d, f⟩ <;> have HS := Lib.hid hS <;> clear hS
        · by_cases hone : c = 1 <;>
          · go_enter Try.func98, Try.ntmps98
            go_wp2_with fail
            go_region
            all_goals
              go_wp2_with fail
              refine (isLeaf_any p f d _).mono ?_
              rintro e v1 ⟨rfl, hb1⟩
              rw [HL.out]
              have hbx := undrew hb1
              obtain ⟨hcc, hff⟩ := bcell hbx
              have hz : w.heap.size < v1.heap.size := by have := hbx.size; simp at this; omega
              have HB1 := Lib.hid (HBX.out.trans (hbx.mono (by simp)))
              clear hb1 hbx
              go_wp2_with fail
              refine (isSplit_any p f d _).mono ?_
              rintro e v2 ⟨rfl, hb2⟩
              rw [HS.out]
              have HB2 := Lib.hid (HB1.out.trans (hb2.mono (by omega)))
              clear hb2
              go_wp2_with fail
              refine bodyPost_ret (v := .tuple #[.nilIface, .slice none 0 0, .bool false]) (by simp [results, Try.results98, go_sem]) rfl ⟨HB2.out, ?_⟩
              rw [HRT.out, if_neg (by rw [HL.out]; simp), if_neg (by rw [HS.out]; simp)]
        · have HR1 := Lib.hid (show readT (k + 1) (⟨p, d, f⟩ :: t) = match readT k t with
            | none => none
            | some (a, r1) => match readT k r1 with
              | none => none
              | some (b, r2) => some (split d f a b, r2) by rw [HRT.out, if_neg (by rw [HL.out]; simp), if_pos HS.out]; rfl)
          clear HRT
          have HBT := Lib.hid (readT_sound k t)
          by_cases hone : c = 1
          · have HRv := Lib.hid (show RdN w B (some ⟨b, o, none⟩) t by
              have : t = [] := List.length_eq_zero_iff.1 (by have := HTL.out; omega)
              rw [this]; exact RdN.nil)
            clear HT
            go_enter Try.func98, Try.ntmps98
            go_wp2_with fail
            go_region
            all_goals
              go_wp2_with fail
              refine (isLeaf_any p f d _).mono ?_
              rintro e v1 ⟨rfl, hb1⟩
              rw [HL.out]
              have hbx := undrew hb1
              obtain ⟨hcc, hff⟩ := bcell hbx
              have hz : w.heap.size < v1.heap.size := by have := hbx.size; simp at this; omega
              have HB1 := Lib.hid (HBX.out.trans (hbx.mono (by simp)))
              clear hb1 hbx
              go_wp2_with fail
              refine (isSplit_any p f d _).mono ?_
              rintro e v2 ⟨rfl, hb2⟩
              rw [HS.out]
              have HB2 := Lib.hid (HB1.out.trans (hb2.mono (by omega)))
              obtain ⟨hcc2, hff2⟩ := bcell hb2
              have hz2 : w.heap.size < v2.heap.size := by have := hb2.size; omega
              have hz2n : w.heap.size ≠ v2.heap.size := by omega
              clear hb2
              go_wp2_with fail
              refine wp_loop_rounds 3 ?_
              rw [rounds_succ]
              have HW := Lib.hid (show ∃ W, W = v2.alloc (.cells (splitC d f .nilIface .nilIface) 127) from ⟨_, rfl⟩)
              obtain ⟨W, hW⟩ := HW.out
              have HG := Lib.hid (show RowB W v2.heap.size (splitC d f .nilIface .nilIface) by rw [hW]; exact RowB.new _ _ _)
              have HBW := Lib.hid (show Below w.heap.size w W by rw [hW]; exact HB2.out.alloc (by omega) _)
              have hzW : v2.heap.size < W.heap.size := HG.out.lt
              have hzW1 : W.heap.size = v2.heap.size + 1 := by rw [hW]; simp
              have HZW := Lib.hid hzW1
              clear hzW1
              rw [← hW]
              clear hW HW
              go_wp2_with fail
              refine (ih _ m 0 B t _ (HRv.out.below hB HBW.out) HTL.out (by omega) (by omega) (by unfold maxLen; omega) (by omega)).mono ?_
              rintro e v3 ⟨hb3, he⟩
              have HB3 := Lib.hid (HBW.out.trans (hb3.mono (by omega)))
              have HG3 := Lib.hid (HG.out.below hb3 hzW)
              have hz3 : v2.heap.size < v3.heap.size := HG3.out.lt
              have hz3w : w.heap.size < v3.heap.size := by omega
              have HZ3 := Lib.hid hb3.size
              clear hb3
              rcases hra : readT k t with _ | ⟨a, r1⟩ <;> rw [hra] at he <;> have HRA := Lib.hid hra <;> clear hra
              · have he' : e = .returned (.tuple #[.nilIface, .slice none 0 0, .bool false]) := he
                subst he'
                clear he
                go_wp2_with fail
                refine bodyPost_ret (v := .tuple #[.nilIface, .slice none 0 0, .bool false]) (by simp [results, Try.results98, go_sem]) rfl ⟨HB3.out, ?_⟩
                rw [HR1.out, HRA.out]
              · obtain ⟨va, A1, c1, he', ha, hr1, hc1', hc1m⟩ := he
                subst he'
                obtain ⟨ta, ua, rfl⟩ := ha.iface
                have HA := Lib.hid ha
                have HR := Lib.hid hr1
                have HE1 := Lib.hid (HBT.out a r1 HRA.out).1
                have hl1 : r1.length ≤ k := by
                  have h1 := congrArg List.length HE1.out
                  have h2 := HTL.out
                  rw [List.length_append] at h1; omega
                clear ha hr1
                have k2 : v3.cell? ⟨v2.heap.size, 2, none⟩ = some .nilIface := by rw [HG3.out.cell]; rfl
                have f2 := HG3.out.free 2
                go_wp2_with fail
                have HX := Lib.hid (show ∃ X, X = v3.setCell ⟨v2.heap.size, 2, none⟩ (.iface ta ua) from ⟨_, rfl⟩)
                obtain ⟨X, hX⟩ := HX.out
                have HGX := Lib.hid (show RowB X v2.heap.size (splitC d f (.iface ta ua) .nilIface) by rw [hX]; exact HG3.out.set)
                have HBX3 := Lib.hid (show Below w.heap.size w X by rw [hX]; exact HB3.out.setCell (Nat.le_of_lt hz2) _)
                have HAX := Lib.hid (show TreeAt X a W.heap.size v3.heap.size (.iface ta ua) by
                  rw [hX]; exact TreeAt.only (S := fun i => i = v2.heap.size) (Only.cell_ _ _ _ _ rfl) HA.out (fun i h1 _ h2 => by omega))
                have hzX : X.heap.size = v3.heap.size := by rw [hX]; simp
                have HZX := Lib.hid hzX
                have HRX := Lib.hid (show RdN X B A1 r1 by rw [hX]; exact RdK.below HR.out (by omega) ((Below.refl v2.heap.size v3).setCell (Nat.le_refl _) _))
                have hzXw : w.heap.size < X.heap.size := by omega
                have hzX2 : v2.heap.size < X.heap.size := by omega
                rw [← hX]
                clear hX HX hzX k2 f2
                rw [rounds_succ]
                go_wp2_with fail
                refine (ih _ r1.length c1 B r1 _ HRX.out rfl hl1 hc1' hc1m (by omega)).mono ?_
                rintro e v4 ⟨hb4, he⟩
                have HB4 := Lib.hid (HBX3.out.trans (hb4.mono (by omega)))
                have HG4 := Lib.hid (HGX.out.below hb4 hzX2)
                have hz4 : v2.heap.size < v4.heap.size := HG4.out.lt
                have hz4w : w.heap.size < v4.heap.size := by omega
                have HA4 := Lib.hid (TreeAt.below hb4 HAX.out (by have := HZX.out; omega))
                have HZ4 := Lib.hid hb4.size
                clear hb4
                rcases hrb : readT k r1 with _ | ⟨x2, r2⟩ <;> rw [hrb] at he <;> have HRB := Lib.hid hrb <;> clear hrb
                · have he' : e = .returned (.tuple #[.nilIface, .slice none 0 0, .bool false]) := he
                  subst he'
                  clear he
                  go_wp2_with fail
                  refine bodyPost_ret (v := .tuple #[.nilIface, .slice none 0 0, .bool false]) (by simp [results, Try.results98, go_sem]) rfl ⟨HB4.out, ?_⟩
                  rw [HR1.out, HRA.out]; simp only [HRB.out]
                · obtain ⟨vb, A2, c2, he', hbt, hr2, hc2', hc2m⟩ := he
                  subst he'
                  obtain ⟨tb, ub, rfl⟩ := hbt.iface
                  have HBt := Lib.hid hbt
                  have HR2 := Lib.hid hr2
                  clear hbt hr2
                  have k3 : v4.cell? ⟨v2.heap.size, 3, none⟩ = some .nilIface := by rw [HG4.out.cell]; rfl
                  have f3 := HG4.out.free 3
                  go_wp2_with fail
                  have HY := Lib.hid (show ∃ Y, Y = v4.setCell ⟨v2.heap.size, 3, none⟩ (.iface tb ub) from ⟨_, rfl⟩)
                  obtain ⟨Y, hY⟩ := HY.out
                  have HGY := Lib.hid (show RowB Y v2.heap.size (splitC d f (.iface ta ua) (.iface tb ub)) by rw [hY]; exact HG4.out.set)
                  have HBY := Lib.hid (show Below w.heap.size w Y by rw [hY]; exact HB4.out.setCell (Nat.le_of_lt hz2) _)
                  have HAY := Lib.hid (show TreeAt Y a W.heap.size v3.heap.size (.iface ta ua) by
                    rw [hY]; exact TreeAt.only (S := fun i => i = v2.heap.size) (Only.cell_ _ _ _ _ rfl) HA4.out (fun i h1 _ h2 => by omega))
                  have HBYt := Lib.hid (show TreeAt Y x2 X.heap.size v4.heap.size (.iface tb ub) by
                    rw [hY]; exact TreeAt.only (S := fun i => i = v2.heap.size) (Only.cell_ _ _ _ _ rfl) HBt.out (fun i h1 _ h2 => by omega))
                  have HRY := Lib.hid (show RdN Y B A2 r2 by rw [hY]; exact RdK.below HR2.out (by omega) ((Below.refl v2.heap.size v4).setCell (Nat.le_refl _) _))
                  have HZY := Lib.hid (show Y.heap.size = v4.heap.size by rw [hY]; simp)
                  rw [← hY]
                  clear hY HY k3 f3
                  rw [rounds_succ]
                  go_wp2_with fail
                  refine bodyPost_ret (v := .tuple #[ptrV v2.heap.size, .slice A2 r2.length c2, .bool true]) (by simp [results, Try.results98, go_sem]) rfl ⟨HBY.out, ?_⟩
                  rw [HR1.out, HRA.out]; simp only [HRB.out]
                  refine ⟨_, _, _, rfl, ⟨v2.heap.size, v3.heap.size, _, _, rfl, by omega, by omega, ?_, HGY.out, ?_, ?_⟩, HRY.out, hc2', hc2m⟩
                  · have h1 := HZY.out; have h2 := HZX.out; have h3 := HZ4.out; omega
                  · exact HAY.out.mono (by have := HZW.out; omega) (Nat.le_refl _)
                  · exact HBYt.out.mono (by have := HZX.out; omega) (by have := HZY.out; omega)
          · have HRv := Lib.hid (show RdN w B (some ⟨b, o + 3, none⟩) t from HT.out)
            clear HT
            go_enter Try.func98, Try.ntmps98
            go_wp2_with fail
            go_region
            all_goals
              go_wp2_with fail
              refine (isLeaf_any p f d _).mono ?_
              rintro e v1 ⟨rfl, hb1⟩
              rw [HL.out]
              have hbx := undrew hb1
              obtain ⟨hcc, hff⟩ := bcell hbx
              have hz : w.heap.size < v1.heap.size := by have := hbx.size; simp at this; omega
              have HB1 := Lib.hid (HBX.out.trans (hbx.mono (by simp)))
              clear hb1 hbx
              go_wp2_with fail
              refine (isSplit_any p f d _).mono ?_
              rintro e v2 ⟨rfl, hb2⟩
              rw [HS.out]
              have HB2 := Lib.hid (HB1.out.trans (hb2.mono (by omega)))
              obtain ⟨hcc2, hff2⟩ := bcell hb2
              have hz2 : w.heap.size < v2.heap.size := by have := hb2.size; omega
              have hz2n : w.heap.size ≠ v2.heap.size := by omega
              clear hb2
              go_wp2_with fail
              refine wp_loop_rounds 3 ?_
              rw [rounds_succ]
              have HW := Lib.hid (show ∃ W, W = v2.alloc (.cells (splitC d f .nilIface .nilIface) 127) from ⟨_, rfl⟩)
              obtain ⟨W, hW⟩ := HW.out
              have HG := Lib.hid (show RowB W v2.heap.size (splitC d f .nilIface .nilIface) by rw [hW]; exact RowB.new _ _ _)
              have HBW := Lib.hid (show Below w.heap.size w W by rw [hW]; exact HB2.out.alloc (by omega) _)
              have hzW : v2.heap.size < W.heap.size := HG.out.lt
              have hzW1 : W.heap.size = v2.heap.size + 1 := by rw [hW]; simp
              have HZW := Lib.hid hzW1
              clear hzW1
              rw [← hW]
              clear hW HW
              go_wp2_with fail
              refine (ih _ m (c - 1) B t _ (HRv.out.below hB HBW.out) HTL.out (by omega) (by omega) (by unfold maxLen; omega) (by omega)).mono ?_
              rintro e v3 ⟨hb3, he⟩
              have HB3 := Lib.hid (HBW.out.trans (hb3.mono (by omega)))
              have HG3 := Lib.hid (HG.out.below hb3 hzW)
              have hz3 : v2.heap.size < v3.heap.size := HG3.out.lt
              have hz3w : w.heap.size < v3.heap.size := by omega
              have HZ3 := Lib.hid hb3.size
              clear hb3
              rcases hra : readT k t with _ | ⟨a, r1⟩ <;> rw [hra] at he <;> have HRA := Lib.hid hra <;> clear hra
              · have he' : e = .returned (.tuple #[.nilIface, .slice none 0 0, .bool false]) := he
                subst he'
                clear he
                go_wp2_with fail
                refine bodyPost_ret (v := .tuple #[.nilIface, .slice none 0 0, .bool false]) (by simp [results, Try.results98, go_sem]) rfl ⟨HB3.out, ?_⟩
                rw [HR1.out, HRA.out]
              · obtain ⟨va, A1, c1, he', ha, hr1, hc1', hc1m⟩ := he
                subst he'
                obtain ⟨ta, ua, rfl⟩ := ha.iface
                have HA := Lib.hid ha
                have HR := Lib.hid hr1
                have HE1 := Lib.hid (HBT.out a r1 HRA.out).1
                have hl1 : r1.length ≤ k := by
                  have h1 := congrArg List.length HE1.out
                  have h2 := HTL.out
                  rw [List.length_append] at h1; omega
                clear ha hr1
                have k2 : v3.cell? ⟨v2.heap.size, 2, none⟩ = some .nilIface := by rw [HG3.out.cell]; rfl
                have f2 := HG3.out.free 2
                go_wp2_with fail
                have HX := Lib.hid (show ∃ X, X = v3.setCell ⟨v2.heap.size, 2, none⟩ (.iface ta ua) from ⟨_, rfl⟩)
                obtain ⟨X, hX⟩ := HX.out
                have HGX := Lib.hid (show RowB X v2.heap.size (splitC d f (.iface ta ua) .nilIface) by rw [hX]; exact HG3.out.set)
                have HBX3 := Lib.hid (show Below w.heap.size w X by rw [hX]; exact HB3.out.setCell (Nat.le_of_lt hz2) _)
                have HAX := Lib.hid (show TreeAt X a W.heap.size v3.heap.size (.iface ta ua) by
                  rw [hX]; exact TreeAt.only (S := fun i => i = v2.heap.size) (Only.cell_ _ _ _ _ rfl) HA.out (fun i h1 _ h2 => by omega))
                have hzX : X.heap.size = v3.heap.size := by rw [hX]; simp
                have HZX := Lib.hid hzX
                have HRX := Lib.hid (show RdN X B A1 r1 by rw [hX]; exact RdK.below HR.out (by omega) ((Below.refl v2.heap.size v3).setCell (Nat.le_refl _) _))
                have hzXw : w.heap.size < X.heap.size := by omega
                have hzX2 : v2.heap.size < X.heap.size := by omega
                rw [← hX]
                clear hX HX hzX k2 f2
                rw [rounds_succ]
                go_wp2_with fail
                refine (ih _ r1.length c1 B r1 _ HRX.out rfl hl1 hc1' hc1m (by omega)).mono ?_
                rintro e v4 ⟨hb4, he⟩
                have HB4 := Lib.hid (HBX3.out.trans (hb4.mono (by omega)))
                have HG4 := Lib.hid (HGX.out.below hb4 hzX2)
                have hz4 : v2.heap.size < v4.heap.size := HG4.out.lt
                have hz4w : w.heap.size < v4.heap.size := by omega
                have HA4 := Lib.hid (TreeAt.below hb4 HAX.out (by have := HZX.out; omega))
                have HZ4 := Lib.hid hb4.size
                clear hb4
                rcases hrb : readT k r1 with _ | ⟨x2, r2⟩ <;> rw [hrb] at he <;> have HRB := Lib.hid hrb <;> clear hrb
                · have he' : e = .returned (.tuple #[.nilIface, .slice none 0 0, .bool false]) := he
                  subst he'
                  clear he
                  go_wp2_with fail
                  refine bodyPost_ret (v := .tuple #[.nilIface, .slice none 0 0, .bool false]) (by simp [results, Try.results98, go_sem]) rfl ⟨HB4.out, ?_⟩
                  rw [HR1.out, HRA.out]; simp only [HRB.out]
                · obtain ⟨vb, A2, c2, he', hbt, hr2, hc2', hc2m⟩ := he
                  subst he'
                  obtain ⟨tb, ub, rfl⟩ := hbt.iface
                  have HBt := Lib.hid hbt
                  have HR2 := Lib.hid hr2
                  clear hbt hr2
                  have k3 : v4.cell? ⟨v2.heap.size, 3, none⟩ = some .nilIface := by rw [HG4.out.cell]; rfl
                  have f3 := HG4.out.free 3
                  go_wp2_with fail
                  have HY := Lib.hid (show ∃ Y, Y = v4.setCell ⟨v2.heap.size, 3, none⟩ (.iface tb ub) from ⟨_, rfl⟩)
                  obtain ⟨Y, hY⟩ := HY.out
                  have HGY := Lib.hid (show RowB Y v2.heap.size (splitC d f (.iface ta ua) (.iface tb ub)) by rw [hY]; exact HG4.out.set)
                  have HBY := Lib.hid (show Below w.heap.size w Y by rw [hY]; exact HB4.out.setCell (Nat.le_of_lt hz2) _)
                  have HAY := Lib.hid (show TreeAt Y a W.heap.size v3.heap.size (.iface ta ua) by
                    rw [hY]; exact TreeAt.only (S := fun i => i = v2.heap.size) (Only.cell_ _ _ _ _ rfl) HA4.out (fun i h1 _ h2 => by omega))
                  have HBYt := Lib.hid (show TreeAt Y x2 X.heap.size v4.heap.size (.iface tb ub) by
                    rw [hY]; exact TreeAt.only (S := fun i => i = v2.heap.size) (Only.cell_ _ _ _ _ rfl) HBt.out (fun i h1 _ h2 => by omega))
                  have HRY := Lib.hid (show RdN Y B A2 r2 by rw [hY]; exact RdK.below HR2.out (by omega) ((Below.refl v2.heap.size v4).setCell (Nat.le_refl _) _))
                  have HZY := Lib.hid (show Y.heap.size = v4.heap.size by rw [hY]; simp)
                  rw [← hY]
                  clear hY HY k3 f3
                  rw [rounds_succ]
                  go_wp2_with fail
                  refine bodyPost_ret (v := .tuple #[ptrV v2.heap.size, .slice A2 r2.length c2, .bool true]) (by simp [results, Try.results98, go_sem]) rfl ⟨HBY.out, ?_⟩
                  rw [HR1.out, HRA.out]; simp only [HRB.out]
                  refine ⟨_, _, _, rfl, ⟨v2.heap.size, v3.heap.size, _, _, rfl, by omega, by omega, ?_, HGY.out, ?_, ?_⟩, HRY.out, hc2', hc2m⟩
                  · have h1 := HZY.out; have h2 := HZX.out; have h3 := HZ4.out; omega
                  · exact HAY.out.mono (by have := HZW.out; omega) (Nat.le_refl _)
                  · exact HBYt.out.mono (by have := HZX.out; omega) (by have := HZY.out; omega)
      · by_cases hone : c = 1
        · go_enter Try.func98, Try.ntmps98
          go_wp2_with fail
          go_region
          all_goals
            go_wp2_with fail
            refine (isLeaf_any p f d _).mono ?_
            rintro e v1 ⟨rfl, hb1⟩
            rw [HL.out]
            have hbx := undrew hb1
            obtain ⟨hcc, hff⟩ := bcell hbx
            have hz : w.heap.size < v1.heap.size := by have := hbx.size; simp at this; omega
            have HB1 := Lib.hid (HBX.out.trans (hbx.mono (by simp)))
            clear hb1 hbx
            go_wp2_with fail
            refine bodyPost_ret (v := .tuple #[leafV p, .slice (some ⟨b, o, none⟩) m 0, .bool true]) (by simp [results, Try.results98, go_sem]) rfl ⟨HB1.out, ?_⟩
            rw [HRT.out, if_pos HL.out]
            refine ⟨_, some ⟨b, o, none⟩, 0, by rw [HTL.out], rfl, ?_, by have := HTL.out; omega, by unfold maxLen; omega⟩
            have : t = [] := List.length_eq_zero_iff.1 (by have := HTL.out; omega)
            rw [this]; exact RdN.nil
        · go_enter Try.func98, Try.ntmps98
          go_wp2_with fail
          go_region
          all_goals
            go_wp2_with fail
            refine (isLeaf_any p f d _).mono ?_
            rintro e v1 ⟨rfl, hb1⟩
            rw [HL.out]
            have hbx := undrew hb1
            obtain ⟨hcc, hff⟩ := bcell hbx
            have hz : w.heap.size < v1.heap.size := by have := hbx.size; simp at this; omega
            have HB1 := Lib.hid (HBX.out.trans (hbx.mono (by simp)))
            clear hb1 hbx
            go_wp2_with fail
            refine bodyPost_ret (v := .tuple #[leafV p, .slice (some ⟨b, o + 3, none⟩) m (c - 1), .bool true]) (by simp [results, Try.results98, go_sem]) rfl ⟨HB1.out, ?_⟩
            rw [HRT.out, if_pos HL.out]
            refine ⟨_, some ⟨b, o + 3, none⟩, (c - 1), by rw [HTL.out], rfl, ?_, by have := HTL.out; omega, by unfold maxLen; omega⟩
            exact HT.out.below hB HB1.out
end Go.Proofs.Ytgejjdkgeoojmaa.Tr

