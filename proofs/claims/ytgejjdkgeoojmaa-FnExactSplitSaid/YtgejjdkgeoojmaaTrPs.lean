/- impl.Places; the model's l13First. -/
import Derived.Test.YtgejjdkgeoojmaaTrPl
namespace Go.Proofs.Ytgejjdkgeoojmaa.Tr
open Go.RowKit Go.Proofs.Ytgejjdkgeoojmaa.Bytes Go.Proofs.Ytgejjdkgeoojmaa.Rows_ Go.Proofs.Ytgejjdkgeoojmaa.RowK Go.Proofs.Ytgejjdkgeoojmaa.Opq
open Tree
set_option linter.unusedVariables false
attribute [local go_sem ↓] Go.wp_at_zero Go.wp_at_succ
theorem placesD_none_tree {t : List NodeD} {a b : Int} (h : treeD t = none) : placesD t a b = none := by unfold placesD; rw [h]
theorem sideB_iff (n : Int) : sideB n = true ↔ 1 ≤ n ∧ n ≤ 120 := by simp [sideB]
theorem placesD_side {t : List NodeD} {x : Tree} {a b : Int} (h : treeD t = some x) (hs : ¬ (sideB a = true ∧ sideB b = true)) : placesD t a b = none := by
  unfold placesD; rw [h]; simp only; rw [if_neg (by rw [← sideB_iff, ← sideB_iff]; exact hs)]
theorem placesD_yes {t : List NodeD} {x : Tree} {a b : Int} (h : treeD t = some x) (h1 : sideB a = true) (h2 : sideB b = true) : placesD t a b = placeT x ⟨0, 0, 0, a, b⟩ := by
  unfold placesD; rw [h]; simp only; rw [if_pos (by rw [← sideB_iff, ← sideB_iff]; exact ⟨h1, h2⟩)]
set_option maxRecDepth 100000 in
set_option maxHeartbeats 3200000 in
theorem impl_Places_any (A : Option Addr) (n c B : Nat) (t : List NodeD) (a b : Int) (w : World) (hi : InN w B A n c t) :
    Calls Try.prog 43 #[.slice A n c, .int .i64 a, .int .i64 b] w (PlP w (placesD t a b)) := by
  have HI := Lib.hid hi
  clear hi
  rcases ht : treeD t with _ | x <;> have HT := Lib.hid ht <;> clear ht
  · have HN := Lib.hid (placesD_none_tree (a := a) (b := b) HT.out)
    go_enter Try.func43, Try.ntmps43
    go_wp2_with fail
    refine (treeOf_any A n c B t _ HI.out).mono ?_
    rintro e v1 ⟨hb1, he⟩
    have HB1 := Lib.hid hb1
    clear hb1
    rw [HT.out] at he
    have he' : e = .returned (.tuple #[.nilIface, .bool false]) := he
    subst he'
    clear he
    go_wp2_with fail
    exact bodyPost_ret (v := .tuple #[.slice none 0 0, .bool false]) (by simp [results, Try.results43, go_sem]) rfl (PlP.no HN.out HB1.out)
  · have hlen := (treeD_len HT.out).2.1
    have hok := (treeD_some.1 HT.out).2.1
    cases hs1 : sideB a <;> have HS1 := Lib.hid hs1 <;> clear hs1
    · have HN := Lib.hid (placesD_side (a := a) (b := b) HT.out (fun h => by rw [HS1.out] at h; cases h.1))
      go_enter Try.func43, Try.ntmps43
      go_wp2_with fail
      refine (treeOf_any A n c B t _ HI.out).mono ?_
      rintro e v1 ⟨hb1, he⟩
      have HB1 := Lib.hid hb1
      clear hb1
      rw [HT.out] at he
      obtain ⟨v, he', ha⟩ := he
      subst he'
      clear ha
      go_wp2_with (go_at_call 81; refine (isSide_any a _).mono ?_; rintro e v2 ⟨rfl, rfl⟩; rw [HS1.out])
      exact bodyPost_ret (v := .tuple #[.slice none 0 0, .bool false]) (by simp [results, Try.results43, go_sem]) rfl (PlP.no HN.out HB1.out)
    · cases hs2 : sideB b <;> have HS2 := Lib.hid hs2 <;> clear hs2
      · have HN := Lib.hid (placesD_side (a := a) (b := b) HT.out (fun h => by rw [HS2.out] at h; cases h.2))
        go_enter Try.func43, Try.ntmps43
        go_wp2_with fail
        refine (treeOf_any A n c B t _ HI.out).mono ?_
        rintro e v1 ⟨hb1, he⟩
        have HB1 := Lib.hid hb1
        clear hb1
        rw [HT.out] at he
        obtain ⟨v, he', ha⟩ := he
        subst he'
        clear ha
        go_wp2_with fail
        refine (isSide_any a _).mono ?_
        rintro e v2 ⟨rfl, rfl⟩
        rw [HS1.out]
        go_wp2_with fail
        refine (isSide_any b _).mono ?_
        rintro e v2 ⟨rfl, rfl⟩
        rw [HS2.out]
        go_wp2_with fail
        exact bodyPost_ret (v := .tuple #[.slice none 0 0, .bool false]) (by simp [results, Try.results43, go_sem]) rfl (PlP.no HN.out HB1.out)
      · have HN := Lib.hid (placesD_yes (a := a) (b := b) HT.out HS1.out HS2.out)
        have h1 := (sideB_iff a).1 HS1.out
        have h2 := (sideB_iff b).1 HS2.out
        have HRB := Lib.hid (show RB ⟨0, 0, 0, a, b⟩ by simp [RB]; omega)
        go_enter Try.func43, Try.ntmps43
        go_wp2_with fail
        refine (treeOf_any A n c B t _ HI.out).mono ?_
        rintro e v1 ⟨hb1, he⟩
        have HB1 := Lib.hid hb1
        clear hb1
        rw [HT.out] at he
        obtain ⟨v, he', ha⟩ := he
        subst he'
        have HA := Lib.hid ha
        clear ha
        go_wp2_with fail
        refine (isSide_any a _).mono ?_
        rintro e v2 ⟨rfl, rfl⟩
        rw [HS1.out]
        go_wp2_with fail
        refine (isSide_any b _).mono ?_
        rintro e v2 ⟨rfl, rfl⟩
        rw [HS2.out]
        go_wp2_with fail
        refine (placesIn_any x ⟨0, 0, 0, a, b⟩ _ _ v _ HA.out (Nat.le_refl _) hok (by omega) HRB.out).mono ?_
        rintro e v3 ⟨hb3, he⟩
        have HB3 := Lib.hid (HB1.out.trans (hb3.mono HB1.out.size))
        have hs1 := HB1.out.size
        clear hb3
        rcases hp : placeT x ⟨0, 0, 0, a, b⟩ with _ | zs <;> rw [hp] at he <;> have HP := Lib.hid hp <;> clear hp
        · have he' : e = .returned (.tuple #[.slice none 0 0, .bool false]) := he
          subst he'
          clear he
          go_wp2_with fail
          exact bodyPost_ret (v := .tuple #[.slice none 0 0, .bool false]) (by simp [results, Try.results43, go_sem]) rfl (PlP.no (HN.out.trans HP.out) HB3.out)
        · obtain ⟨A3, c3, he', ho3⟩ := he
          subst he'
          have HO3 := Lib.hid ho3
          clear ho3
          go_wp2_with fail
          refine bodyPost_ret (v := .tuple #[.slice A3 zs.length c3, .bool true]) (by simp [results, Try.results43, go_sem]) rfl ⟨HB3.out, ?_⟩
          rw [HN.out, HP.out]
          exact ⟨A3, c3, rfl, HO3.out.more hs1⟩
set_option maxRecDepth 100000 in
set_option maxHeartbeats 3200000 in
theorem l13First_any (f n : Int) (w : World) (h1 : -1000000 ≤ n) (h2 : n ≤ 1000000) :
    Calls Try.prog 101 #[.int .i64 f, .int .i64 n] w fun e w' => e = .returned (.int .i64 (shareD f n)) ∧ w = w' := by
  by_cases hle : f ≤ n - 2
  · have HE := Lib.hid (show shareD f n = f by unfold shareD; rw [if_pos hle])
    have hg : ¬ (f > n - 2) := by omega
    go_enter Try.func101, Try.ntmps101
    go_wp2_with fail
    go_ret
    exact ⟨ret_int HE.out.symm, rfl⟩
  · have HE := Lib.hid (show shareD f n = n - 2 by unfold shareD; rw [if_neg hle])
    have hg : f > n - 2 := by omega
    go_enter Try.func101, Try.ntmps101
    go_wp2_with fail
    go_ret
    exact ⟨ret_int HE.out.symm, rfl⟩
end Go.Proofs.Ytgejjdkgeoojmaa.Tr

