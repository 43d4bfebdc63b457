/- The model's Split. -/
import Derived.Test.YtgejjdkgeoojmaaTrSb
import Derived.RegionTactic
import Derived.WalkSpells
namespace Go.Proofs.Ytgejjdkgeoojmaa.Tr
open Go.RowKit Go.Proofs.Ytgejjdkgeoojmaa.Bytes Go.Proofs.Ytgejjdkgeoojmaa.Rows_ Go.Proofs.Ytgejjdkgeoojmaa.RowK Go.Proofs.Ytgejjdkgeoojmaa.DOk Go.Proofs.Ytgejjdkgeoojmaa.Opq
open Tree
set_option linter.unusedVariables false
attribute [local go_sem ↓] Go.wp_at_zero Go.wp_at_succ
theorem splitL_fresh {t : List NodeD} {p fresh n : Int} {d : Bool} {i : Nat} (h : okT (splitL t p fresh d n i) = true) : ¬ fresh = 0 := by
  intro h0
  have := (okT_len h).2 ⟨fresh, false, 0⟩ (by unfold splitL; simp)
  subst h0
  simp [nodeB, leafB, splitB] at this
theorem InN.take {w : World} {B : Nat} {A : Option Addr} {n c : Nat} {t : List NodeD} (h : InN w B A n c t) (i : Nat) (hi : i ≤ n) : InN w B A i c (t.take i) :=
  ⟨by unfold RdN; rw [List.map_take]; exact rdK_take h.rd i, by rw [List.length_take, h.len]; omega, by have := h.cap; omega, h.max, h.base⟩
set_option maxRecDepth 100000 in
set_option maxHeartbeats 3200000 in
theorem spec_Split_true (A : Option Addr) (n c B : Nat) (t : List NodeD) (p fresh : Int) (a b : Int) (w : World) (hi : InN w B A n c t) :
    Calls Try.prog 50 #[.slice A n c, .int .i64 p, .int .i64 fresh, .bool true, .int .i64 a, .int .i64 b] w (NdP w (splitD t p fresh true a b)) := by
  have HI := Lib.hid hi
  clear hi
  have HPO := Lib.hid (fun (W : World) (h : InN W B A n c t) => spec_PlaceOf_any A n c B t a b p W h)
  rcases hp : pofD (listD t a b) p with _ | r
  · have HN := Lib.hid (splitD_none (fresh := fresh) (d := true) hp)
    rw [hp, show (none : Option RectD).isSome = false from rfl] at HPO
    generalize pofR (listD t a b) p = q at HPO
    clear hp
    go_enter Try.func50, Try.ntmps50
    go_wp2_with fail
    refine (HPO.out _ HI.out).mono ?_
    rintro e v1 ⟨rfl, hb1⟩
    have HB1 := Lib.hid hb1
    have hz1 : w.heap.size ≤ v1.heap.size := hb1.size
    clear hb1
    go_wp2_with fail
    exact bodyPost_ret (v := .tuple #[.slice none 0 0, .bool false]) (by simp [results, Try.results50, go_sem]) rfl (NdP.no HN.out (HB1.out.alloc hz1 _))
  · rw [hp, pofR_some hp, show (some r : Option RectD).isSome = true from rfl] at HPO
    obtain ⟨hok, hrb, i, hix⟩ := pof_leaf hp
    have hz120 : r.h ≤ 120 := ext_le true hrb
    by_cases he : r.h < 3
    · have HN := Lib.hid (splitD_small (fresh := fresh) (d := true) hp he)
      clear hp hix hok hrb hz120
      generalize r.h = z at *
      go_enter Try.func50, Try.ntmps50
      go_wp2_with fail
      refine (HPO.out _ HI.out).mono ?_
      rintro e v1 ⟨rfl, hb1⟩
      have HB1 := Lib.hid hb1
      have hz1 : w.heap.size ≤ v1.heap.size := hb1.size
      clear hb1
      go_wp2_with fail
      exact bodyPost_ret (v := .tuple #[.slice none 0 0, .bool false]) (by simp [results, Try.results50, go_sem]) rfl (NdP.no HN.out (HB1.out.alloc hz1 _))
    · have HN := Lib.hid (show splitD t p fresh true a b = if okT (splitL t p fresh true r.h i) = true then some (splitL t p fresh true r.h i) else none from splitD_at (fresh := fresh) (d := true) hp he hix)
      have HLA := Lib.hid (fun (W : World) (h : InN W B A n c t) => l13At_any A n c B t p W h)
      rw [at_same hok, show leafAtV t p = (i : Int) by unfold leafAtV nidxV; rw [hix]] at HLA
      obtain ⟨hil, hti⟩ := nidx_at hix
      have HTI := Lib.hid hti
      have hn31 : n ≤ 31 := by rw [← HI.out.len]; exact (okT_len hok).1
      have hin : i < n := by rw [← HI.out.len]; exact hil
      have hcn : n ≤ c := HI.out.cap
      clear hp hix hok hrb hti
      generalize r.h = z at *
      obtain ⟨m, hm⟩ : ∃ m, m = (z - 1) / 2 := ⟨_, rfl⟩
      have HM := Lib.hid hm
      have m0 : 0 ≤ m := by omega
      have m1 : m ≤ 120 := by omega
      have E2 : Int.tdiv (z - 1) 2 = m := by rw [hm]; exact Int.tdiv_eq_ediv_of_nonneg (by omega)
      clear hm
      have HLN := Lib.hid (show (splitL t p fresh true z i).length = i + 3 + (n - (i + 1)) by unfold splitL; simp [HI.out.len]; omega)
      have HSP := Lib.hid (show splitL t p fresh true z i = t.take i ++ [⟨0, true, m⟩, ⟨p, false, 0⟩, ⟨fresh, false, 0⟩] ++ t.drop (i + 1) by rw [HM.out]; rfl)
      have HFR := Lib.hid (splitL_fresh (t := t) (p := p) (fresh := fresh) (n := z) (d := true) (i := i))
      go_enter Try.func50, Try.ntmps50
      go_wp2_with fail
      refine (HPO.out _ HI.out).mono ?_
      rintro e v1 ⟨rfl, hb1⟩
      have HB1 := Lib.hid hb1
      have hz1 : w.heap.size ≤ v1.heap.size := hb1.size
      clear hb1
      go_wp2_with fail
      have HB2 := Lib.hid (HB1.out.alloc hz1 (.cells #[.int .i64 r.pane, .int .i64 r.x, .int .i64 r.y, .int .i64 r.w, .int .i64 z] 65))
      refine (HLA.out _ (HI.out.below HB2.out)).mono ?_
      rintro e v3 ⟨rfl, hb3⟩
      have HB3 := Lib.hid (HB2.out.trans (hb3.mono HB2.out.size))
      clear hb3
      obtain ⟨bb, o, hAe, _⟩ := (HI.out.below HB3.out).rd.at_ hil
      subst hAe
      have i0 : (0 : Int) ≤ (i : Int) := by omega
      have i1 : (i : Int) < (n : Int) := by omega
      have it : (i : Int).toNat = i := by simp
      have s4 : (i : Int) ≤ (c : Int) := by omega
      go_wp2_with fail
      refine (l13Copy_any _ i c B (t.take i) _ ((HI.out.below HB3.out).take i (by omega)) (fun h => by cases h) (by omega)).mono ?_
      rintro e v4 ⟨A4, c4, rfl, ho4, hb4⟩
      have HB4 := Lib.hid (HB3.out.trans (hb4.mono HB3.out.size))
      have hs4 := HB4.out.size
      have hs34 := hb4.size
      have hs3 := HB3.out.size
      have HIW := Lib.hid (HI.out.below HB4.out)
      obtain ⟨bb', o', hAe, hlt, hc0, hc1, hc2⟩ := HIW.out.rd.at_ hil
      injection hAe with hAe
      injection hAe with e1 e2
      subst e1 e2
      rw [HTI.out] at hc0 hc1 hc2
      simp only at hc0 hc1 hc2
      have HTH := Lib.hid (three_ownN v4 ⟨0, true, m⟩ ⟨p, false, 0⟩ ⟨fresh, false, 0⟩)
      have HB4a := Lib.hid ((Below.refl v4.heap.size v4).alloc (Nat.le_refl _) (.cells #[.int .i64 0, .bool true, .int .i64 m, .int .i64 p, .bool false, .int .i64 0, .int .i64 fresh, .bool false, .int .i64 0] 90))
      have HO4 := Lib.hid (show OwnN (v4.alloc (.cells #[.int .i64 0, .bool true, .int .i64 m, .int .i64 p, .bool false, .int .i64 0, .int .i64 fresh, .bool false, .int .i64 0] 90)) w.heap.size A4 i c4 (t.take i) from (ho4.below (Nat.le_refl _) HB4a.out).more hs3)
      clear ho4 hb4
      go_wp2_with (at_builtin; refine append_rowsT Try.underlying49 infoN rfl (by decide) (by decide) rfl _ _ rfl rfl rfl HO4.out HTH.out.rd (lenN _) (oneN _) (fun h => by cases h) rfl (by omega) (by omega) (by simp; omega) ?_)
      intro A5 c5 w5 ho5 hb5 hg5
      have HO5 := Lib.hid (show OwnN w5 w.heap.size A5 (i + 3) c5 (t.take i ++ [⟨0, true, m⟩, ⟨p, false, 0⟩, ⟨fresh, false, 0⟩]) by unfold OwnN; simpa using ho5)
      have HB5 := Lib.hid ((HB4.out.alloc hs4 _).trans hb5)
      clear ho5 hb5 hg5 HO4 HTH HB4a hc0 hc1 hc2
      have HI5 := Lib.hid (HI.out.below HB5.out)
      have hs5 := HB5.out.size
      have s1 : (0 : Int) ≤ (i : Int) + 1 := by omega
      have s2 : ((i : Int) + 1).toNat = i + 1 := by omega
      have s3 : (i : Int) + 1 ≤ (n : Int) := by omega
      by_cases hci : c = i + 1
      · subst hci
        have hd0 : t.drop (i + 1) = [] := List.drop_of_length_le (by rw [HI.out.len]; omega)
        have HRD := Lib.hid (show RdK 3 w5 B (some ⟨bb, o, none⟩) ((t.drop (i + 1)).map nodeR) by rw [hd0]; intro h; simp at h)
        have HLD := Lib.hid (show ((t.drop (i + 1)).map nodeR).length = 0 by rw [hd0]; rfl)
        have hn0 : n - (i + 1) = 0 := by omega
        go_wp2_with (at_builtin; refine append_rowsT Try.underlying49 infoN rfl (by decide) (by decide) rfl _ _ rfl rfl rfl HO5.out HRD.out (lenN _) (oneN _) (fun h => by cases h) HLD.out (by omega) (by omega) hs5 ?_)
        intro A6 c6 w6 ho6 hb6 hg6
        have HO6 := Lib.hid (show OwnN w6 w.heap.size A6 (splitL t p fresh true z i).length c6 (splitL t p fresh true z i) by
          rw [HLN.out, HSP.out]
          unfold OwnN
          simpa [hn0, hd0] using ho6)
        have HB6 := Lib.hid (HB5.out.trans hb6)
        have HSE := Lib.hid (show i + 3 + 0 = (splitL t p fresh true z i).length by rw [HLN.out]; try omega)
        clear ho6 hb6 hg6 HO5 HSP HLN HRD HLD
        try rw [HSE.out]
        generalize splitL t p fresh true z i = L at *
        go_wp2_with fail
        refine (spec_TreeOk_any A6 _ c6 _ L _ HO6.out.in_).mono ?_
        rintro e v7 ⟨rfl, hb7⟩
        have HB7 := Lib.hid (HB6.out.trans (hb7.mono HB6.out.size))
        have HO7 := Lib.hid (HO6.out.below (Nat.le_refl _) hb7)
        clear hb7
        cases hok2 : okT L <;> have HK := Lib.hid hok2 <;> clear hok2
        · go_wp2_with fail
          exact bodyPost_ret (v := .tuple #[.slice none 0 0, .bool false]) (by simp [results, Try.results50, go_sem]) rfl (NdP.no (by rw [HN.out, if_neg (by rw [HK.out]; simp)]) HB7.out)
        · have hf0 := HFR.out HK.out
          go_wp2_with fail
          refine bodyPost_ret (v := .tuple #[.slice A6 L.length c6, .bool true]) (by simp [results, Try.results50, go_sem]) rfl ⟨HB7.out, ?_⟩
          rw [show splitD t p fresh true a b = some L by rw [HN.out, if_pos HK.out]]
          exact ⟨A6, c6, rfl, HO7.out⟩
      · have HRD := Lib.hid (show RdK 3 w5 B (some ⟨bb, o + (i + 1) * 3, none⟩) ((t.drop (i + 1)).map nodeR) by rw [List.map_drop]; exact rdK_drop HI5.out.rd (i + 1))
        have HLD := Lib.hid (show ((t.drop (i + 1)).map nodeR).length = n - (i + 1) by rw [List.length_map, List.length_drop, HI.out.len])
        go_wp2_with (at_builtin; refine append_rowsT Try.underlying49 infoN rfl (by decide) (by decide) rfl _ _ rfl rfl rfl HO5.out HRD.out (lenN _) (oneN _) (fun h => by cases h) HLD.out (by omega) (by omega) hs5 ?_)
        intro A6 c6 w6 ho6 hb6 hg6
        have HO6 := Lib.hid (show OwnN w6 w.heap.size A6 (splitL t p fresh true z i).length c6 (splitL t p fresh true z i) by
          rw [HLN.out, HSP.out]
          unfold OwnN
          simpa using ho6)
        have HB6 := Lib.hid (HB5.out.trans hb6)
        have HSE := Lib.hid (show i + 3 + (n - (i + 1)) = (splitL t p fresh true z i).length by rw [HLN.out]; try omega)
        clear ho6 hb6 hg6 HO5 HSP HLN HRD HLD
        try rw [HSE.out]
        generalize splitL t p fresh true z i = L at *
        go_wp2_with fail
        refine (spec_TreeOk_any A6 _ c6 _ L _ HO6.out.in_).mono ?_
        rintro e v7 ⟨rfl, hb7⟩
        have HB7 := Lib.hid (HB6.out.trans (hb7.mono HB6.out.size))
        have HO7 := Lib.hid (HO6.out.below (Nat.le_refl _) hb7)
        clear hb7
        cases hok2 : okT L <;> have HK := Lib.hid hok2 <;> clear hok2
        · go_wp2_with fail
          exact bodyPost_ret (v := .tuple #[.slice none 0 0, .bool false]) (by simp [results, Try.results50, go_sem]) rfl (NdP.no (by rw [HN.out, if_neg (by rw [HK.out]; simp)]) HB7.out)
        · have hf0 := HFR.out HK.out
          go_wp2_with fail
          refine bodyPost_ret (v := .tuple #[.slice A6 L.length c6, .bool true]) (by simp [results, Try.results50, go_sem]) rfl ⟨HB7.out, ?_⟩
          rw [show splitD t p fresh true a b = some L by rw [HN.out, if_pos HK.out]]
          exact ⟨A6, c6, rfl, HO7.out⟩
set_option maxRecDepth 100000 in
set_option maxHeartbeats 3200000 in
theorem spec_Split_false (A : Option Addr) (n c B : Nat) (t : List NodeD) (p fresh : Int) (a b : Int) (w : World) (hi : InN w B A n c t) :
    Calls Try.prog 50 #[.slice A n c, .int .i64 p, .int .i64 fresh, .bool false, .int .i64 a, .int .i64 b] w (NdP w (splitD t p fresh false a b)) := by
  have HI := Lib.hid hi
  clear hi
  have HPO := Lib.hid (fun (W : World) (h : InN W B A n c t) => spec_PlaceOf_any A n c B t a b p W h)
  rcases hp : pofD (listD t a b) p with _ | r
  · have HN := Lib.hid (splitD_none (fresh := fresh) (d := false) hp)
    rw [hp, show (none : Option RectD).isSome = false from rfl] at HPO
    generalize pofR (listD t a b) p = q at HPO
    clear hp
    go_enter Try.func50, Try.ntmps50
    go_wp2_with fail
    refine (HPO.out _ HI.out).mono ?_
    rintro e v1 ⟨rfl, hb1⟩
    have HB1 := Lib.hid hb1
    have hz1 : w.heap.size ≤ v1.heap.size := hb1.size
    clear hb1
    go_wp2_with fail
    exact bodyPost_ret (v := .tuple #[.slice none 0 0, .bool false]) (by simp [results, Try.results50, go_sem]) rfl (NdP.no HN.out (HB1.out.alloc hz1 _))
  · rw [hp, pofR_some hp, show (some r : Option RectD).isSome = true from rfl] at HPO
    obtain ⟨hok, hrb, i, hix⟩ := pof_leaf hp
    have hz120 : r.w ≤ 120 := ext_le false hrb
    by_cases he : r.w < 3
    · have HN := Lib.hid (splitD_small (fresh := fresh) (d := false) hp he)
      clear hp hix hok hrb hz120
      generalize r.w = z at *
      go_enter Try.func50, Try.ntmps50
      go_wp2_with fail
      refine (HPO.out _ HI.out).mono ?_
      rintro e v1 ⟨rfl, hb1⟩
      have HB1 := Lib.hid hb1
      have hz1 : w.heap.size ≤ v1.heap.size := hb1.size
      clear hb1
      go_wp2_with fail
      exact bodyPost_ret (v := .tuple #[.slice none 0 0, .bool false]) (by simp [results, Try.results50, go_sem]) rfl (NdP.no HN.out (HB1.out.alloc hz1 _))
    · have HN := Lib.hid (show splitD t p fresh false a b = if okT (splitL t p fresh false r.w i) = true then some (splitL t p fresh false r.w i) else none from splitD_at (fresh := fresh) (d := false) hp he hix)
      have HLA := Lib.hid (fun (W : World) (h : InN W B A n c t) => l13At_any A n c B t p W h)
      rw [at_same hok, show leafAtV t p = (i : Int) by unfold leafAtV nidxV; rw [hix]] at HLA
      obtain ⟨hil, hti⟩ := nidx_at hix
      have HTI := Lib.hid hti
      have hn31 : n ≤ 31 := by rw [← HI.out.len]; exact (okT_len hok).1
      have hin : i < n := by rw [← HI.out.len]; exact hil
      have hcn : n ≤ c := HI.out.cap
      clear hp hix hok hrb hti
      generalize r.w = z at *
      obtain ⟨m, hm⟩ : ∃ m, m = (z - 1) / 2 := ⟨_, rfl⟩
      have HM := Lib.hid hm
      have m0 : 0 ≤ m := by omega
      have m1 : m ≤ 120 := by omega
      have E2 : Int.tdiv (z - 1) 2 = m := by rw [hm]; exact Int.tdiv_eq_ediv_of_nonneg (by omega)
      clear hm
      have HLN := Lib.hid (show (splitL t p fresh false z i).length = i + 3 + (n - (i + 1)) by unfold splitL; simp [HI.out.len]; omega)
      have HSP := Lib.hid (show splitL t p fresh false z i = t.take i ++ [⟨0, false, m⟩, ⟨p, false, 0⟩, ⟨fresh, false, 0⟩] ++ t.drop (i + 1) by rw [HM.out]; rfl)
      have HFR := Lib.hid (splitL_fresh (t := t) (p := p) (fresh := fresh) (n := z) (d := false) (i := i))
      go_enter Try.func50, Try.ntmps50
      go_wp2_with fail
      refine (HPO.out _ HI.out).mono ?_
      rintro e v1 ⟨rfl, hb1⟩
      have HB1 := Lib.hid hb1
      have hz1 : w.heap.size ≤ v1.heap.size := hb1.size
      clear hb1
      go_wp2_with fail
      have HB2 := Lib.hid (HB1.out.alloc hz1 (.cells #[.int .i64 r.pane, .int .i64 r.x, .int .i64 r.y, .int .i64 z, .int .i64 r.h] 65))
      refine (HLA.out _ (HI.out.below HB2.out)).mono ?_
      rintro e v3 ⟨rfl, hb3⟩
      have HB3 := Lib.hid (HB2.out.trans (hb3.mono HB2.out.size))
      clear hb3
      obtain ⟨bb, o, hAe, _⟩ := (HI.out.below HB3.out).rd.at_ hil
      subst hAe
      have i0 : (0 : Int) ≤ (i : Int) := by omega
      have i1 : (i : Int) < (n : Int) := by omega
      have it : (i : Int).toNat = i := by simp
      have s4 : (i : Int) ≤ (c : Int) := by omega
      go_wp2_with fail
      refine (l13Copy_any _ i c B (t.take i) _ ((HI.out.below HB3.out).take i (by omega)) (fun h => by cases h) (by omega)).mono ?_
      rintro e v4 ⟨A4, c4, rfl, ho4, hb4⟩
      have HB4 := Lib.hid (HB3.out.trans (hb4.mono HB3.out.size))
      have hs4 := HB4.out.size
      have hs34 := hb4.size
      have hs3 := HB3.out.size
      have HIW := Lib.hid (HI.out.below HB4.out)
      obtain ⟨bb', o', hAe, hlt, hc0, hc1, hc2⟩ := HIW.out.rd.at_ hil
      injection hAe with hAe
      injection hAe with e1 e2
      subst e1 e2
      rw [HTI.out] at hc0 hc1 hc2
      simp only at hc0 hc1 hc2
      have HTH := Lib.hid (three_ownN v4 ⟨0, false, m⟩ ⟨p, false, 0⟩ ⟨fresh, false, 0⟩)
      have HB4a := Lib.hid ((Below.refl v4.heap.size v4).alloc (Nat.le_refl _) (.cells #[.int .i64 0, .bool false, .int .i64 m, .int .i64 p, .bool false, .int .i64 0, .int .i64 fresh, .bool false, .int .i64 0] 90))
      have HO4 := Lib.hid (show OwnN (v4.alloc (.cells #[.int .i64 0, .bool false, .int .i64 m, .int .i64 p, .bool false, .int .i64 0, .int .i64 fresh, .bool false, .int .i64 0] 90)) w.heap.size A4 i c4 (t.take i) from (ho4.below (Nat.le_refl _) HB4a.out).more hs3)
      clear ho4 hb4
      go_wp2_with (at_builtin; refine append_rowsT Try.underlying49 infoN rfl (by decide) (by decide) rfl _ _ rfl rfl rfl HO4.out HTH.out.rd (lenN _) (oneN _) (fun h => by cases h) rfl (by omega) (by omega) (by simp; omega) ?_)
      intro A5 c5 w5 ho5 hb5 hg5
      have HO5 := Lib.hid (show OwnN w5 w.heap.size A5 (i + 3) c5 (t.take i ++ [⟨0, false, m⟩, ⟨p, false, 0⟩, ⟨fresh, false, 0⟩]) by unfold OwnN; simpa using ho5)
      have HB5 := Lib.hid ((HB4.out.alloc hs4 _).trans hb5)
      clear ho5 hb5 hg5 HO4 HTH HB4a hc0 hc1 hc2
      have HI5 := Lib.hid (HI.out.below HB5.out)
      have hs5 := HB5.out.size
      have s1 : (0 : Int) ≤ (i : Int) + 1 := by omega
      have s2 : ((i : Int) + 1).toNat = i + 1 := by omega
      have s3 : (i : Int) + 1 ≤ (n : Int) := by omega
      by_cases hci : c = i + 1
      · subst hci
        have hd0 : t.drop (i + 1) = [] := List.drop_of_length_le (by rw [HI.out.len]; omega)
        have HRD := Lib.hid (show RdK 3 w5 B (some ⟨bb, o, none⟩) ((t.drop (i + 1)).map nodeR) by rw [hd0]; intro h; simp at h)
        have HLD := Lib.hid (show ((t.drop (i + 1)).map nodeR).length = 0 by rw [hd0]; rfl)
        have hn0 : n - (i + 1) = 0 := by omega
        go_wp2_with (at_builtin; refine append_rowsT Try.underlying49 infoN rfl (by decide) (by decide) rfl _ _ rfl rfl rfl HO5.out HRD.out (lenN _) (oneN _) (fun h => by cases h) HLD.out (by omega) (by omega) hs5 ?_)
        intro A6 c6 w6 ho6 hb6 hg6
        have HO6 := Lib.hid (show OwnN w6 w.heap.size A6 (splitL t p fresh false z i).length c6 (splitL t p fresh false z i) by
          rw [HLN.out, HSP.out]
          unfold OwnN
          simpa [hn0, hd0] using ho6)
        have HB6 := Lib.hid (HB5.out.trans hb6)
        have HSE := Lib.hid (show i + 3 + 0 = (splitL t p fresh false z i).length by rw [HLN.out]; try omega)
        clear ho6 hb6 hg6 HO5 HSP HLN HRD HLD
        try rw [HSE.out]
        generalize splitL t p fresh false z i = L at *
        go_wp2_with fail
        refine (spec_TreeOk_any A6 _ c6 _ L _ HO6.out.in_).mono ?_
        rintro e v7 ⟨rfl, hb7⟩
        have HB7 := Lib.hid (HB6.out.trans (hb7.mono HB6.out.size))
        have HO7 := Lib.hid (HO6.out.below (Nat.le_refl _) hb7)
        clear hb7
        cases hok2 : okT L <;> have HK := Lib.hid hok2 <;> clear hok2
        · go_wp2_with fail
          exact bodyPost_ret (v := .tuple #[.slice none 0 0, .bool false]) (by simp [results, Try.results50, go_sem]) rfl (NdP.no (by rw [HN.out, if_neg (by rw [HK.out]; simp)]) HB7.out)
        · have hf0 := HFR.out HK.out
          go_wp2_with fail
          refine bodyPost_ret (v := .tuple #[.slice A6 L.length c6, .bool true]) (by simp [results, Try.results50, go_sem]) rfl ⟨HB7.out, ?_⟩
          rw [show splitD t p fresh false a b = some L by rw [HN.out, if_pos HK.out]]
          exact ⟨A6, c6, rfl, HO7.out⟩
      · have HRD := Lib.hid (show RdK 3 w5 B (some ⟨bb, o + (i + 1) * 3, none⟩) ((t.drop (i + 1)).map nodeR) by rw [List.map_drop]; exact rdK_drop HI5.out.rd (i + 1))
        have HLD := Lib.hid (show ((t.drop (i + 1)).map nodeR).length = n - (i + 1) by rw [List.length_map, List.length_drop, HI.out.len])
        go_wp2_with (at_builtin; refine append_rowsT Try.underlying49 infoN rfl (by decide) (by decide) rfl _ _ rfl rfl rfl HO5.out HRD.out (lenN _) (oneN _) (fun h => by cases h) HLD.out (by omega) (by omega) hs5 ?_)
        intro A6 c6 w6 ho6 hb6 hg6
        have HO6 := Lib.hid (show OwnN w6 w.heap.size A6 (splitL t p fresh false z i).length c6 (splitL t p fresh false z i) by
          rw [HLN.out, HSP.out]
          unfold OwnN
          simpa using ho6)
        have HB6 := Lib.hid (HB5.out.trans hb6)
        have HSE := Lib.hid (show i + 3 + (n - (i + 1)) = (splitL t p fresh false z i).length by rw [HLN.out]; try omega)
        clear ho6 hb6 hg6 HO5 HSP HLN HRD HLD
        try rw [HSE.out]
        generalize splitL t p fresh false z i = L at *
        go_wp2_with fail
        refine (spec_TreeOk_any A6 _ c6 _ L _ HO6.out.in_).mono ?_
        rintro e v7 ⟨rfl, hb7⟩
        have HB7 := Lib.hid (HB6.out.trans (hb7.mono HB6.out.size))
        have HO7 := Lib.hid (HO6.out.below (Nat.le_refl _) hb7)
        clear hb7
        cases hok2 : okT L <;> have HK := Lib.hid hok2 <;> clear hok2
        · go_wp2_with fail
          exact bodyPost_ret (v := .tuple #[.slice none 0 0, .bool false]) (by simp [results, Try.results50, go_sem]) rfl (NdP.no (by rw [HN.out, if_neg (by rw [HK.out]; simp)]) HB7.out)
        · have hf0 := HFR.out HK.out
          go_wp2_with fail
          refine bodyPost_ret (v := .tuple #[.slice A6 L.length c6, .bool true]) (by simp [results, Try.results50, go_sem]) rfl ⟨HB7.out, ?_⟩
          rw [show splitD t p fresh false a b = some L by rw [HN.out, if_pos HK.out]]
          exact ⟨A6, c6, rfl, HO7.out⟩
theorem spec_Split_any (A : Option Addr) (n c B : Nat) (t : List NodeD) (p fresh : Int) (d : Bool) (a b : Int) (w : World) (hi : InN w B A n c t) :
    Calls Try.prog 50 #[.slice A n c, .int .i64 p, .int .i64 fresh, .bool d, .int .i64 a, .int .i64 b] w (NdP w (splitD t p fresh d a b)) := by
  cases d
  · exact spec_Split_false A n c B t p fresh a b w hi
  · exact spec_Split_true A n c B t p fresh a b w hi
end Go.Proofs.Ytgejjdkgeoojmaa.Tr

