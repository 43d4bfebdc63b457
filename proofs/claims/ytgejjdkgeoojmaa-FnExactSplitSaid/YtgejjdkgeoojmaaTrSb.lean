/- Split in the program. -/
import Derived.Test.YtgejjdkgeoojmaaTrSa
import Derived.StillTailTactics
import Derived.IntWalk
namespace Go.Proofs.Ytgejjdkgeoojmaa.Tr
open Go.RowKit Go.Proofs.Ytgejjdkgeoojmaa.Bytes Go.Proofs.Ytgejjdkgeoojmaa.Rows_ Go.Proofs.Ytgejjdkgeoojmaa.RowK Go.Proofs.Ytgejjdkgeoojmaa.DOk Go.Proofs.Ytgejjdkgeoojmaa.Opq
open Tree
set_option linter.unusedVariables false
attribute [local go_sem ↓] Go.wp_at_zero Go.wp_at_succ
theorem splitD_none {t : List NodeD} {p fresh a b : Int} {d : Bool} (h : pofD (listD t a b) p = none) : splitD t p fresh d a b = none := by
  unfold splitD; rw [h]
theorem splitD_small {t : List NodeD} {p fresh a b : Int} {d : Bool} {r : RectD} (h : pofD (listD t a b) p = some r) (he : ext d r < 3) : splitD t p fresh d a b = none := by
  unfold splitD; rw [h]; simp only; rw [if_pos he]
theorem splitD_at {t : List NodeD} {p fresh a b : Int} {d : Bool} {r : RectD} {i : Nat} (h : pofD (listD t a b) p = some r) (he : ¬ ext d r < 3) (hi : nidx t ⟨p, false, 0⟩ = some i) :
    splitD t p fresh d a b = if okT (splitL t p fresh d (ext d r) i) = true then some (splitL t p fresh d (ext d r) i) else none := by
  unfold splitD; rw [h]; simp only; rw [if_neg he, hi]
theorem ext_le {r : RectD} (d : Bool) (h : RB r) : ext d r ≤ 120 := by
  obtain ⟨h1, h2, h3, h4, h5, h6⟩ := h
  unfold ext; split <;> omega
theorem pofR_some {zs : List RectD} {p : Int} {r : RectD} (h : pofD zs p = some r) : pofR zs p = r := by
  unfold pofR; rw [h]; rfl
set_option maxRecDepth 100000 in
set_option maxHeartbeats 3200000 in
theorem impl_Split_any (A : Option Addr) (n c B : Nat) (t : List NodeD) (p fresh : Int) (d : Bool) (a b : Int) (w : World) (hi : InN w B A n c t) :
    Calls Try.prog 51 #[.slice A n c, .int .i64 p, .int .i64 fresh, .bool d, .int .i64 a, .int .i64 b] w (NdP w (splitD t p fresh d a b)) := by
  have HI := Lib.hid hi
  clear hi
  have HPO := Lib.hid (fun (W : World) (h : InN W B A n c t) => impl_PlaceOf_any A n c B t a b p W h)
  rcases hp : pofD (listD t a b) p with _ | r
  · have HN := Lib.hid (splitD_none (fresh := fresh) (d := d) hp)
    rw [hp, show (none : Option RectD).isSome = false from rfl] at HPO
    generalize pofR (listD t a b) p = q at HPO
    clear hp
    go_enter Try.func51, Try.ntmps51
    go_wp2_with fail
    refine (HPO.out _ HI.out).mono ?_
    rintro e v1 ⟨rfl, hb1⟩
    have HB1 := Lib.hid hb1
    have hz1 : w.heap.size ≤ v1.heap.size := hb1.size
    clear hb1
    go_wp2_with fail
    refine (extent_any d q.pane q.x q.y q.w q.h _).mono ?_
    generalize (if d = true then q.h else q.w) = z
    rintro e v2 ⟨rfl, hb2⟩
    have HB2 := Lib.hid ((HB1.out.alloc hz1 _).trans (hb2.mono (by simp; omega)))
    clear hb2
    go_wp2_with fail
    exact bodyPost_ret (v := .tuple #[.slice none 0 0, .bool false]) (by simp [results, Try.results51, go_sem]) rfl (NdP.no HN.out HB2.out)
  · rw [hp, pofR_some hp, show (some r : Option RectD).isSome = true from rfl] at HPO
    have HE := Lib.hid (fun (W : World) => show Calls Try.prog 86 #[.agg #[.int .i64 r.pane, .int .i64 r.x, .int .i64 r.y, .int .i64 r.w, .int .i64 r.h], .bool d] W (fun e w' => e = .returned (.int .i64 (ext d r)) ∧ Below W.heap.size W w') from extent_any d r.pane r.x r.y r.w r.h W)
    obtain ⟨hok, hrb, i, hix⟩ := pof_leaf hp
    have hz120 := ext_le d hrb
    by_cases he : ext d r < 3
    · have HN := Lib.hid (splitD_small (fresh := fresh) hp he)
      clear hp hix hok hrb hz120
      generalize ext d r = z at *
      go_enter Try.func51, Try.ntmps51
      go_wp2_with fail
      refine (HPO.out _ HI.out).mono ?_
      rintro e v1 ⟨rfl, hb1⟩
      have HB1 := Lib.hid hb1
      have hz1 : w.heap.size ≤ v1.heap.size := hb1.size
      clear hb1
      go_wp2_with fail
      refine (HE.out _).mono ?_
      rintro e v2 ⟨rfl, hb2⟩
      have HB2 := Lib.hid ((HB1.out.alloc hz1 _).trans (hb2.mono (by simp; omega)))
      clear hb2
      go_wp2_with fail
      exact bodyPost_ret (v := .tuple #[.slice none 0 0, .bool false]) (by simp [results, Try.results51, go_sem]) rfl (NdP.no HN.out HB2.out)
    · have HN := Lib.hid (splitD_at (fresh := fresh) hp he hix)
      have HLA := Lib.hid (fun (W : World) (h : InN W B A n c t) => leafAt_any A n c B t p W h)
      rw [show leafAtV t p = (i : Int) by unfold leafAtV nidxV; rw [hix]] at HLA
      obtain ⟨hil, hti⟩ := nidx_at hix
      have HTI := Lib.hid hti
      have hn31 : n ≤ 31 := by rw [← HI.out.len]; exact (okT_len hok).1
      have hin : i < n := by rw [← HI.out.len]; exact hil
      clear hp hix hok hrb hti
      generalize ext d r = z at *
      obtain ⟨m, hm⟩ : ∃ m, m = (z - 1) / 2 := ⟨_, rfl⟩
      have HM := Lib.hid hm
      have m0 : 0 ≤ m := by omega
      have m1 : m ≤ 120 := by omega
      have E2 : Int.tdiv (z - 1) 2 = m := by rw [hm]; exact Int.tdiv_eq_ediv_of_nonneg (by omega)
      clear hm
      go_enter Try.func51, Try.ntmps51
      go_wp2_with fail
      refine (HPO.out _ HI.out).mono ?_
      rintro e v1 ⟨rfl, hb1⟩
      have HB1 := Lib.hid hb1
      have hz1 : w.heap.size ≤ v1.heap.size := hb1.size
      clear hb1
      go_wp2_with fail
      refine (HE.out _).mono ?_
      rintro e v2 ⟨rfl, hb2⟩
      have HB2 := Lib.hid ((HB1.out.alloc hz1 _).trans (hb2.mono (by simp; omega)))
      clear hb2
      go_wp2_with fail
      refine (HLA.out _ (HI.out.below HB2.out)).mono ?_
      rintro e v3 ⟨rfl, hb3⟩
      have HB3 := Lib.hid (HB2.out.trans (hb3.mono HB2.out.size))
      clear hb3
      obtain ⟨bb, o, hAe, hlt, hc0, hc1, hc2⟩ := (HI.out.below HB3.out).rd.at_ hil
      rw [HTI.out] at hc0 hc1 hc2
      simp only at hc0 hc1 hc2
      subst hAe
      have i0 : (0 : Int) ≤ (i : Int) := by omega
      have i1 : (i : Int) < (n : Int) := by omega
      have it : (i : Int).toNat = i := by simp
      go_upto_region 7 with fail
      have s0 : IntKind.i64.wrap ((i : Int) + 1) = (i : Int) + 1 := IntWalk.i64_in _ (by omega)
      have s1 : (0 : Int) ≤ (i : Int) + 1 := by omega
      have s2 : ((i : Int) + 1).toNat = i + 1 := by omega
      have s3 : (i : Int) + 1 ≤ (n : Int) := by omega
      have s4 : (i : Int) ≤ (c : Int) := by have := HI.out.cap; omega
      obtain ⟨W, hW⟩ : ∃ W, W = v3.alloc (.cells #[.int .i64 0, .bool d, .int .i64 m, .int .i64 p, .bool false, .int .i64 0, .int .i64 fresh, .bool false, .int .i64 0] 90) := ⟨_, rfl⟩
      have HW := Lib.hid hW
      rw [← hW]
      clear hW
      go_still_tail 8, (by kernel_rfl)
      change wpList _ _ _ _ _ W.drew
      generalize hW2 : W.drew = W2
      have HO3 := Lib.hid (show OwnN W2 v3.heap.size (some ⟨v3.heap.size, 0, none⟩) 3 3 [⟨0, d, m⟩, ⟨p, false, 0⟩, ⟨fresh, false, 0⟩] by rw [← hW2, HW.out]; exact OwnN.drew (three_ownN v3 ⟨0, d, m⟩ ⟨p, false, 0⟩ ⟨fresh, false, 0⟩))
      have HB3W := Lib.hid (show Below v3.heap.size v3 W2 by rw [← hW2, HW.out]; exact Below.drew ((Below.refl _ _).alloc (Nat.le_refl _) _))
      clear hW2 HW
      have HBW := Lib.hid (HB3.out.trans (HB3W.out.mono HB3.out.size))
      have HIW := Lib.hid (HI.out.below HBW.out)
      have hsz := HBW.out.size
      have hBs := HIW.out.base
      have HLN := Lib.hid (show (splitL t p fresh d z i).length = i + 3 + (n - (i + 1)) by unfold splitL; simp [HI.out.len]; omega)
      have HSP := Lib.hid (show splitL t p fresh d z i = t.take i ++ [⟨0, d, m⟩, ⟨p, false, 0⟩, ⟨fresh, false, 0⟩] ++ t.drop (i + 1) by rw [HM.out]; rfl)
      have hcap := HIW.out.cap
      by_cases hci : c = i + 1
      · subst hci
        have hd0 : t.drop (i + 1) = [] := List.drop_of_length_le (by rw [HI.out.len]; omega)
        have HP := Lib.hid (parts3 W2
          (okPartN (A := some ⟨bb, o, none⟩) (n := i) (c := i + 1) (cs := t.take i) (by unfold RdN; rw [List.map_take]; exact (rdK_take HIW.out.rd i).more hBs) (by rw [List.length_take, HI.out.len]; omega) (fun h => by cases h) (by omega))
          (okPartN HO3.out.rd HO3.out.len HO3.out.none_ (by omega))
          (okPartN (A := some ⟨bb, o, none⟩) (n := 0) (c := 0) (cs := t.drop (i + 1)) (by rw [hd0]; intro h; simp at h) (by rw [hd0]; rfl) (fun h => by cases h) (by omega)))
        go_wp2_with fail
        refine (concatN_any _ 3 3 _ _ HP.out rfl (by omega) (fun h => by cases h)).mono ?_
        rintro e v4 ⟨A4, c4, rfl, ho4, hb4⟩
        have HO4 := Lib.hid (show OwnN v4 _ A4 (splitL t p fresh d z i).length c4 (splitL t p fresh d z i) by
          rw [HSP.out]
          exact own3 (by rw [List.length_take, HI.out.len]; omega) rfl (by rw [hd0]; rfl) ho4)
        have HB4 := Lib.hid ((HBW.out.alloc hsz _).trans (hb4.mono (by simp; omega)))
        have hz4 : w.heap.size ≤ (W2.alloc (.cells #[.slice (some ⟨bb, o, none⟩) i (i + 1), .slice (some ⟨v3.heap.size, 0, none⟩) 3 3, .slice (some ⟨bb, o, none⟩) 0 0] 49)).heap.size := by simp; omega
        have HO4' := Lib.hid (HO4.out.more (base' := w.heap.size) hz4)
        have HSE := Lib.hid (show sumN [⟨some ⟨bb, o, none⟩, i, i + 1, (t.take i).map nodeR⟩, ⟨some ⟨v3.heap.size, 0, none⟩, 3, 3, List.map nodeR [⟨0, d, m⟩, ⟨p, false, 0⟩, ⟨fresh, false, 0⟩]⟩, ⟨some ⟨bb, o, none⟩, 0, 0, (t.drop (i + 1)).map nodeR⟩] = (splitL t p fresh d z i).length by rw [HLN.out]; simp [sumN]; omega)
        clear ho4 hb4 hz4 HO4 HSP HLN HP
        rw [HSE.out]
        generalize splitL t p fresh d z i = L at *
        go_wp2_with fail
        refine (impl_TreeOk_any A4 _ c4 _ L _ HO4'.out.in_).mono ?_
        rintro e v5 ⟨rfl, hb5⟩
        have HB5 := Lib.hid (HB4.out.trans (hb5.mono HB4.out.size))
        have HO5 := Lib.hid (HO4'.out.below (Nat.le_refl _) hb5)
        clear hb5
        cases hok2 : okT L <;> have HK := Lib.hid hok2 <;> clear hok2
        · go_wp2_with fail
          exact bodyPost_ret (v := .tuple #[.slice none 0 0, .bool false]) (by simp [results, Try.results51, go_sem]) rfl (NdP.no (by rw [HN.out, if_neg (by rw [HK.out]; simp)]) HB5.out)
        · go_wp2_with fail
          refine bodyPost_ret (v := .tuple #[.slice A4 L.length c4, .bool true]) (by simp [results, Try.results51, go_sem]) rfl ⟨HB5.out, ?_⟩
          rw [show splitD t p fresh d a b = some L by rw [HN.out, if_pos HK.out]]
          exact ⟨A4, c4, rfl, HO5.out⟩
      · have HP := Lib.hid (parts3 W2
          (okPartN (A := some ⟨bb, o, none⟩) (n := i) (c := c) (cs := t.take i) (by unfold RdN; rw [List.map_take]; exact (rdK_take HIW.out.rd i).more hBs) (by rw [List.length_take, HI.out.len]; omega) (fun h => by cases h) (by omega))
          (okPartN HO3.out.rd HO3.out.len HO3.out.none_ (by omega))
          (okPartN (A := some ⟨bb, o + (i + 1) * 3, none⟩) (n := n - (i + 1)) (c := c - (i + 1)) (cs := t.drop (i + 1)) (by unfold RdN; rw [List.map_drop]; exact (rdK_drop HIW.out.rd (i + 1)).more hBs) (by rw [List.length_drop, HI.out.len]) (fun h => by cases h) (by omega)))
        go_wp2_with fail
        refine (concatN_any _ 3 3 _ _ HP.out rfl (by omega) (fun h => by cases h)).mono ?_
        rintro e v4 ⟨A4, c4, rfl, ho4, hb4⟩
        have HO4 := Lib.hid (show OwnN v4 _ A4 (splitL t p fresh d z i).length c4 (splitL t p fresh d z i) by
          rw [HSP.out]
          exact own3 (by rw [List.length_take, HI.out.len]; omega) rfl (by rw [List.length_drop, HI.out.len]) ho4)
        have HB4 := Lib.hid ((HBW.out.alloc hsz _).trans (hb4.mono (by simp; omega)))
        have hz4 : w.heap.size ≤ (W2.alloc (.cells #[.slice (some ⟨bb, o, none⟩) i c, .slice (some ⟨v3.heap.size, 0, none⟩) 3 3, .slice (some ⟨bb, o + (i + 1) * 3, none⟩) (n - (i + 1)) (c - (i + 1))] 49)).heap.size := by simp; omega
        have HO4' := Lib.hid (HO4.out.more (base' := w.heap.size) hz4)
        have HSE := Lib.hid (show sumN [⟨some ⟨bb, o, none⟩, i, c, (t.take i).map nodeR⟩, ⟨some ⟨v3.heap.size, 0, none⟩, 3, 3, List.map nodeR [⟨0, d, m⟩, ⟨p, false, 0⟩, ⟨fresh, false, 0⟩]⟩, ⟨some ⟨bb, o + (i + 1) * 3, none⟩, n - (i + 1), c - (i + 1), (t.drop (i + 1)).map nodeR⟩] = (splitL t p fresh d z i).length by rw [HLN.out]; simp [sumN]; omega)
        clear ho4 hb4 hz4 HO4 HSP HLN HP
        rw [HSE.out]
        generalize splitL t p fresh d z i = L at *
        go_wp2_with fail
        refine (impl_TreeOk_any A4 _ c4 _ L _ HO4'.out.in_).mono ?_
        rintro e v5 ⟨rfl, hb5⟩
        have HB5 := Lib.hid (HB4.out.trans (hb5.mono HB4.out.size))
        have HO5 := Lib.hid (HO4'.out.below (Nat.le_refl _) hb5)
        clear hb5
        cases hok2 : okT L <;> have HK := Lib.hid hok2 <;> clear hok2
        · go_wp2_with fail
          exact bodyPost_ret (v := .tuple #[.slice none 0 0, .bool false]) (by simp [results, Try.results51, go_sem]) rfl (NdP.no (by rw [HN.out, if_neg (by rw [HK.out]; simp)]) HB5.out)
        · go_wp2_with fail
          refine bodyPost_ret (v := .tuple #[.slice A4 L.length c4, .bool true]) (by simp [results, Try.results51, go_sem]) rfl ⟨HB5.out, ?_⟩
          rw [show splitD t p fresh d a b = some L by rw [HN.out, if_pos HK.out]]
          exact ⟨A4, c4, rfl, HO5.out⟩
end Go.Proofs.Ytgejjdkgeoojmaa.Tr

