/- The model's Swap. -/
import Derived.Test.YtgejjdkgeoojmaaTrSx
namespace Go.Proofs.Ytgejjdkgeoojmaa.Tr
open Go.RowKit Go.Proofs.Ytgejjdkgeoojmaa.Bytes Go.Proofs.Ytgejjdkgeoojmaa.Rows_ Go.Proofs.Ytgejjdkgeoojmaa.RowK Go.Proofs.Ytgejjdkgeoojmaa.DOk Go.Proofs.Ytgejjdkgeoojmaa.Opq
open Tree
set_option linter.unusedVariables false
theorem OwnN.setPane {w : World} {base g n c : Nat} {cs : List NodeD} (h : OwnN w base (some ⟨g, 0, none⟩) n c cs) (i : Nat) (hi : i < n) (hi' : i < cs.length) (p : Int) (x : NodeD) (hx : x = ⟨p, cs[i].down, cs[i].first⟩) :
    OwnN (w.setCell ⟨g, i * 3, none⟩ (.int .i64 p)) base (some ⟨g, 0, none⟩) n c (cs.set i x) := by
  have e : cs = cs.take i ++ [cs[i]] ++ cs.drop (i + 1) := by rw [List.append_assoc, List.singleton_append, ← List.drop_eq_getElem_cons hi', List.take_append_drop]
  have e2 : cs.set i x = cs.take i ++ [x] ++ cs.drop (i + 1) := by rw [List.set_eq_take_append_cons_drop, if_pos hi']; simp
  unfold OwnN at h ⊢
  rw [e, List.map_append, List.map_append] at h
  rw [e2, List.map_append, List.map_append, hx]
  exact rowJ (K := 3) (z := nodeR cs[i]) rfl (lenN _) i (by rw [List.length_map, List.length_take]; omega) 0 (by omega) (.int .i64 p) h
set_option maxRecDepth 100000 in
set_option maxHeartbeats 3200000 in
theorem spec_Swap_any (A : Option Addr) (n c B : Nat) (t : List NodeD) (a b : Int) (w : World) (hi : InN w B A n c t) :
    Calls Try.prog 53 #[.slice A n c, .int .i64 a, .int .i64 b] w (NdP w (swapD t a b)) := by
  have HI := Lib.hid hi
  clear hi
  have HL1 := Lib.hid (fun (W : World) (h : InN W B A n c t) => l13At_any A n c B t a W h)
  have HL2 := Lib.hid (fun (W : World) (h : InN W B A n c t) => l13At_any A n c B t b W h)
  have HSD := Lib.hid (show swapD t a b = _ from rfl : swapD t a b = if okT t = true then
    match nidx t ⟨a, false, 0⟩, nidx t ⟨b, false, 0⟩ with
    | some i, some k => some ((t.set i ⟨b, false, 0⟩).set k ⟨a, false, 0⟩)
    | _, _ => none
    else none)
  cases hok : okT t <;> have HOK := Lib.hid hok <;> clear hok
  · have HN := Lib.hid (show swapD t a b = none by rw [HSD.out, if_neg (by rw [HOK.out]; simp)])
    generalize atV t a = za at HL1
    generalize atV t b = zb at HL2
    go_enter Try.func53, Try.ntmps53
    go_wp2_with fail
    refine (HL1.out _ HI.out).mono ?_
    rintro e v1 ⟨rfl, hb1⟩
    have HB1 := Lib.hid hb1
    clear hb1
    go_wp2_with fail
    refine (HL2.out _ (HI.out.below HB1.out)).mono ?_
    rintro e v2 ⟨rfl, hb2⟩
    have HB2 := Lib.hid (HB1.out.trans (hb2.mono HB1.out.size))
    clear hb2
    go_wp2_with fail
    refine (spec_TreeOk_any A n c B t _ (HI.out.below HB2.out)).mono ?_
    rintro e v3 ⟨rfl, hb3⟩
    rw [HOK.out]
    have HB3 := Lib.hid (HB2.out.trans (hb3.mono HB2.out.size))
    clear hb3
    go_wp2_with fail
    exact bodyPost_ret (v := .tuple #[.slice none 0 0, .bool false]) (by simp [results, Try.results53, go_sem]) rfl (NdP.no HN.out HB3.out)
  · rw [at_same HOK.out] at HL1 HL2
    rcases hia : nidx t ⟨a, false, 0⟩ with _ | i <;> have HIA := Lib.hid hia <;> clear hia
    · have HN := Lib.hid (show swapD t a b = none by rw [HSD.out, if_pos HOK.out, HIA.out])
      generalize leafAtV t b = zb at HL2
      rw [show leafAtV t a = -1 by unfold leafAtV nidxV; rw [HIA.out]] at HL1
      go_enter Try.func53, Try.ntmps53
      go_wp2_with fail
      refine (HL1.out _ HI.out).mono ?_
      rintro e v1 ⟨rfl, hb1⟩
      have HB1 := Lib.hid hb1
      clear hb1
      go_wp2_with fail
      refine (HL2.out _ (HI.out.below HB1.out)).mono ?_
      rintro e v2 ⟨rfl, hb2⟩
      have HB2 := Lib.hid (HB1.out.trans (hb2.mono HB1.out.size))
      clear hb2
      go_wp2_with fail
      refine (spec_TreeOk_any A n c B t _ (HI.out.below HB2.out)).mono ?_
      rintro e v3 ⟨rfl, hb3⟩
      rw [HOK.out]
      have HB3 := Lib.hid (HB2.out.trans (hb3.mono HB2.out.size))
      clear hb3
      go_wp2_with fail
      exact bodyPost_ret (v := .tuple #[.slice none 0 0, .bool false]) (by simp [results, Try.results53, go_sem]) rfl (NdP.no HN.out HB3.out)
    · rw [show leafAtV t a = (i : Int) by unfold leafAtV nidxV; rw [HIA.out]] at HL1
      rcases hib : nidx t ⟨b, false, 0⟩ with _ | k <;> have HIB := Lib.hid hib <;> clear hib
      · have HN := Lib.hid (show swapD t a b = none by rw [HSD.out, if_pos HOK.out, HIA.out, HIB.out])
        rw [show leafAtV t b = -1 by unfold leafAtV nidxV; rw [HIB.out]] at HL2
        go_enter Try.func53, Try.ntmps53
        go_wp2_with fail
        refine (HL1.out _ HI.out).mono ?_
        rintro e v1 ⟨rfl, hb1⟩
        have HB1 := Lib.hid hb1
        clear hb1
        go_wp2_with fail
        refine (HL2.out _ (HI.out.below HB1.out)).mono ?_
        rintro e v2 ⟨rfl, hb2⟩
        have HB2 := Lib.hid (HB1.out.trans (hb2.mono HB1.out.size))
        clear hb2
        go_wp2_with fail
        refine (spec_TreeOk_any A n c B t _ (HI.out.below HB2.out)).mono ?_
        rintro e v3 ⟨rfl, hb3⟩
        rw [HOK.out]
        have HB3 := Lib.hid (HB2.out.trans (hb3.mono HB2.out.size))
        clear hb3
        go_wp2_with fail
        exact bodyPost_ret (v := .tuple #[.slice none 0 0, .bool false]) (by simp [results, Try.results53, go_sem]) rfl (NdP.no HN.out HB3.out)
      · have HN := Lib.hid (show swapD t a b = some ((t.set i ⟨b, false, 0⟩).set k ⟨a, false, 0⟩) by rw [HSD.out, if_pos HOK.out, HIA.out, HIB.out])
        rw [show leafAtV t b = (k : Int) by unfold leafAtV nidxV; rw [HIB.out]] at HL2
        have hn31 : n ≤ 31 := by rw [← HI.out.len]; exact (okT_len HOK.out).1
        obtain ⟨hil, hti⟩ := nidx_at HIA.out
        obtain ⟨hkl, htk⟩ := nidx_at HIB.out
        have hin : i < n := by rw [← HI.out.len]; exact hil
        have hkn : k < n := by rw [← HI.out.len]; exact hkl
        have HX1 := Lib.hid (show (⟨b, false, 0⟩ : NodeD) = ⟨b, t[i].down, t[i].first⟩ by rw [hti])
        have hkl2 : k < (t.set i ⟨b, false, 0⟩).length := by simpa using hkl
        have HX2 := Lib.hid (show (⟨a, false, 0⟩ : NodeD) = ⟨a, ((t.set i ⟨b, false, 0⟩)[k]'hkl2).down, ((t.set i ⟨b, false, 0⟩)[k]'hkl2).first⟩ by
          rw [List.getElem_set]
          by_cases h : i = k
          · rw [if_pos h]
          · rw [if_neg h, htk])
        obtain ⟨bb, o, hAe, _⟩ := HI.out.rd.at_ hil
        have HNil := Lib.hid (show A = none → n = 0 ∧ c = 0 from fun h => by rw [hAe] at h; cases h)
        clear hti htk hAe
        go_enter Try.func53, Try.ntmps53
        go_wp2_with fail
        refine (HL1.out _ HI.out).mono ?_
        rintro e v1 ⟨rfl, hb1⟩
        have HB1 := Lib.hid hb1
        clear hb1
        go_wp2_with fail
        refine (HL2.out _ (HI.out.below HB1.out)).mono ?_
        rintro e v2 ⟨rfl, hb2⟩
        have HB2 := Lib.hid (HB1.out.trans (hb2.mono HB1.out.size))
        clear hb2
        go_wp2_with fail
        refine (spec_TreeOk_any A n c B t _ (HI.out.below HB2.out)).mono ?_
        rintro e v3 ⟨rfl, hb3⟩
        rw [HOK.out]
        have HB3 := Lib.hid (HB2.out.trans (hb3.mono HB2.out.size))
        clear hb3
        go_wp2_with fail
        refine (l13Copy_any A n c B t _ (HI.out.below HB3.out) HNil.out (by omega)).mono ?_
        rintro e v4 ⟨A4, c4, rfl, ho4, hb4⟩
        have HO4 := Lib.hid ho4
        have HB4 := Lib.hid (HB3.out.trans (hb4.mono HB3.out.size))
        have hz4 : w.heap.size ≤ v3.heap.size := HB3.out.size
        clear ho4 hb4
        obtain ⟨g, rfl⟩ := own_addr HO4.out (by omega)
        have hgb := (HO4.out.blk g rfl).1
        have HF1 := Lib.hid (HO4.out.setPane i hin hil b ⟨b, false, 0⟩ HX1.out)
        have HF := Lib.hid (HF1.out.setPane k hkn hkl2 a ⟨a, false, 0⟩ HX2.out)
        have HBF := Lib.hid (Below.setCell (p := ⟨g, k * 3, none⟩) (Below.setCell (p := ⟨g, i * 3, none⟩) HB4.out (show w.heap.size ≤ g by omega) (.int .i64 b)) (show w.heap.size ≤ g by omega) (.int .i64 a))
        have HLEN := Lib.hid (show ((t.set i ⟨b, false, 0⟩).set k ⟨a, false, 0⟩).length = n by simp; exact HI.out.len)
        obtain ⟨u0, hu0⟩ := own_there HO4.out (i * 3) (by omega)
        obtain ⟨y0, hy0⟩ := own_there HF1.out (k * 3) (by omega)
        have fi0 := World.ownsRow.frozenAt (h := HO4.out) (i * 3)
        have fk0 := World.ownsRow.frozenAt (h := HF1.out) (k * 3)
        go_wp2_with fail
        refine bodyPost_ret (v := .tuple #[.slice (some ⟨g, 0, none⟩) n c4, .bool true]) (by simp [results, Try.results53, go_sem]) rfl ⟨HBF.out, ?_⟩
        rw [HN.out]
        refine ⟨some ⟨g, 0, none⟩, c4, by rw [HLEN.out], ?_⟩
        rw [HLEN.out]
        exact HF.out.more (base' := w.heap.size) hz4
end Go.Proofs.Ytgejjdkgeoojmaa.Tr

