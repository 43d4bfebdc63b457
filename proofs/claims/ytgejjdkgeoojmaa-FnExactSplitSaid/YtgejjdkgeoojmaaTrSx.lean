/- Swap in the program and in the model. -/
import Derived.Test.YtgejjdkgeoojmaaTrSw
import Derived.Deep.RegionHeld3
namespace Go.Proofs.Ytgejjdkgeoojmaa.Tr
open Go.RowKit Go.Proofs.Ytgejjdkgeoojmaa.Bytes Go.Proofs.Ytgejjdkgeoojmaa.Rows_ Go.Proofs.Ytgejjdkgeoojmaa.RowK Go.Proofs.Ytgejjdkgeoojmaa.DOk Go.Proofs.Ytgejjdkgeoojmaa.Opq
open Tree
set_option linter.unusedVariables false
attribute [local go_sem ↓] Go.wp_at_zero Go.wp_at_succ
/-- a list of nodes of the call's own and true, or nil and false -/
def NdP (w : World) (o : Option (List NodeD)) (e : Ending) (w' : World) : Prop :=
  Below w.heap.size w w' ∧ match o with
  | none => e = .returned (.tuple #[.slice none 0 0, .bool false])
  | some zs => ∃ A c, e = .returned (.tuple #[.slice A zs.length c, .bool true]) ∧ OwnN w' w.heap.size A zs.length c zs
theorem NdP.no {w w' : World} {o : Option (List NodeD)} (ho : o = none) (hb : Below w.heap.size w w') : NdP w o (.returned (.tuple #[.slice none 0 0, .bool false])) w' := by subst ho; exact ⟨hb, rfl⟩
theorem NdP.out {w w' : World} {o : Option (List NodeD)} {e : Ending} (h : NdP w o e w') : ∃ A n c, e = .returned (.tuple #[.slice A n c, .bool o.isSome]) ∧ OwnN w' w.heap.size A n c (o.getD []) ∧ Below w.heap.size w w' := by
  obtain ⟨hb, h⟩ := h
  rcases o with _ | zs
  · exact ⟨none, 0, 0, h, World.ownsRow_nil _ _ _ _, hb⟩
  · obtain ⟨A, c, he, ho⟩ := h
    exact ⟨A, _, c, he, ho, hb⟩
theorem below3 {w v : World} {B g : Nat} (h : Below B w v) (hg : B ≤ g) (j : Nat) (x y z : Value) : Below B w (((v.setCell ⟨g, j, none⟩ x).setCell ⟨g, j + 1, none⟩ y).setCell ⟨g, j + 2, none⟩ z) := ((h.setCell hg _).setCell hg _).setCell hg _
def swapD (t : List NodeD) (a b : Int) : Option (List NodeD) :=
  if okT t = true then
    match nidx t ⟨a, false, 0⟩, nidx t ⟨b, false, 0⟩ with
    | some i, some k => some ((t.set i ⟨b, false, 0⟩).set k ⟨a, false, 0⟩)
    | _, _ => none
  else none
theorem nidx_at {t : List NodeD} {x : NodeD} {i : Nat} (h : nidx t x = some i) : ∃ hi : i < t.length, t[i] = x := by
  obtain ⟨hi, h1, _⟩ := List.findIdx?_eq_some_iff_getElem.1 h
  exact ⟨hi, (of_decide_eq_true h1).symm⟩
theorem OwnN.drew {w : World} {base : Nat} {A : Option Addr} {n c : Nat} {cs : List NodeD} (h : OwnN w base A n c cs) : OwnN w.drew base A n c cs := h
theorem swapD_len {t : List NodeD} {a b : Int} : ((swapD t a b).getD []).length ≤ 31 := by
  unfold swapD
  by_cases h : okT t = true
  · rw [if_pos h]
    have := (okT_len h).1
    rcases nidx t ⟨a, false, 0⟩ with _ | i <;> rcases nidx t ⟨b, false, 0⟩ with _ | k <;> simp <;> omega
  · rw [if_neg h]; simp
set_option maxRecDepth 100000 in
set_option maxHeartbeats 3200000 in
theorem impl_Swap_any (A : Option Addr) (n c B : Nat) (t : List NodeD) (a b : Int) (w : World) (hi : InN w B A n c t) :
    Calls Try.prog 54 #[.slice A n c, .int .i64 a, .int .i64 b] w (NdP w (swapD t a b)) := by
  have HI := Lib.hid hi
  clear hi
  have HL1 := Lib.hid (fun (W : World) (h : InN W B A n c t) => leafAt_any A n c B t a W h)
  have HL2 := Lib.hid (fun (W : World) (h : InN W B A n c t) => leafAt_any A n c B t b W h)
  have HSD := Lib.hid (show swapD t a b = _ from rfl : swapD t a b = if okT t = true then
    match nidx t ⟨a, false, 0⟩, nidx t ⟨b, false, 0⟩ with
    | some i, some k => some ((t.set i ⟨b, false, 0⟩).set k ⟨a, false, 0⟩)
    | _, _ => none
    else none)
  cases hok : okT t <;> have HOK := Lib.hid hok <;> clear hok
  · have HN := Lib.hid (show swapD t a b = none by rw [HSD.out, if_neg (by rw [HOK.out]; simp)])
    generalize leafAtV t a = za at HL1
    generalize leafAtV t b = zb at HL2
    go_enter Try.func54, Try.ntmps54
    go_wp2_with fail
    refine (HL1.out _ HI.out).mono ?_
    rintro e v1 ⟨rfl, hb1⟩
    have HB1 := Lib.hid hb1
    clear hb1
    go_wp2_with fail
    refine (HL2.out _ (HI.out.below HB1.out)).mono ?_
    rintro e v2 ⟨rfl, hb2⟩
    have HB2 := Lib.hid (HB1.out.trans (hb2.mono HB1.out.size))
    clear hb2
    go_wp2_with fail
    refine (impl_TreeOk_any A n c B t _ (HI.out.below HB2.out)).mono ?_
    rintro e v3 ⟨rfl, hb3⟩
    rw [HOK.out]
    have HB3 := Lib.hid (HB2.out.trans (hb3.mono HB2.out.size))
    clear hb3
    go_wp2_with fail
    exact bodyPost_ret (v := .tuple #[.slice none 0 0, .bool false]) (by simp [results, Try.results54, go_sem]) rfl (NdP.no HN.out HB3.out)
  · rcases hia : nidx t ⟨a, false, 0⟩ with _ | i <;> have HIA := Lib.hid hia <;> clear hia
    · have HN := Lib.hid (show swapD t a b = none by rw [HSD.out, if_pos HOK.out, HIA.out])
      generalize leafAtV t b = zb at HL2
      rw [show leafAtV t a = -1 by unfold leafAtV nidxV; rw [HIA.out]] at HL1
      go_enter Try.func54, Try.ntmps54
      go_wp2_with fail
      refine (HL1.out _ HI.out).mono ?_
      rintro e v1 ⟨rfl, hb1⟩
      have HB1 := Lib.hid hb1
      clear hb1
      go_wp2_with fail
      refine (HL2.out _ (HI.out.below HB1.out)).mono ?_
      rintro e v2 ⟨rfl, hb2⟩
      have HB2 := Lib.hid (HB1.out.trans (hb2.mono HB1.out.size))
      clear hb2
      go_wp2_with fail
      refine (impl_TreeOk_any A n c B t _ (HI.out.below HB2.out)).mono ?_
      rintro e v3 ⟨rfl, hb3⟩
      rw [HOK.out]
      have HB3 := Lib.hid (HB2.out.trans (hb3.mono HB2.out.size))
      clear hb3
      go_wp2_with fail
      exact bodyPost_ret (v := .tuple #[.slice none 0 0, .bool false]) (by simp [results, Try.results54, go_sem]) rfl (NdP.no HN.out HB3.out)
    · rw [show leafAtV t a = (i : Int) by unfold leafAtV nidxV; rw [HIA.out]] at HL1
      rcases hib : nidx t ⟨b, false, 0⟩ with _ | k <;> have HIB := Lib.hid hib <;> clear hib
      · have HN := Lib.hid (show swapD t a b = none by rw [HSD.out, if_pos HOK.out, HIA.out, HIB.out])
        rw [show leafAtV t b = -1 by unfold leafAtV nidxV; rw [HIB.out]] at HL2
        go_enter Try.func54, Try.ntmps54
        go_wp2_with fail
        refine (HL1.out _ HI.out).mono ?_
        rintro e v1 ⟨rfl, hb1⟩
        have HB1 := Lib.hid hb1
        clear hb1
        go_wp2_with fail
        refine (HL2.out _ (HI.out.below HB1.out)).mono ?_
        rintro e v2 ⟨rfl, hb2⟩
        have HB2 := Lib.hid (HB1.out.trans (hb2.mono HB1.out.size))
        clear hb2
        go_wp2_with fail
        refine (impl_TreeOk_any A n c B t _ (HI.out.below HB2.out)).mono ?_
        rintro e v3 ⟨rfl, hb3⟩
        rw [HOK.out]
        have HB3 := Lib.hid (HB2.out.trans (hb3.mono HB2.out.size))
        clear hb3
        go_wp2_with fail
        exact bodyPost_ret (v := .tuple #[.slice none 0 0, .bool false]) (by simp [results, Try.results54, go_sem]) rfl (NdP.no HN.out HB3.out)
      · have HN := Lib.hid (show swapD t a b = some ((t.set i ⟨b, false, 0⟩).set k ⟨a, false, 0⟩) by rw [HSD.out, if_pos HOK.out, HIA.out, HIB.out])
        rw [show leafAtV t b = (k : Int) by unfold leafAtV nidxV; rw [HIB.out]] at HL2
        have hn31 : n ≤ 31 := by rw [← HI.out.len]; exact (okT_len HOK.out).1
        obtain ⟨hil, hti⟩ := nidx_at HIA.out
        obtain ⟨hkl, htk⟩ := nidx_at HIB.out
        have HTI := Lib.hid hti
        have HTK := Lib.hid htk
        have hin : i < n := by rw [← HI.out.len]; exact hil
        have hkn : k < n := by rw [← HI.out.len]; exact hkl
        clear hti htk
        go_enter Try.func54, Try.ntmps54
        go_wp2_with fail
        refine (HL1.out _ HI.out).mono ?_
        rintro e v1 ⟨rfl, hb1⟩
        have HB1 := Lib.hid hb1
        clear hb1
        go_wp2_with fail
        refine (HL2.out _ (HI.out.below HB1.out)).mono ?_
        rintro e v2 ⟨rfl, hb2⟩
        have HB2 := Lib.hid (HB1.out.trans (hb2.mono HB1.out.size))
        clear hb2
        go_wp2_with fail
        refine (impl_TreeOk_any A n c B t _ (HI.out.below HB2.out)).mono ?_
        rintro e v3 ⟨rfl, hb3⟩
        rw [HOK.out]
        have HB3 := Lib.hid (HB2.out.trans (hb3.mono HB2.out.size))
        clear hb3
        go_wp2_with fail
        refine (cloneN_any A n c B t _ (HI.out.below HB3.out) (by omega) (by omega)).mono ?_
        rintro e v4 ⟨A4, c4, rfl, ho4, hb4⟩
        have HO4 := Lib.hid ho4
        have HB4 := Lib.hid (HB3.out.trans (hb4.mono HB3.out.size))
        have hz4 : w.heap.size ≤ v3.heap.size := HB3.out.size
        clear ho4 hb4
        obtain ⟨g, rfl⟩ := own_addr HO4.out (by omega)
        have hgb := (HO4.out.blk g rfl).1
        obtain ⟨bb, o, hAe, hlt, hc0, hc1, hc2⟩ := (HI.out.below HB4.out).rd.at_ hil
        obtain ⟨bb', o', hAe', hlt', hd0, hd1, hd2⟩ := (HI.out.below HB4.out).rd.at_ hkl
        rw [hAe] at hAe'
        injection hAe' with hAe'
        injection hAe' with e1 e2
        subst e1 e2
        rw [HTI.out] at hc0 hc1 hc2
        rw [HTK.out] at hd0 hd1 hd2
        simp only at hc0 hc1 hc2 hd0 hd1 hd2
        have hbg : bb ≠ g := by have := HI.out.base; omega
        have hgbb : g ≠ bb := fun h => hbg h.symm
        subst hAe
        have i0 : (0 : Int) ≤ (i : Int) := by omega
        have i1 : (i : Int) < (n : Int) := by omega
        have k0 : (0 : Int) ≤ (k : Int) := by omega
        have k1 : (k : Int) < (n : Int) := by omega
        have it : (i : Int).toNat = i := by simp
        have kt : (k : Int).toNat = k := by simp
        have HF := Lib.hid ((HO4.out.setRow i hin ⟨b, false, 0⟩).setRow k hkn ⟨a, false, 0⟩)
        have HBF := Lib.hid (below3 (below3 HB4.out (show w.heap.size ≤ g by omega) (i * 3) (.int .i64 b) (.bool false) (.int .i64 0)) (show w.heap.size ≤ g by omega) (k * 3) (.int .i64 a) (.bool false) (.int .i64 0))
        have HLEN := Lib.hid (show ((t.set i ⟨b, false, 0⟩).set k ⟨a, false, 0⟩).length = n by simp; exact HI.out.len)
        obtain ⟨u0, hu0⟩ := own_there HO4.out (i * 3) (by omega)
        obtain ⟨u1, hu1⟩ := own_there HO4.out (i * 3 + 1) (by omega)
        obtain ⟨u2, hu2⟩ := own_there HO4.out (i * 3 + 2) (by omega)
        obtain ⟨y0, hy0⟩ := own_there HO4.out (k * 3) (by omega)
        obtain ⟨y1, hy1⟩ := own_there HO4.out (k * 3 + 1) (by omega)
        obtain ⟨y2, hy2⟩ := own_there HO4.out (k * 3 + 2) (by omega)
        have fi0 := World.ownsRow.frozenAt (h := HO4.out) (i * 3)
        have fi1 := World.ownsRow.frozenAt (h := HO4.out) (i * 3 + 1)
        have fi2 := World.ownsRow.frozenAt (h := HO4.out) (i * 3 + 2)
        have fk0 := World.ownsRow.frozenAt (h := HO4.out) (k * 3)
        have fk1 := World.ownsRow.frozenAt (h := HO4.out) (k * 3 + 1)
        have fk2 := World.ownsRow.frozenAt (h := HO4.out) (k * 3 + 2)
        by_cases hik : i = k
        · subst hik
          have hab : a = b := by
            have h := HTI.out
            rw [HTK.out] at h
            injection h with h; exact h.symm
          subst hab
          go_wp2_with fail
          go_region
          all_goals
            go_wp2_with fail
            refine bodyPost_ret (v := .tuple #[.slice (some ⟨g, 0, none⟩) n c4, .bool true]) (by simp [results, Try.results54, go_sem]) rfl ⟨HBF.out.drew, ?_⟩
            rw [HN.out]
            refine ⟨some ⟨g, 0, none⟩, c4, by rw [HLEN.out], ?_⟩
            rw [HLEN.out]
            exact OwnN.drew (HF.out.more (base' := w.heap.size) hz4)
        · go_wp2_with fail
          have : i * 3 ≠ k * 3 := by omega
          have : i * 3 ≠ k * 3 + 1 := by omega
          have : i * 3 ≠ k * 3 + 2 := by omega
          have : i * 3 + 1 ≠ k * 3 := by omega
          have : i * 3 + 1 ≠ k * 3 + 1 := by omega
          have : i * 3 + 1 ≠ k * 3 + 2 := by omega
          have : i * 3 + 2 ≠ k * 3 := by omega
          have : i * 3 + 2 ≠ k * 3 + 1 := by omega
          have : i * 3 + 2 ≠ k * 3 + 2 := by omega
          have : k * 3 ≠ i * 3 := by omega
          have : k * 3 ≠ i * 3 + 1 := by omega
          have : k * 3 ≠ i * 3 + 2 := by omega
          have : k * 3 + 1 ≠ i * 3 := by omega
          have : k * 3 + 1 ≠ i * 3 + 1 := by omega
          have : k * 3 + 1 ≠ i * 3 + 2 := by omega
          have : k * 3 + 2 ≠ i * 3 := by omega
          have : k * 3 + 2 ≠ i * 3 + 1 := by omega
          have : k * 3 + 2 ≠ i * 3 + 2 := by omega
          go_region
          all_goals
            go_wp2_with fail
            refine bodyPost_ret (v := .tuple #[.slice (some ⟨g, 0, none⟩) n c4, .bool true]) (by simp [results, Try.results54, go_sem]) rfl ⟨HBF.out.drew, ?_⟩
            rw [HN.out]
            refine ⟨some ⟨g, 0, none⟩, c4, by rw [HLEN.out], ?_⟩
            rw [HLEN.out]
            exact OwnN.drew (HF.out.more (base' := w.heap.size) hz4)
end Go.Proofs.Ytgejjdkgeoojmaa.Tr

