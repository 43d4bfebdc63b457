/- The model's TreeOk and Leaves at every list of nodes. -/
import Derived.Test.YtgejjdkgeoojmaaTrSp
namespace Go.Proofs.Ytgejjdkgeoojmaa.Tr
open Go.RowKit Go.Proofs.Ytgejjdkgeoojmaa.Bytes Go.Proofs.Ytgejjdkgeoojmaa.Rows_ Go.Proofs.Ytgejjdkgeoojmaa.RowK Go.Proofs.Ytgejjdkgeoojmaa.DOk Go.Proofs.Ytgejjdkgeoojmaa.Opq
open Tree
set_option linter.unusedVariables false
theorem okT_yes {t : List NodeD} (h : okN t) : okT t = true := (okN_iff t).1 h
theorem okT_no {t : List NodeD} (h : ¬ okN t) : okT t = false := by
  cases e : okT t
  · rfl
  · exact absurd ((okN_iff t).2 e) h
theorem okT_len {t : List NodeD} (h : okT t = true) : t.length ≤ 31 ∧ (∀ n ∈ t, nodeB n = true) := by
  have := (okN_iff t).2 h
  exact ⟨this.1, this.2.2.1⟩
/-- what a round of TreeOk has made sure of -/
def SeenR (t : List NodeD) (k : Nat) : Prop := (∀ n ∈ t.take k, nodeB n = true) ∧ (panesD (t.take k)).Nodup
theorem SeenR.start (t : List NodeD) : SeenR t 0 := by simp [SeenR, panesD]
theorem SeenR.leaf {t : List NodeD} {k : Nat} (h : SeenR t k) (hk : k < t.length) (hl : leafB t[k] = true) (hs : hasI (panesD (t.take k)) t[k].pane = false) : SeenR t (k + 1) := by
  refine ⟨fun n hn => ?_, ?_⟩
  · rw [List.take_succ_eq_append_getElem hk, List.mem_append, List.mem_singleton] at hn
    rcases hn with hn | rfl
    · exact h.1 n hn
    · unfold nodeB; rw [hl]; rfl
  · rw [panesD_yes t k hk hl, List.nodup_append]
    refine ⟨h.2, by simp, fun a ha b hb e => ?_⟩
    simp at hb; subst hb; subst e
    rw [(hasI_iff _ _).2 ha] at hs; cases hs
theorem SeenR.split {t : List NodeD} {k : Nat} (h : SeenR t k) (hk : k < t.length) (hl : leafB t[k] = false) (hs : splitB t[k] = true) : SeenR t (k + 1) := by
  refine ⟨fun n hn => ?_, ?_⟩
  · rw [List.take_succ_eq_append_getElem hk, List.mem_append, List.mem_singleton] at hn
    rcases hn with hn | rfl
    · exact h.1 n hn
    · unfold nodeB; rw [hs]; simp
  · rw [panesD_no t k hk hl]; exact h.2
theorem bad_node {t : List NodeD} {k : Nat} (hk : k < t.length) (hl : leafB t[k] = false) (hs : splitB t[k] = false) : okT t = false :=
  okT_no fun h => by have := h.2.2.1 _ (List.getElem_mem hk); unfold nodeB at this; rw [hl, hs] at this; cases this
theorem bad_twice {t : List NodeD} {k : Nat} (hk : k < t.length) (hl : leafB t[k] = true) (hs : hasI (panesD (t.take k)) t[k].pane = true) : okT t = false :=
  okT_no fun h => by
    have hn := h.2.2.2
    have hm := (hasI_iff _ _).1 hs
    have e : panesD t = panesD (t.take (k + 1)) ++ panesD (t.drop (k + 1)) := by
      conv => lhs; rw [← List.take_append_drop (k + 1) t]
      unfold panesD; rw [List.filter_append, List.map_append]
    rw [e, panesD_yes t k hk hl, List.nodup_append] at hn
    have := hn.1
    rw [List.nodup_append] at this
    exact this.2.2 _ hm _ (by simp) rfl
theorem bad_end {t : List NodeD} (h : ¬ endV t 0 = (t.length : Int)) : okT t = false :=
  okT_no fun ho => h (by unfold endV; rw [List.drop_zero, ho.2.1]; simp)
theorem all_good {t : List NodeD} (hl : t.length ≤ 31) (he : endV t 0 = (t.length : Int)) (h : SeenR t t.length) : okT t = true := by
  refine okT_yes ⟨hl, ?_, ?_, ?_⟩
  · unfold endV at he
    rw [List.drop_zero] at he
    rcases hh : endL 1 t with _ | e <;> rw [hh] at he <;> simp only at he
    · omega
    · congr 1; omega
  · have := h.1; rwa [List.take_length] at this
  · have := h.2; rwa [List.take_length] at this
theorem neither {p f : Int} {d : Bool} (hl : leafB ⟨p, d, f⟩ = false) (hs : splitB ⟨p, d, f⟩ = false) :
    p < 0 ∨ (p = 0 ∧ f < 1) ∨ (p = 0 ∧ 120 < f) ∨ 1000000 < p ∨ (1 ≤ p ∧ p ≤ 1000000 ∧ d = true) ∨ (1 ≤ p ∧ p ≤ 1000000 ∧ d = false ∧ ¬ f = 0) := by
  by_cases h1 : 1 ≤ p
  · by_cases h2 : p ≤ 1000000
    · cases d
      · by_cases h0 : f = 0
        · subst h0; rw [leafB_leaf ⟨h1, h2⟩] at hl; cases hl
        · exact .inr (.inr (.inr (.inr (.inr ⟨h1, h2, rfl, h0⟩))))
      · exact .inr (.inr (.inr (.inr (.inl ⟨h1, h2, rfl⟩))))
    · exact .inr (.inr (.inr (.inl (by omega))))
  · by_cases h3 : p = 0
    · subst h3
      by_cases h4 : 1 ≤ f
      · by_cases h5 : f ≤ 120
        · rw [splitB_split d ⟨h4, h5⟩] at hs; cases hs
        · exact .inr (.inr (.inl ⟨rfl, by omega⟩))
      · exact .inr (.inl ⟨rfl, by omega⟩)
    · exact .inl (by omega)
theorem own_zero (w : World) (E : TypeId) (k : Nat) : (w.alloc (.cells #[] E)).ownsRow w.heap.size E k (.slice (some ⟨w.heap.size, 0, none⟩) 0 0) 0 [] :=
  ⟨by simp, .inr ⟨w.heap.size, 0, #[], rfl, Nat.le_refl _, heap_alloc_new _ _, Nat.le_refl _, Nat.zero_le _, by simp, by simp⟩⟩
set_option maxRecDepth 100000 in
set_option maxHeartbeats 6400000 in
theorem spec_TreeOk_any (A : Option Addr) (n c B : Nat) (t : List NodeD) (w : World) (hi : InN w B A n c t) :
    Calls Try.prog 32 #[.slice A n c] w fun e w' => e = .returned (.bool (okT t)) ∧ Below w.heap.size w w' := by
  obtain ⟨i0, hi0, hz0, hz1, hz2⟩ := info_parts intInfo
  have HI := Lib.hid hi
  have hcm := hi.max
  have hnc := hi.cap
  unfold maxLen at hcm
  have HL := Lib.hid hi.len
  clear hi
  by_cases hn : 31 < n
  · have HN := Lib.hid (okT_no (t := t) (fun h => by have := h.1; have := HL.out; omega))
    go_enter Try.func32, Try.ntmps32
    go_wp2_with fail
    go_ret
    exact ⟨ret_bool HN.out.symm, Below.refl _ _⟩
  · have hn' : n ≤ 31 := by omega
    by_cases he : endV t 0 = (n : Int)
    · have HE := Lib.hid (show endV t 0 = (t.length : Int) by rw [he, HL.out])
      have HE' := Lib.hid he
      have hnn : ((n : Int) != (n : Int)) = false := by simp
      clear he
      go_enter Try.func32, Try.ntmps32
      go_wp2_with fail
      refine (l13End_any A n c B 0 t _ HI.out (by omega) (by omega)).mono ?_
      rintro e v1 ⟨rfl, rfl⟩
      rw [HE'.out]
      go_wp2_with fail
      go_loopw [3, 21] (fun v i wr => ∃ (k : Nat) (A2 : Option Addr) (n2 c2 : Nat), k ≤ n ∧ i = .int .i64 k ∧ v = .slice A2 n2 c2 ∧ OwnI wr w.heap.size A2 n2 c2 (panesD (t.take k)) ∧ Below w.heap.size w wr ∧ SeenR t k) (fun _ i _ => n - (intOf i).toNat)
      case atStart => exact ⟨0, some ⟨w.heap.size, 0, none⟩, 0, 0, Nat.zero_le _, rfl, rfl, own_zero w _ _, (Below.refl _ _).alloc (Nat.le_refl _) _, SeenR.start t⟩
      case round =>
        obtain ⟨k, A2, n2, c2, hk, rfl, rfl, ho, hb, hsn⟩ := hrel
        have hz : w.heap.size ≤ wr.heap.size := hb.size
        have HSN := Lib.hid hsn
        clear hsn
        have hn2 : n2 ≤ n := by
          have h1 := ho.len
          have h2 := panesD_le (t.take k)
          rw [List.length_take] at h2; omega
        by_cases hlt : k < n
        · have hlt' : k < t.length := by rw [HL.out]; exact hlt
          obtain ⟨b, o, rfl, hlB, hc0, hc1, hc2⟩ := (HI.out.below hb).rd.at_ hlt'
          have hbw : b < wr.heap.size := by have := HI.out.base; omega
          have HLf := Lib.hid (HSN.out.leaf hlt')
          have HSp := Lib.hid (HSN.out.split hlt')
          have HBn := Lib.hid (bad_node (t := t) hlt')
          have HBt := Lib.hid (bad_twice (t := t) hlt')
          have HPy := Lib.hid (panesD_yes t k hlt')
          have HPn := Lib.hid (panesD_no t k hlt')
          have hbx : Below w.heap.size w (wr.alloc (.cells #[.int .i64 t[k].pane, .bool t[k].down, .int .i64 t[k].first] 90)) := hb.alloc hz _
          have HOX := Lib.hid (ho.alloc (.cells #[.int .i64 t[k].pane, .bool t[k].down, .int .i64 t[k].first] 90))
          have HBX := Lib.hid hbx
          have HO := Lib.hid ho
          have HB := Lib.hid hb
          clear ho hb hbx HSN
          have HXE := Lib.hid (show t[k] = ⟨t[k].pane, t[k].down, t[k].first⟩ from rfl)
          generalize hxk : t[k] = xk at *
          have HXK := Lib.hid hxk
          clear hxk
          obtain ⟨x0, x1, x2⟩ := xk
          simp only at hc0 hc1 hc2 HOX HBX HBt HPy HLf
          cases hlf : leafB ⟨x0, x1, x2⟩
          · have HLF := Lib.hid hlf
            cases hsf : splitB ⟨x0, x1, x2⟩
            · have HR := Lib.hid (HBn.out hlf hsf)
              have hne := neither hlf hsf
              clear hlf hsf HLf HSp HBn HBt HPy HPn HOX HXE
              rcases hne with h | ⟨rfl, h⟩ | ⟨rfl, h⟩ | h | ⟨h1, h2, rfl⟩ | ⟨h1, h2, rfl, h⟩
              · have q1 : (x0 == 0) = false := by simp; omega
                go_wp2_with fail
                go_ret
                exact ⟨ret_bool HR.out.symm, HBX.out⟩
              · go_wp2_with fail
                go_ret
                exact ⟨ret_bool HR.out.symm, HBX.out⟩
              · have h1 : 1 ≤ x2 := by omega
                go_wp2_with fail
                go_ret
                exact ⟨ret_bool HR.out.symm, HBX.out⟩
              · have q1 : (x0 == 0) = false := by simp; omega
                have q2 : 1 ≤ x0 := by omega
                go_wp2_with fail
                go_ret
                exact ⟨ret_bool HR.out.symm, HBX.out⟩
              · have q1 : (x0 == 0) = false := by simp; omega
                go_wp2_with fail
                go_ret
                exact ⟨ret_bool HR.out.symm, HBX.out⟩
              · have q1 : (x0 == 0) = false := by simp; omega
                have q2 : (x2 == 0) = false := by simpa using h
                go_wp2_with fail
                go_ret
                exact ⟨ret_bool HR.out.symm, HBX.out⟩
            · have HS1 := Lib.hid (HSp.out hlf hsf)
              have HP1 := Lib.hid (HPn.out hlf)
              obtain ⟨hq, h1, h2⟩ := splitB_form hsf
              obtain rfl : x0 = 0 := by injection hq
              simp only at h1 h2
              clear hq hlf hsf HLf HSp HBn HBt HPy HPn HXE
              go_wp2_with fail
              exact ⟨⟨k + 1, A2, n2, c2, by omega, by go_num, rfl, by rw [HP1.out]; exact HOX.out, HBX.out, HS1.out⟩, by simp [intOf]; omega⟩
          · obtain ⟨hq, h1, h2⟩ := leafB_form hlf
            obtain ⟨rfl, rfl⟩ : x1 = false ∧ x2 = 0 := by injection hq with _ e1 e2; exact ⟨e1, e2⟩
            simp only at h1 h2
            have q1 : (x0 == 0) = false := by simp; omega
            have HP1 := Lib.hid (HPy.out hlf)
            cases hh : hasI (panesD (t.take k)) x0
            · have HS1 := Lib.hid (HLf.out hlf hh)
              have HH := Lib.hid hh
              clear hh hq hlf HLf HSp HBn HBt HPy HPn HXE
              go_wp2_with fail
              refine (l02HasInt_any A2 n2 c2 (panesD (t.take k)) x0 _ _ HOX.out.rd HOX.out.len (by omega)).mono ?_
              rintro e v2 ⟨rfl, rfl⟩
              rw [HH.out]
              go_wp2_with (at_builtin; refine AppOne.append_one Try.underlying53 hi0 hz0 hz1 hz2 rfl (by decide) rfl _ _ rfl rfl (wr.heap.size + 1) (by simp) rfl HOX.out rfl (by omega) (by simp; omega) ?_)
              intro A3 c3 w3 ho3 hg3 hl3
              have HO3 := Lib.hid (show OwnI w3 w.heap.size A3 (n2 + 1) c3 (panesD (t.take (k + 1))) by
                rw [HP1.out]; unfold OwnI iv; rw [List.map_append]; exact ho3)
              have HB3 := Lib.hid (HBX.out.grown hg3 (by simp; omega) (fun g hg => (HOX.out.blk g hg).1))
              clear ho3 hg3 hl3
              go_wp2_with fail
              exact ⟨⟨k + 1, A3, n2 + 1, c3, by omega, by go_num, rfl, HO3.out, HB3.out, HS1.out⟩, by simp [intOf]; omega⟩
            · have HR := Lib.hid (HBt.out hlf hh)
              have HH := Lib.hid hh
              clear hh hq hlf HLf HSp HBn HBt HPy HPn HXE
              go_wp2_with fail
              refine (l02HasInt_any A2 n2 c2 (panesD (t.take k)) x0 _ _ HOX.out.rd HOX.out.len (by omega)).mono ?_
              rintro e v2 ⟨rfl, rfl⟩
              rw [HH.out]
              go_wp2_with fail
              go_ret
              exact ⟨ret_bool HR.out.symm, HBX.out⟩
        · obtain rfl : n = k := by omega
          have HR := Lib.hid (all_good (t := t) (by rw [HL.out]; exact hn') HE.out (by rw [HL.out]; exact HSN.out))
          have HB := Lib.hid hb
          clear hb ho HSN
          go_wp2_with fail
          go_ret
          exact ⟨ret_bool HR.out.symm, HB.out⟩
    · have HR := Lib.hid (bad_end (t := t) (by rw [HL.out]; exact he))
      have HNE := Lib.hid he
      have HX := Lib.hid (show ∃ z, z = endV t 0 from ⟨_, rfl⟩)
      obtain ⟨z, hz⟩ := HX.out
      have hzn : (z != (n : Int)) = true := by rw [hz]; simpa using HNE.out
      have HZ := Lib.hid hz
      clear he hz HX
      go_enter Try.func32, Try.ntmps32
      go_wp2_with fail
      refine (l13End_any A n c B 0 t _ HI.out (by omega) (by omega)).mono ?_
      rintro e v1 ⟨rfl, rfl⟩
      rw [← HZ.out]
      go_wp2_with fail
      go_ret
      exact ⟨ret_bool HR.out.symm, Below.refl _ _⟩
end Go.Proofs.Ytgejjdkgeoojmaa.Tr

