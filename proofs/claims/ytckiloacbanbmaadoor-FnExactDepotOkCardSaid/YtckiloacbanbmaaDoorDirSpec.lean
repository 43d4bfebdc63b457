/- The model's directory of a disk, and its place of a file. -/
import Derived.Test.YtckiloacbanbmaaDoorCopyStep
import Derived.Test.YtckiloacbanbmaaDoorDiskMath
import Derived.Test.YtckiloacbanbmaaDoorMapVal
namespace Go.Proofs.YtckiloacbanbmaaDoor.DOk
open Go.RowKit Go.Proofs.YtckiloacbanbmaaDoor.Bytes Go.Proofs.YtckiloacbanbmaaDoor.Rows_
set_option linter.unusedVariables false

set_option maxRecDepth 100000 in
set_option maxHeartbeats 3200000 in
theorem l02Dir_any (room fuse next : Int) (F : Option Addr) (nf cf : Nat) (K : Option Addr) (nk ck : Nat) (T : Option Addr) (nt ct : Nat) (ks : List LinkD) (ts : List TurnD) (w : World)
    (hk : RdL w w.heap.size K ks) (hkl : ks.length = nk) (hkn : nk ≤ 2000) (hKA : K = none → nk = 0 ∧ ck = 0) (ht : RdT w w.heap.size T ts) (htl : ts.length = nt) (htn : nt ≤ 2000) :
    Calls Tryd.prog 48 #[.agg #[.int .i64 room, .int .i64 fuse, .int .i64 next, .slice F nf cf, .slice K nk ck, .slice T nt ct], .int .i64 nt] w fun e w' =>
      ∃ A' c', e = .returned (.slice A' (dirAt ks ts).length c') ∧ OwnL w' w.heap.size A' (dirAt ks ts).length c' (dirAt ks ts) ∧ (dirAt ks ts).length ≤ nk + nt ∧ Below w.heap.size w w' := by
  obtain ⟨v3, hv3⟩ : ∃ v, v = w.alloc (.cells #[.int .i64 room, .int .i64 fuse, .int .i64 next, .slice F nf cf, .slice K nk ck, .slice T nt ct] 35) := ⟨_, rfl⟩
  have HX3 := Lib.hid (show BoxW v3 w.heap.size #[.int .i64 room, .int .i64 fuse, .int .i64 next, .slice F nf cf, .slice K nk ck, .slice T nt ct] by rw [hv3]; exact heap_alloc_new w _)
  have HB3 := Lib.hid (show Below w.heap.size w v3 by rw [hv3]; exact (Below.refl _ _).alloc (Nat.le_refl _) _)
  have hz3 : w.heap.size < v3.heap.size := by rw [hv3]; simp
  have HV3 := Lib.hid hv3.symm
  have hoe := own_empty v3 58 2
  have hba := (Below.refl v3.heap.size v3).alloc (Nat.le_refl _) (.cells #[] 58)
  have hsrc : RdK 2 (v3.alloc (.cells #[] 58)) w.heap.size K (ks.map linkR) := (hk.below (Nat.le_refl _) HB3.out).below (by omega) hba
  have HXa := Lib.hid (HX3.out.below hba (by omega))
  have r4 : (v3.alloc (.cells #[] 58)).cell? ⟨w.heap.size, 4, none⟩ = some (.slice K nk ck) := HXa.out.cell 4
  have HBa := Lib.hid hba
  have HT := Lib.hid ht
  have HKL := Lib.hid hkl
  have HTL := Lib.hid htl
  have HKA := Lib.hid hKA
  clear hba hv3 hk hkl ht htl hKA
  go_enter Tryd.func48, Tryd.ntmps48
  go_upto_region 1 with fail
  rw [HV3.out]
  go_wp2_with (at_builtin; refine append_rows Tryd.underlying32 linkInfo' rfl (by decide) (by decide) rfl _ _ rfl rfl rfl hoe hsrc (link_len _) (one_link _) HKA.out (by rw [List.length_map]; exact HKL.out) (by omega) (by omega) (by simp) ?_)
  intro K4 ck4 v4 ho4 hb4 _
  have HX4 := Lib.hid (HXa.out.below hb4 (by omega))
  have HB4 := Lib.hid (HB3.out.trans ((HBa.out.trans hb4).mono (Nat.le_of_lt hz3)))
  have HO4 := Lib.hid (own_moreK (show OwnL v4 v3.heap.size K4 nk ck4 ks by unfold OwnL; simpa using ho4) (Nat.le_of_lt hz3))
  have hz4 : w.heap.size < v4.heap.size := HX4.out.lt
  clear hoe hsrc r4 ho4 hb4
  go_wp2_with fail
  go_loopw [5, 6] (fun v i wr => ∃ (k : Nat) (A3 : Option Addr) (c3 : Nat), k ≤ nt ∧ i = .int .i64 (k : Nat) ∧ v = .slice A3 (dirAt ks (ts.take k)).length c3 ∧ (dirAt ks (ts.take k)).length ≤ nk + k ∧ OwnL wr w.heap.size A3 (dirAt ks (ts.take k)).length c3 (dirAt ks (ts.take k)) ∧ BoxW wr w.heap.size #[.int .i64 room, .int .i64 fuse, .int .i64 next, .slice F nf cf, .slice K nk ck, .slice T nt ct] ∧ Below w.heap.size w wr) (fun _ i _ => nt - (intOf i).toNat)
  case atStart =>
    refine ⟨0, K4, ck4, Nat.zero_le _, rfl, ?_, ?_, ?_, HX4.out, HB4.out⟩
    · first | (show Value.slice K4 nk ck4 = Value.slice K4 ks.length ck4; rw [HKL.out]) | (show Value.slice K4 (0 + nk) ck4 = Value.slice K4 ks.length ck4; rw [HKL.out, Nat.zero_add])
    · show ks.length ≤ nk + 0
      rw [HKL.out]; exact Nat.le_refl _
    · show OwnL v4 w.heap.size K4 ks.length ck4 ks
      rw [HKL.out]; exact HO4.out
  case round =>
    clear hz4 HX4 HB4 HO4
    obtain ⟨k, A3, c3, hk, rfl, rfl, hdl, ho, hx, hb⟩ := hrel
    have hz : w.heap.size < wr.heap.size := hx.lt
    by_cases hlt : k < nt
    · have hlt' : k < ts.length := by rw [HTL.out]; exact hlt
      obtain ⟨b, o, rfl, hB, hc0, hc1, hc2, hc3⟩ := (HT.out.below (Nat.le_refl _) hb).at_ hlt'
      have hS := Lib.hid (show dirAt ks (ts.take (k + 1)) = turnD (dirAt ks (ts.take k)) ⟨ts[k].kind, ts[k].name, ts[k].to_, ts[k].id⟩ by rw [List.take_succ_eq_append_getElem hlt']; unfold dirAt; rw [List.foldl_append]; rfl)
      have HB := Lib.hid hb
      have HX := Lib.hid hx
      have HRD := Lib.hid ho.rd
      have q5 : wr.cell? ⟨w.heap.size, 5, none⟩ = some (.slice (some ⟨b, o, none⟩) nt ct) := hx.cell 5
      clear hb hx ho
      generalize ts[k].kind = x0 at *
      generalize ts[k].name = x1 at *
      generalize ts[k].to_ = x2 at *
      generalize ts[k].id = x3 at *
      have hTD := Lib.hid (fun W (h : RdL W W.heap.size A3 (dirAt ks (ts.take k))) => l02Turn_any A3 (dirAt ks (ts.take k)).length c3 (dirAt ks (ts.take k)) x0 x1 x2 x3 W h rfl (by omega))
      have hle := Lib.hid (turnD_le (dirAt ks (ts.take k)) ⟨x0, x1, x2, x3⟩)
      rw [← hS.out] at hTD hle
      generalize hD0 : dirAt ks (ts.take k) = D0 at *
      clear hD0
      go_wp2_with fail
      refine (hTD.out _ HRD.out).mono ?_
      rintro e v6 ⟨A4, c4, rfl, ho6, hb6⟩
      have HO6 := Lib.hid (own_moreK ho6 (Nat.le_of_lt hz))
      have HX6 := Lib.hid (HX.out.below hb6 hz)
      have HB6 := Lib.hid (HB.out.trans (hb6.mono (Nat.le_of_lt hz)))
      clear ho6 hb6 q5
      go_wp2_with fail
      exact ⟨⟨k + 1, A4, c4, by omega, by go_num, rfl, by have := hle.out; omega, HO6.out, HX6.out, HB6.out⟩, by simp [intOf]; omega⟩
    · obtain rfl : nt = k := by omega
      have e : ts.take nt = ts := List.take_of_length_le (by rw [HTL.out]; exact Nat.le_refl _)
      rw [e] at hdl ho ⊢
      have HO := Lib.hid ho
      have HB := Lib.hid hb
      clear e ho hb hx
      go_wp2_with fail
      go_ret
      exact ⟨A3, c3, rfl, HO.out, hdl, HB.out⟩

/-- the place of the first file of that id, -1 where there is none -/
def atD : List FileD → Int → Int
  | [], _ => -1
  | x :: r, id => if x.id = id then 0 else if atD r id = -1 then -1 else atD r id + 1
theorem at_hit : ∀ (fs : List FileD) (id : Int) (i : Nat) (hi : i < fs.length), (∀ j (hj : j < fs.length), j < i → fs[j].id ≠ id) → fs[i].id = id → atD fs id = i
  | x :: r, id, 0, _, _, h => by unfold atD; simp only [List.getElem_cons_zero] at h; rw [if_pos h]; rfl
  | x :: r, id, i + 1, hi, ha, h => by
    have h0 := ha 0 (by simp) (by omega)
    unfold atD
    simp only [List.getElem_cons_zero] at h0
    rw [if_neg h0]
    simp only [List.getElem_cons_succ] at h
    have ih := at_hit r id i (by simpa using hi) (fun j hj hlt => by have := ha (j + 1) (by simpa using hj) (by omega); simpa using this) h
    rw [ih, if_neg (by omega)]; omega

set_option maxRecDepth 100000 in
set_option maxHeartbeats 1600000 in
theorem l02At_hit (room fuse next : Int) (F : Option Addr) (nf cf : Nat) (K : Option Addr) (nk ck : Nat) (T : Option Addr) (nt ct : Nat) (fs : List FileD) (id : Int) (i0 : Nat) (w : World)
    (hf : RdF w w.heap.size F fs) (hfl : fs.length = nf) (hfn : nf ≤ 2000) (hi : i0 < fs.length) (hno : ∀ j (hj : j < fs.length), j < i0 → fs[j].id ≠ id) (hyes : fs[i0].id = id) :
    Calls Tryd.prog 29 #[.agg #[.int .i64 room, .int .i64 fuse, .int .i64 next, .slice F nf cf, .slice K nk ck, .slice T nt ct], .int .i64 id] w fun e w' => e = .returned (.int .i64 (i0 : Nat)) ∧ Below w.heap.size w w' := by
  have HB0 := Lib.hid ((Below.refl w.heap.size w).alloc (Nat.le_refl _) (.cells #[.int .i64 room, .int .i64 fuse, .int .i64 next, .slice F nf cf, .slice K nk ck, .slice T nt ct] 35))
  have hi' : i0 < nf := by omega
  have HF := Lib.hid hf
  have HFL := Lib.hid hfl
  have HN := Lib.hid hno
  have HY := Lib.hid hyes
  clear hf hfl hno hyes
  go_enter Tryd.func29, Tryd.ntmps29
  go_wp2_with fail
  go_loopw [10] (fun i wr => ∃ k : Nat, k ≤ i0 ∧ i = .int .i64 (k : Nat) ∧ Below w.heap.size w wr) (fun i _ => nf - (intOf i).toNat)
  case atStart => exact ⟨0, Nat.zero_le _, rfl, HB0.out⟩
  case round =>
    obtain ⟨k, hk, rfl, hb⟩ := hrel
    have hlt' : k < fs.length := by omega
    have hlt : k < nf := by omega
    obtain ⟨b, o, rfl, hB, hc0, hc1, hc2⟩ := (HF.out.below (Nat.le_refl _) hb).at_ hlt'
    have HB := Lib.hid hb
    have hz : w.heap.size ≤ wr.heap.size := hb.size
    clear hb
    by_cases hki : k = i0
    · have HID := Lib.hid (show fs[k].id = id by subst hki; exact HY.out)
      have HKI := Lib.hid hki
      clear hki
      generalize fs[k].A = x1 at *
      generalize fs[k].n = x2 at *
      generalize fs[k].c = x3 at *
      generalize fs[k].safe = x4 at *
      rw [HID.out] at hc0
      have he : (id == id) = true := by simp
      go_wp2_with fail
      go_ret
      exact ⟨by rw [HKI.out]; rfl, HB.out.alloc hz _⟩
    · have HID := Lib.hid (show (fs[k].id == id) = false by simpa using HN.out k hlt' (by omega))
      generalize fs[k].id = x0 at *
      generalize fs[k].A = x1 at *
      generalize fs[k].n = x2 at *
      generalize fs[k].c = x3 at *
      generalize fs[k].safe = x4 at *
      have he := HID.out
      go_wp2_with fail
      exact ⟨⟨k + 1, by omega, by go_num, HB.out.alloc hz _⟩, by simp [intOf]; omega⟩

set_option maxRecDepth 100000 in
set_option maxHeartbeats 1600000 in
theorem spec_DiskDir_any (room fuse next : Int) (F : Option Addr) (nf cf : Nat) (K : Option Addr) (nk ck : Nat) (T : Option Addr) (nt ct : Nat) (fs : List FileD) (ks : List LinkD) (ts : List TurnD) (w : World)
    (hf : RdF w w.heap.size F fs) (hfl : fs.length = nf) (hu : usedD fs ≤ 1099511627776)
    (hk : RdL w w.heap.size K ks) (hkl : ks.length = nk) (hKA : K = none → nk = 0 ∧ ck = 0) (hks : ∀ x ∈ ks, x.1.size ≤ maxLen)
    (ht : RdT w w.heap.size T ts) (htl : ts.length = nt) (hts : ∀ x ∈ ts, x.name.size ≤ maxLen ∧ x.to_.size ≤ maxLen) :
    Calls Tryd.prog 28 #[.agg #[.int .i64 room, .int .i64 fuse, .int .i64 next, .slice F nf cf, .slice K nk ck, .slice T nt ct]] w fun e w' =>
      ((OkS room fuse next fs ks ts ∧ ∃ A' c', e = .returned (.slice A' (dirAt ks ts).length c') ∧ OwnL w' w.heap.size A' (dirAt ks ts).length c' (dirAt ks ts) ∧ (dirAt ks ts).length ≤ 40) ∨ (¬ OkS room fuse next fs ks ts ∧ e = .returned (.slice none 0 0))) ∧ Below w.heap.size w w' := by
  have hx0 := Lib.hid (Box6.new w (.int .i64 room) (.int .i64 fuse) (.int .i64 next) (.slice F nf cf) (.slice K nk ck) (.slice T nt ct) 35)
  have hb0 := Lib.hid ((Below.refl w.heap.size w).alloc (Nat.le_refl _) (.cells #[.int .i64 room, .int .i64 fuse, .int .i64 next, .slice F nf cf, .slice K nk ck, .slice T nt ct] 35))
  have HOk := Lib.hid (fun W (h : Below w.heap.size w W) => specOk_any room fuse next F nf cf K nk ck T nt ct fs ks ts W ((hf.below (Nat.le_refl _) h).more h.size) hfl hu ((hk.below (Nat.le_refl _) h).more h.size) hkl hks ((ht.below (Nat.le_refl _) h).more h.size) htl hts)
  have HDir := Lib.hid (fun W (h : Below w.heap.size w W) (h1 : nk ≤ 2000) (h2 : nt ≤ 2000) => l02Dir_any room fuse next F nf cf K nk ck T nt ct ks ts W ((hk.below (Nat.le_refl _) h).more h.size) hkl h1 hKA ((ht.below (Nat.le_refl _) h).more h.size) htl h2)
  have HKL := Lib.hid hkl
  have HTL := Lib.hid htl
  clear hf hfl hu hk hkl hKA hks ht htl hts
  go_enter Tryd.func28, Tryd.ntmps28
  go_wp2_with fail
  refine (HOk.out _ hb0.out).mono ?_
  rintro e v1 ⟨b, rfl, hv, hb1⟩
  have s1 : w.heap.size < v1.heap.size := by have := hb1.size; simp at this; omega
  have HB1 := Lib.hid (hb0.out.trans (hb1.mono (by simp)))
  have HX1 := Lib.hid (hx0.out.below hb1 (by simp))
  have HV := Lib.hid hv
  clear hb1 hv hx0 hb0
  cases b
  · have HN := Lib.hid (show ¬ OkS room fuse next fs ks ts from fun h => by have := HV.out.2 h; cases this)
    clear HV
    go_wp2_with fail
    go_ret
    exact ⟨.inr ⟨HN.out, rfl⟩, HB1.out⟩
  · have HP := Lib.hid (HV.out.1 rfl)
    have h1 : nk ≤ 10 := by have := HP.out.2.2.1; rw [HKL.out] at this; exact this
    have h2 : nt ≤ 30 := by have := HP.out.2.2.2.1; rw [HTL.out] at this; exact this
    obtain ⟨q0, q1, q2, q3, q4, q5⟩ := HX1.out
    clear HV
    go_wp2_with fail
    refine (HDir.out _ HB1.out (by omega) (by omega)).mono ?_
    rintro e v2 ⟨A2, c2, rfl, ho2, hl2, hb2⟩
    have HO2 := Lib.hid (own_moreK ho2 (Nat.le_of_lt s1))
    have HB2 := Lib.hid (HB1.out.trans (hb2.mono (Nat.le_of_lt s1)))
    clear ho2 hb2
    go_wp2_with fail
    go_ret
    exact ⟨.inl ⟨HP.out, A2, c2, rfl, HO2.out, by omega⟩, HB2.out⟩
end Go.Proofs.YtckiloacbanbmaaDoor.DOk
