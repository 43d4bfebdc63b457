/- The removal of the files that are not linked, in the program: slices.DeleteFunc with a closure over a set of ids. -/
import Derived.Test.YtckiloacbanbmaaGreatDirIds
namespace Go.Proofs.YtckiloacbanbmaaGreat.DOk
open Go.RowKit Go.Proofs.YtckiloacbanbmaaGreat.Bytes Go.Proofs.YtckiloacbanbmaaGreat.Rows_ Go.Maps
set_option linter.unusedVariables false

theorem OwnB.below {w w' : World} {B b n : Nat} {D : Dat} (h : OwnB w b n D) (hb : Below B w w') (hB : b < B) : OwnB w' b n D := by
  obtain ⟨es, clock, hg, F, hs, rfl⟩ := h
  exact ⟨es, clock, by rw [hb.block b hB]; exact hg, F, hs, rfl⟩
theorem hasM (ids : List Int) (z : Int) : has (idMap ids) (kI z) = hasI ids z := by
  rw [Bool.eq_iff_iff, has_idMap, hasI_iff]
theorem kept_snoc_in {ids : List Int} {fs : List FileD} {k : Nat} (h : k < fs.length) (hi : hasI ids fs[k].id = true) : keptF ids (fs.take (k + 1)) = keptF ids (fs.take k) ++ [fs[k]] := by
  unfold keptF; rw [List.take_succ_eq_append_getElem h, List.filter_append, List.filter_cons_of_pos (by simpa using hi), List.filter_nil]
theorem kept_snoc_out {ids : List Int} {fs : List FileD} {k : Nat} (h : k < fs.length) (hi : hasI ids fs[k].id = false) : keptF ids (fs.take (k + 1)) = keptF ids (fs.take k) := by
  unfold keptF; rw [List.take_succ_eq_append_getElem h, List.filter_append, List.filter_cons_of_neg (by simp [hi]), List.filter_nil, List.append_nil]
theorem kept_all {ids : List Int} {fs : List FileD} (h : ∀ j (hj : j < fs.length), hasI ids fs[j].id = true) : keptF ids fs = fs := by
  unfold keptF; rw [List.filter_eq_self]
  intro f hf
  obtain ⟨i, hi, rfl⟩ := List.getElem_of_mem hf
  exact h i hi
theorem kept_take {ids : List Int} {fs : List FileD} {i : Nat} (hi : i ≤ fs.length) (h : ∀ j (hj : j < fs.length), j < i → hasI ids fs[j].id = true) : keptF ids (fs.take i) = fs.take i := by
  refine kept_all fun j hj => ?_
  rw [List.length_take] at hj
  rw [List.getElem_take]
  exact h j (by omega) (by omega)

set_option maxRecDepth 100000 in
theorem unlinked_any (x0 : Int) (x1 : Option Addr) (x2 x3 : Nat) (x4 : Int) (B mb n : Nat) (ids : List Int) (w : World) (hB : B < w.heap.size) (hc : w.cell? ⟨B, 0, none⟩ = some (.map (some mb))) (ho : OwnB w mb n (idMap ids)) (hw : (Lit.int .i64 x0).wf = true) :
    Calls Tryz.prog 91 #[.agg #[.int .i64 x0, .slice x1 x2 x3, .int .i64 x4], .pointer (some ⟨B, 0, none⟩)] w fun e w' => e = .returned (.bool (!hasI ids x0)) ∧ Below w.heap.size w w' := by
  have hne : B ≠ w.heap.size := by omega
  have hb0 := Lib.hid ((Below.refl w.heap.size w).alloc (Nat.le_refl _) (.cells #[.int .i64 x0, .slice x1 x2 x3, .int .i64 x4] 65))
  have ho1 := Lib.hid (ho.alloc (.cells #[.int .i64 x0, .slice x1 x2 x3, .int .i64 x4] 65))
  have HW := Lib.hid hw
  have HH := Lib.hid (hasM ids x0)
  clear ho hw
  go_enter Tryz.func91, Tryz.ntmps91
  go_wp2_with (at_lookup; refine lookup_ids rfl _ _ rfl rfl ho1.out rfl HW.out HH.out ?_)
  go_ret
  exact ⟨rfl, hb0.out⟩

/-- what the search of the first unlinked file answers -/
def FirstOut (ids : List Int) (fs : List FileD) (e : Ending) : Prop :=
  (e = .returned (.int .i64 (-1)) ∧ ∀ j (hj : j < fs.length), hasI ids fs[j].id = true) ∨
  ∃ i0 : Nat, e = .returned (.int .i64 (i0 : Nat)) ∧ ∃ h : i0 < fs.length, hasI ids fs[i0].id = false ∧ ∀ j (hj : j < fs.length), j < i0 → hasI ids fs[j].id = true
set_option maxRecDepth 100000 in
set_option maxHeartbeats 1600000 in
theorem firstOut_any (F : Option Addr) (nf cf : Nat) (fs : List FileD) (B mb n : Nat) (ids : List Int) (w : World) (hf : RdF w w.heap.size F fs) (hfl : fs.length = nf) (hfn : nf ≤ 2000) (hw : ∀ x ∈ fs, (Lit.int .i64 x.id).wf = true)
    (hB : B < w.heap.size) (hc : w.cell? ⟨B, 0, none⟩ = some (.map (some mb))) (ho : OwnB w mb n (idMap ids)) :
    Calls Tryz.prog 99 #[.slice F nf cf, .func (.func 91) #[] #[.pointer (some ⟨B, 0, none⟩)]] w fun e w' => FirstOut ids fs e ∧ Below w.heap.size w w' := by
  have eg : ∀ args w, (callFunc 91 args).run Tryz.prog w = .ok (.enter 91 args) w := enters_of Tryz.func91 (by kernel_rfl) rfl
  have hmb := ho.lt
  have HF := Lib.hid hf
  have HFL := Lib.hid hfl
  have HW := Lib.hid hw
  have HC := Lib.hid hc
  have HO := Lib.hid ho
  clear hf hfl hw hc ho
  go_enter Tryz.func99, Tryz.ntmps99
  go_wp2_with fail
  go_loopw [5, 8] (fun _ i wr => ∃ k : Nat, k ≤ nf ∧ i = .int .i64 (k : Nat) ∧ Hid (∀ j (hj : j < fs.length), j < k → hasI ids fs[j].id = true) ∧ Below w.heap.size w wr) (fun _ i _ => nf - (intOf i).toNat)
  case atStart => exact ⟨0, Nat.zero_le _, rfl, Lib.hid (fun j hj h => absurd h (by omega)), Below.refl _ _⟩
  case round =>
    obtain ⟨k, hk, rfl, HA, hb⟩ := hrel
    have hz : w.heap.size ≤ wr.heap.size := hb.size
    by_cases hlt : k < nf
    · have hlt' : k < fs.length := by rw [HFL.out]; exact hlt
      obtain ⟨b, o, rfl, hBb, hc0, hc1, hc2⟩ := (HF.out.below (Nat.le_refl _) hb).at_ hlt'
      have HB := Lib.hid hb
      have hcall := unlinked_any fs[k].id fs[k].A fs[k].n fs[k].c fs[k].safe B mb n ids wr (Nat.lt_of_lt_of_le hB hz) ((hb.cell (p := ⟨B, 0, none⟩) hB).trans HC.out) (HO.out.below hb hmb) (HW.out _ (List.getElem_mem hlt'))
      clear hb
      cases hki : hasI ids fs[k].id
      · rw [hki] at hcall
        have HCALL := Lib.hid hcall
        have HR := Lib.hid (show FirstOut ids fs (.returned (.int .i64 (k : Nat))) from .inr ⟨k, rfl, hlt', hki, HA.out⟩)
        clear hcall hki
        generalize fs[k].id = x0 at *
        generalize fs[k].A = x1 at *
        generalize fs[k].n = x2 at *
        generalize fs[k].c = x3 at *
        generalize fs[k].safe = x4 at *
        go_wp2_with (go_at_call 91; refine HCALL.out.mono ?_; rintro e w' ⟨rfl, hb'⟩)
        go_ret
        exact ⟨HR.out, HB.out.trans (hb'.mono hz)⟩
      · rw [hki] at hcall
        have HCALL := Lib.hid hcall
        have HA1 := Lib.hid (show ∀ j (hj : j < fs.length), j < k + 1 → hasI ids fs[j].id = true from fun j hj h => by
          by_cases e : j = k
          · subst e; exact hki
          · exact HA.out j hj (by omega))
        clear hcall hki
        generalize fs[k].id = x0 at *
        generalize fs[k].A = x1 at *
        generalize fs[k].n = x2 at *
        generalize fs[k].c = x3 at *
        generalize fs[k].safe = x4 at *
        go_wp2_with (go_at_call 91; refine HCALL.out.mono ?_; rintro e w' ⟨rfl, hb'⟩)
        exact ⟨⟨k + 1, by omega, by go_num, HA1, HB.out.trans (hb'.mono hz)⟩, by simp [intOf]; omega⟩
    · obtain rfl : nf = k := by omega
      have HB := Lib.hid hb
      have HR := Lib.hid (show FirstOut ids fs (.returned (.int .i64 (-1))) from .inl ⟨rfl, fun j hj => HA.out j hj (by rw [← HFL.out]; exact hj)⟩)
      clear hb
      go_wp2_with fail
      go_ret
      exact ⟨HR.out, HB.out⟩

set_option maxRecDepth 100000 in
set_option maxHeartbeats 6400000 in
theorem deleteF_any (F : Option Addr) (nf cf base : Nat) (fs : List FileD) (B mb n : Nat) (ids : List Int) (w : World) (hf : OwnF w base F nf cf fs) (hfl : fs.length = nf) (hfn : nf ≤ 2000) (hw : ∀ x ∈ fs, (Lit.int .i64 x.id).wf = true)
    (hB : B < w.heap.size) (hc : w.cell? ⟨B, 0, none⟩ = some (.map (some mb))) (ho : OwnB w mb n (idMap ids)) (hne : ∀ g, F = some ⟨g, 0, none⟩ → g ≠ B ∧ g ≠ mb) :
    Calls Tryz.prog 90 #[.slice F nf cf, .func (.func 91) #[] #[.pointer (some ⟨B, 0, none⟩)]] w fun e w' =>
      e = .returned (.slice F (keptF ids fs).length cf) ∧ OwnF w' base F (keptF ids fs).length cf (keptF ids fs) ∧ w.grownBy w' (Value.slice F nf cf).ownBlock := by
  have eg : ∀ args w, (callFunc 91 args).run Tryz.prog w = .ok (.enter 91 args) w := enters_of Tryz.func91 (by kernel_rfl) rfl
  have hmb := ho.lt
  have HF := Lib.hid hf
  have HFL := Lib.hid hfl
  have HW := Lib.hid hw
  have HC := Lib.hid hc
  have HO := Lib.hid ho
  have HNE := Lib.hid hne
  have HFirst := Lib.hid (firstOut_any F nf cf fs B mb n ids w hf.rd hfl hfn hw hB hc ho)
  clear hf hfl hw hc ho hne
  go_enter Tryz.func90, Tryz.ntmps90
  go_wp2_with fail
  refine HFirst.out.mono ?_
  rintro e w1 ⟨hout, hb1⟩
  rcases hout with ⟨rfl, hall⟩ | ⟨i0, rfl, hi, h0, hlo⟩
  · have HK := Lib.hid (kept_all hall)
    have HB1 := Lib.hid hb1
    clear hall hb1 HFirst
    go_wp2_with fail
    go_ret
    rw [HK.out, HFL.out]
    exact ⟨rfl, own_belowK HF.out (Nat.le_refl _) HB1.out, grown_any HB1.out _⟩
  · have hlt0 : i0 < nf := by rw [HFL.out] at hi; exact hi
    have hz1 : w.heap.size ≤ w1.heap.size := hb1.size
    obtain ⟨g, rfl⟩ := own_addr HF.out (by omega)
    obtain ⟨hgB, hgm⟩ := HNE.out g rfl
    have hgl := (World.ownsRow.lt HF.out g rfl)
    have HK0 := Lib.hid (show keptF ids (fs.take (i0 + 1)) = fs.take i0 by rw [kept_snoc_out hi h0, kept_take (Nat.le_of_lt hi) hlo])
    have HST := Lib.hid (show OwnF w1 base (some ⟨g, 0, none⟩) nf cf (keptF ids (fs.take (i0 + 1)) ++ [fs[i0]] ++ fs.drop (i0 + 1)) by
      rw [HK0.out]
      have e : fs.take i0 ++ [fs[i0]] ++ fs.drop (i0 + 1) = fs := by
        rw [List.append_assoc]
        have := List.drop_eq_getElem_cons hi
        rw [show [fs[i0]] ++ fs.drop (i0 + 1) = fs.drop i0 by rw [this]; rfl, List.take_append_drop]
      rw [e]; exact own_belowK HF.out (Nat.le_refl _) hb1)
    have HKL := Lib.hid (show (keptF ids (fs.take (i0 + 1))).length = i0 by rw [HK0.out, List.length_take]; omega)
    have HG1 := Lib.hid (show w.grownBy w1 (some g) from grown_any hb1 _)
    have hne1 : ((i0 : Int) == -1) = false := by simp
    clear hb1 h0 hlo HFirst HNE
    go_wp2_with fail
    go_loopw [5, 6] (fun vi vj wr => ∃ (m k : Nat) (mid : List FileD), vi = .int .i64 (m : Nat) ∧ vj = .int .i64 (k : Nat) ∧ k ≤ nf ∧ m + mid.length = k ∧ 0 < mid.length ∧ Hid ((keptF ids (fs.take k)).length = m) ∧ Hid (OwnF wr base (some ⟨g, 0, none⟩) nf cf (keptF ids (fs.take k) ++ mid ++ fs.drop k)) ∧ w.grownBy wr (some g)) (fun _ j _ => nf - (intOf j).toNat)
    case atStart => exact ⟨i0, i0 + 1, [fs[i0]], rfl, by go_num, by omega, rfl, by simp, HKL, HST, HG1.out⟩
    case round =>
      clear HST HG1 HKL HK0 hne1
      obtain ⟨m, k, mid, rfl, rfl, hk, hmk, hmid, HLen, HOw, hgr⟩ := hrel
      have hz : w.heap.size ≤ wr.heap.size := hgr.size
      by_cases hlt : k < nf
      · have hlt' : k < fs.length := by rw [HFL.out]; exact hlt
        have hkd : fs.drop k = fs[k] :: fs.drop (k + 1) := List.drop_eq_getElem_cons hlt'
        have hrow : (keptF ids (fs.take k) ++ mid ++ fs.drop k)[k]? = some fs[k] := by
          rw [List.getElem?_append_right (by rw [List.length_append, HLen.out]; omega), List.length_append, HLen.out, hmk, Nat.sub_self, hkd]; rfl
        obtain ⟨hkr, hrow'⟩ := List.getElem?_eq_some_iff.1 hrow
        obtain ⟨b', o', ea, _, hc0, hc1, hc2⟩ := (OwnF.rd HOw.out).at_ hkr
        injection ea with ea
        injection ea with ea1 ea2
        subst ea1 ea2
        rw [hrow'] at hc0 hc1 hc2
        rw [Nat.zero_add] at hc0 hc1 hc2
        obtain ⟨u0, hu0⟩ := own_there HOw.out (m * 3) (by omega)
        obtain ⟨u1, hu1⟩ := own_there HOw.out (m * 3 + 1) (by omega)
        obtain ⟨u2, hu2⟩ := own_there HOw.out (m * 3 + 2) (by omega)
        have hba : Below wr.heap.size wr (wr.alloc (.cells #[.int .i64 fs[k].id, .slice fs[k].A fs[k].n fs[k].c, .int .i64 fs[k].safe] 65)) := (Below.refl _ _).alloc (Nat.le_refl _) _
        have hcB : wr.cell? ⟨B, 0, none⟩ = some (.map (some mb)) := hgr.cell HC.out (fun e => by injection e with e; exact hgB e.symm)
        have hoB : OwnB wr mb n (idMap ids) := World.ownsMap.kept HO.out hgr (fun e => by injection e with e; exact hgm e.symm)
        have hBr : B < wr.heap.size := by omega
        have hcall := unlinked_any fs[k].id fs[k].A fs[k].n fs[k].c fs[k].safe B mb n ids (wr.alloc (.cells #[.int .i64 fs[k].id, .slice fs[k].A fs[k].n fs[k].c, .int .i64 fs[k].safe] 65)) (by simp; omega) ((hba.cell (p := ⟨B, 0, none⟩) hBr).trans hcB) (hoB.alloc _) (HW.out _ (List.getElem_mem hlt'))
        have HGR := Lib.hid hgr
        obtain ⟨m0, mid', rfl⟩ : ∃ m0 mid', mid = m0 :: mid' := by
          rcases mid with _ | ⟨a, l⟩
          · exact absurd hmid (by simp)
          · exact ⟨a, l, rfl⟩
        have hgw : g < wr.heap.size := by omega
        clear hgr hrow hrow' hcB hoB
        cases hki : hasI ids fs[k].id
        · rw [hki] at hcall
          have HCALL := Lib.hid hcall
          have HL1 := Lib.hid (show (keptF ids (fs.take (k + 1))).length = m by rw [kept_snoc_out hlt' hki]; exact HLen.out)
          have HO1 := Lib.hid (show OwnF wr base (some ⟨g, 0, none⟩) nf cf (keptF ids (fs.take (k + 1)) ++ (m0 :: mid' ++ [fs[k]]) ++ fs.drop (k + 1)) by
            rw [kept_snoc_out hlt' hki]
            have h := HOw.out
            rw [hkd] at h
            simpa using h)
          clear hcall hki hkd HOw HLen hu0 hu1 hu2
          generalize fs[k].id = x0 at *
          generalize fs[k].A = x1 at *
          generalize fs[k].n = x2 at *
          generalize fs[k].c = x3 at *
          generalize fs[k].safe = x4 at *
          go_wp2_with (go_at_call 91; refine HCALL.out.mono ?_; rintro e w' ⟨rfl, hb'⟩)
          have hbw : Below wr.heap.size wr w' := hba.trans (hb'.mono (by simp))
          exact ⟨⟨m, k + 1, _, rfl, by go_num, by omega, by simp at hmk ⊢; omega, by simp, HL1, Lib.hid (own_belowK HO1.out (Nat.le_refl _) hbw), grown_trans HGR.out (grown_any hbw _)⟩, by simp [intOf]; omega⟩
        · rw [hki] at hcall
          have HCALL := Lib.hid hcall
          have HL1 := Lib.hid (show (keptF ids (fs.take (k + 1))).length = m + 1 by rw [kept_snoc_in hlt' hki, List.length_append, HLen.out]; rfl)
          have HK1 := Lib.hid (kept_snoc_in hlt' hki)
          have HROW := Lib.hid (fun (v : World) (hv : OwnF v base (some ⟨g, 0, none⟩) nf cf (keptF ids (fs.take k) ++ m0 :: mid' ++ fs.drop k)) => by
            unfold OwnF at hv
            rw [List.map_append, List.map_append, List.map_cons, show fileR m0 :: mid'.map fileR = [[Value.int .i64 m0.id, Value.slice m0.A m0.n m0.c, Value.int .i64 m0.safe]] ++ mid'.map fileR from rfl, ← List.append_assoc, List.append_assoc] at hv
            exact row3 (.int .i64 fs[k].id) (.slice fs[k].A fs[k].n fs[k].c) (.int .i64 fs[k].safe) (file_len _) m (by rw [List.length_map]; exact HLen.out) hv)
          have HEND := Lib.hid (show (keptF ids (fs.take (k + 1)) ++ (mid' ++ [fs[k]]) ++ fs.drop (k + 1)).map fileR = (keptF ids (fs.take k)).map fileR ++ [[Value.int .i64 fs[k].id, Value.slice fs[k].A fs[k].n fs[k].c, Value.int .i64 fs[k].safe]] ++ (mid'.map fileR ++ (fs.drop k).map fileR) by
            rw [HK1.out, hkd]; simp [fileR])
          clear hcall hki hkd
          go_wp2_with (go_at_call 91; refine HCALL.out.mono ?_; rintro e w' ⟨rfl, hb'⟩; have hbw : Below wr.heap.size wr w' := hba.trans (hb'.mono (by simp)); have p0 : w'.cell? ⟨wr.heap.size, 0, none⟩ = some (.int .i64 fs[k].id) := (hb'.cell (p := ⟨wr.heap.size, 0, none⟩) (by simp)).trans (by rw [World.cell?_alloc_at _ _ _ _ rfl]; rfl); have p1 : w'.cell? ⟨wr.heap.size, 1, none⟩ = some (.slice fs[k].A fs[k].n fs[k].c) := (hb'.cell (p := ⟨wr.heap.size, 1, none⟩) (by simp)).trans (by rw [World.cell?_alloc_at _ _ _ _ rfl]; rfl); have p2 : w'.cell? ⟨wr.heap.size, 2, none⟩ = some (.int .i64 fs[k].safe) := (hb'.cell (p := ⟨wr.heap.size, 2, none⟩) (by simp)).trans (by rw [World.cell?_alloc_at _ _ _ _ rfl]; rfl); have HOW' := Lib.hid (own_belowK HOw.out (Nat.le_refl _) hbw); have v0 := (hbw.cell (p := ⟨g, m * 3, none⟩) hgw).trans hu0; have v1 := (hbw.cell (p := ⟨g, m * 3 + 1, none⟩) hgw).trans hu1; have v2 := (hbw.cell (p := ⟨g, m * 3 + 2, none⟩) hgw).trans hu2; have f0 := World.ownsRow.frozenAt (h := HOW'.out) (m * 3); have f1 := World.ownsRow.frozenAt (h := HOW'.out) (m * 3 + 1); have f2 := World.ownsRow.frozenAt (h := HOW'.out) (m * 3 + 2); have hmn : m < nf := by omega)
          have HO1 := Lib.hid (show OwnF _ base (some ⟨g, 0, none⟩) nf cf (keptF ids (fs.take (k + 1)) ++ (mid' ++ [fs[k]]) ++ fs.drop (k + 1)) by unfold OwnF; rw [HEND.out]; exact HROW.out _ HOW'.out)
          exact ⟨⟨m + 1, k + 1, mid' ++ [fs[k]], by go_num, by go_num, by omega, by simp at hmk ⊢; omega, by simp, HL1, HO1, grown_trans HGR.out (grown_trans (grown_any hbw _) (grown_trans (Go.Lib.grownBy_setCell _ _ _ _) (grown_trans (Go.Lib.grownBy_setCell _ _ _ _) (Go.Lib.grownBy_setCell _ _ _ _))))⟩, by simp [intOf]; omega⟩
      · obtain rfl : nf = k := by omega
        have e : fs.take nf = fs := List.take_of_length_le (by rw [HFL.out]; exact Nat.le_refl _)
        have hLen := HLen.out
        have hOw := HOw.out
        rw [e] at hLen hOw
        rw [List.drop_of_length_le (by rw [HFL.out]; exact Nat.le_refl _), List.append_nil] at hOw
        have hml : m < nf := by omega
        obtain ⟨w5, hcl, ho5, hg5⟩ := run_clear_files (rows := (keptF ids fs ++ mid).map fileR) hOw (file_len _) (by rw [List.length_map, List.length_append, hLen]; exact hmk) hml (cf - m)
        have HO5 := Lib.hid (show OwnF w5 base (some ⟨g, 0, none⟩) m cf (keptF ids fs) by
          unfold OwnF
          have e2 : ((keptF ids fs ++ mid).map fileR).take m = (keptF ids fs).map fileR := by
            rw [List.map_append, List.take_left' (by rw [List.length_map]; exact hLen)]
          rw [e2] at ho5; exact ho5)
        have HGE := Lib.hid (grown_trans hgr hg5)
        have HLE := Lib.hid hLen
        have hmc : m < cf := by
          have : nf ≤ cf := by
            rcases hOw.2 with ⟨h, _⟩ | ⟨_, _, _, h, _, _, h1, _⟩
            · cases h
            · injection h with _ _ h3; omega
          omega
        have hmc1 : ¬ cf = m := by omega
        have hmc2 : ¬ m = cf := by omega
        clear hOw hLen ho5 hg5 hgr HLen HOw e
        go_wp2_with fail
        go_ret
        rw [HLE.out]
        exact ⟨rfl, HO5.out, HGE.out⟩
end Go.Proofs.YtckiloacbanbmaaGreat.DOk
