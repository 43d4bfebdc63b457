/- The model's DiskOk behind its first condition. -/
import Derived.Test.YtfkdfabbpebljaaGreatHead
import Derived.Deep.DeepCutAuto
import Derived.IntWalk
namespace Go.Proofs.YtfkdfabbpebljaaGreat.DOk
open Go.RowKit Go.Proofs.YtfkdfabbpebljaaGreat.Bytes Go.Proofs.YtfkdfabbpebljaaGreat.Rows_
open Go.Proofs.YtfkdfabbpebljaaGreat.Made (madeB nb)
set_option linter.unusedVariables false

def FileAt (next : Int) (fs : List FileD) (j : Nat) (h : j < fs.length) : Prop :=
  1 ≤ fs[j].id ∧ fs[j].id < next ∧ (∀ _ : 0 < j, (fs[j - 1]'(by omega)).id < fs[j].id) ∧ 0 ≤ fs[j].safe ∧ fs[j].safe ≤ fs[j].n
def KeptAt (ks : List LinkD) (j : Nat) (h : j < ks.length) : Prop :=
  madeB nb 16 ks[j].1.data.toList = true ∧ ∀ _ : 0 < j, Op.bytesLess (ks[j - 1]'(by omega)).1.toList ks[j].1.toList = true
def IdAt (fids ids : List Int) (j : Nat) (h : j < ids.length) : Prop := hasI (ids.take j) ids[j] = false ∧ hasI fids ids[j] = true
def dirAt (ks : List LinkD) (ts : List TurnD) : List LinkD := ts.foldl turnD ks
def TurnAt (ks : List LinkD) (ts : List TurnD) (j : Nat) (h : j < ts.length) : Prop := turnOkS (dirAt ks (ts.take j)) ts[j] = true
def fidsD (fs : List FileD) : List Int := fs.map (·.id)
/-- what the model asks behind the disk's numbers -/
def RestOk (room next : Int) (fs : List FileD) (ks : List LinkD) (ts : List TurnD) : Prop :=
  ((usedD fs : Nat) : Int) ≤ room ∧ (∀ j h, FileAt next fs j h) ∧ (∀ j h, KeptAt ks j h) ∧ (idsD ks ts).length = fs.length ∧ (∀ j h, IdAt (fidsD fs) (idsD ks ts) j h) ∧ ∀ j h, TurnAt ks ts j h
theorem fids_snoc (fs : List FileD) (k : Nat) (h : k < fs.length) : fidsD (fs.take (k + 1)) = fidsD (fs.take k) ++ [fs[k].id] := by
  rw [List.take_succ_eq_append_getElem h]; unfold fidsD; rw [List.map_append]; rfl
theorem ans_no {P : Prop} {B : Nat} {w w' : World} (h : ¬ P) (hb : Below B w w') : Ans P B w (.returned (.bool false)) w' := ⟨false, rfl, ⟨(fun e => by cases e), (fun p => absurd p h)⟩, hb⟩
theorem ans_yes {P : Prop} {B : Nat} {w w' : World} (h : P) (hb : Below B w w') : Ans P B w (.returned (.bool true)) w' := ⟨true, rfl, ⟨fun _ => h, fun _ => rfl⟩, hb⟩
theorem upto {n : Nat} {P : ∀ j, j < n → Prop} {k : Nat} (h : ∀ j (hj : j < n), j < k → P j hj) (hk : ∀ hk : k < n, P k hk) : ∀ j (hj : j < n), j < k + 1 → P j hj := by
  intro j hj hlt
  rcases Nat.lt_or_ge j k with h1 | h1
  · exact h j hj h1
  · have : j = k := by omega
    subst this; exact hk hj

set_option maxRecDepth 100000 in
set_option maxHeartbeats 12800000 in
theorem spec_rest (room fuse next : Int) (F : Option Addr) (nf cf : Nat) (K : Option Addr) (nk ck : Nat) (T : Option Addr) (nt ct : Nat) (fs : List FileD) (ks : List LinkD) (ts : List TurnD) (w : World)
    (hf : RdF w w.heap.size F fs) (hfl : fs.length = nf) (hu : usedD fs ≤ 1099511627776)
    (hk : RdL w w.heap.size K ks) (hkl : ks.length = nk) (hks : ∀ x ∈ ks, x.1.size ≤ maxLen)
    (ht : RdT w w.heap.size T ts) (htl : ts.length = nt) (hts : ∀ x ∈ ts, x.name.size ≤ maxLen ∧ x.to_.size ≤ maxLen)
    (h0 : ¬ room < 0) (h1 : ¬ 400000 < room) (h2 : ¬ fuse < -1) (h3 : ¬ 1000 < fuse) (h4 : ¬ next < 1) (h5 : ¬ 1000000 < next) (h6 : ¬ (10 : Int) < nf) (h7 : ¬ (10 : Int) < nk) (h8 : ¬ (30 : Int) < nt) :
    Calls Tryz.prog 19 #[.agg #[.int .i64 room, .int .i64 fuse, .int .i64 next, .slice F nf cf, .slice K nk ck, .slice T nt ct]] w (Ans (RestOk room next fs ks ts) w.heap.size w) := by
  have HR := Lib.hid hf
  have HFL := Lib.hid hfl
  have HK := Lib.hid hk
  have HKL := Lib.hid hkl
  have HKS := Lib.hid hks
  have HT := Lib.hid ht
  have HTL := Lib.hid htl
  have HTS := Lib.hid hts
  have hU := Lib.hid (fun W (h : RdF W W.heap.size F fs) => l02Used_any room fuse next F nf cf K nk ck T nt ct fs W h hfl (by omega) hu)
  have hI := Lib.hid (fun W (h : RdL W W.heap.size K ks) (h' : RdT W W.heap.size T ts) => l02Ids_any room fuse next F nf cf K nk ck T nt ct ks ts W h hkl (by omega) h' htl (by omega))
  have n6 : nf ≤ 10 := by omega
  have n7 : nk ≤ 10 := by omega
  have n8 : nt ≤ 30 := by omega
  have hb0 := Lib.hid ((Below.refl w.heap.size w).alloc (Nat.le_refl _) (.cells #[.int .i64 room, .int .i64 fuse, .int .i64 next, .slice F nf cf, .slice K nk ck, .slice T nt ct] 36))
  have hbS := Lib.hid (show (w.alloc (.cells #[.int .i64 room, .int .i64 fuse, .int .i64 next, .slice F nf cf, .slice K nk ck, .slice T nt ct] 36)).heap.size = w.heap.size + 1 by simp)
  have hbC := Lib.hid (show ∀ j v, #[Value.int .i64 room, .int .i64 fuse, .int .i64 next, .slice F nf cf, .slice K nk ck, .slice T nt ct][j]? = some v → (w.alloc (.cells #[.int .i64 room, .int .i64 fuse, .int .i64 next, .slice F nf cf, .slice K nk ck, .slice T nt ct] 36)).cell? ⟨w.heap.size, j, none⟩ = some v from fun j v h => by rw [World.cell?_alloc_at _ _ _ _ rfl]; exact h)
  clear hf hfl hk hkl hks ht htl hts
  go_enter Tryz.func19, Tryz.ntmps19
  go_upto_region 1 with fail
  go_cut [66] (fun s wx => s = .bool (decide (room < (usedD fs : Nat))) ∧ Below (w.heap.size + 1) (w.alloc (.cells #[.int .i64 room, .int .i64 fuse, .int .i64 next, .slice F nf cf, .slice K nk ck, .slice T nt ct] 36)) wx)
  case first =>
    have d0 : decide (room < 0) = false := decide_eq_false h0
    have d1 : decide (400000 < room) = false := decide_eq_false h1
    have d2 : decide (fuse < -1) = false := decide_eq_false h2
    have d3 : decide (1000 < fuse) = false := decide_eq_false h3
    have d4 : decide (next < 1) = false := decide_eq_false h4
    have d5 : decide (1000000 < next) = false := decide_eq_false h5
    have d6 : decide ((10 : Int) < nf) = false := decide_eq_false h6
    have d7 : decide ((10 : Int) < nk) = false := decide_eq_false h7
    have d8 : decide ((30 : Int) < nt) = false := decide_eq_false h8
    clear h0 h1 h2 h3 h4 h5 h6 h7 h8 n6 n7 n8 hbC hbS hI HKS HTS HT HK
    generalize usedD fs = u at *
    go_region_with ((go_at_call 26; refine (hU.out _ ?_).mono ?_; exact (HR.out.below (Nat.le_refl _) hb0.out).more (by simp); rintro e v1 ⟨rfl, hb1'⟩; have hb1 : Below (w.heap.size + 1) _ v1 := Below.mono (undrew hb1') (by simp); have hc1 := (bcell hb1).1; clear hb1'))
    all_goals
      have HB1 := Lib.hid hb1
      clear hb1 hc1
      go_wp2_with fail
      go_meet
      case rel => exact ⟨rfl, HB1.out⟩
  case rest =>
    obtain ⟨rfl, hb⟩ := hcut
    generalize w.alloc (.cells #[.int .i64 room, .int .i64 fuse, .int .i64 next, .slice F nf cf, .slice K nk ck, .slice T nt ct] 36) = W0 at *
    have HBc := Lib.hid hb
    clear hb
    by_cases h9 : room < (usedD fs : Nat)
    · have d9 : decide (room < (usedD fs : Nat)) = true := decide_eq_true h9
      have HN := Lib.hid (show ¬ RestOk room next fs ks ts from fun h => absurd h.1 (by omega))
      generalize usedD fs = u at *
      go_wp2_with fail
      go_ret
      exact ans_no HN.out (hb0.out.trans (HBc.out.mono (by omega)))
    · have d9 : decide (room < (usedD fs : Nat)) = false := decide_eq_false h9
      have HAll0 := Lib.hid (show (∀ j h, FileAt next fs j h) → (∀ j h, KeptAt ks j h) → (idsD ks ts).length = fs.length → (∀ j h, IdAt (fidsD fs) (idsD ks ts) j h) → (∀ j h, TurnAt ks ts j h) → RestOk room next fs ks ts from fun a b c d e => ⟨by omega, a, b, c, d, e⟩)
      generalize usedD fs = u at *
      have q3 : wc.cell? ⟨w.heap.size, 3, none⟩ = some (.slice F nf cf) := (HBc.out.cell (p := ⟨w.heap.size, 3, none⟩) (by show w.heap.size < w.heap.size + 1; omega)).trans (hbC.out 3 _ rfl)
      have he := Lib.hid (own_empty wc 3 1)
      have hzc : w.heap.size + 1 ≤ wc.heap.size := by have := HBc.out.size; rw [hbS.out] at this; omega
      have hzl : w.heap.size < wc.heap.size := by omega
      obtain ⟨wo, rfl⟩ : ∃ wo : World, wo = wc := ⟨_, rfl⟩
      go_wp2_with fail
      go_loopw [3, 71] (fun v i wr => ∃ k A' c', k ≤ nf ∧ i = .int .i64 (k : Nat) ∧ v = .slice A' k c' ∧ OwnI wr (w.heap.size + 1) A' k c' (fidsD (fs.take k)) ∧ Below (w.heap.size + 1) W0 wr ∧ Hid (∀ j (hj : j < fs.length), j < k → FileAt next fs j hj)) (fun _ i _ => nf - (intOf i).toNat)
      case atStart => exact ⟨0, _, _, Nat.zero_le _, rfl, rfl, (show OwnI _ wo.heap.size _ 0 0 [] from he.out).more hzc, HBc.out.alloc hzc _, Lib.hid (fun j _ h => absurd h (by omega))⟩
      case round =>
        obtain ⟨k, A', c', hk, rfl, rfl, ho, hb, HA⟩ := hrel
        clear q3 HBc he hzc hzl
        have hz : w.heap.size + 1 ≤ wr.heap.size := by have := hb.size; rw [hbS.out] at this; omega
        have hzr : w.heap.size < wr.heap.size := by omega
        have q2 : wr.cell? ⟨w.heap.size, 2, none⟩ = some (.int .i64 next) := (hb.cell (p := ⟨w.heap.size, 2, none⟩) (by show w.heap.size < w.heap.size + 1; omega)).trans (hbC.out 2 _ rfl)
        have q3 : wr.cell? ⟨w.heap.size, 3, none⟩ = some (.slice F nf cf) := (hb.cell (p := ⟨w.heap.size, 3, none⟩) (by show w.heap.size < w.heap.size + 1; omega)).trans (hbC.out 3 _ rfl)
        by_cases hlt : k < nf
        · have hlt' : k < fs.length := by rw [HFL.out]; exact hlt
          obtain ⟨b, o, rfl, hB, hc0, hc1, hc2⟩ := (HR.out.below (Nat.le_refl _) (hb0.out.trans (hb.mono (by omega)))).at_ hlt'
          have HB := Lib.hid hb
          have HS := Lib.hid (fids_snoc fs k hlt')
          have HFA := Lib.hid (show FileAt next fs k hlt' ↔ (1 ≤ fs[k].id ∧ fs[k].id < next ∧ (∀ _ : 0 < k, (fs[k - 1]'(by omega)).id < fs[k].id) ∧ 0 ≤ fs[k].safe ∧ fs[k].safe ≤ fs[k].n) from Iff.rfl)
          have HBad := Lib.hid (show ¬ FileAt next fs k hlt' → ¬ RestOk room next fs ks ts from fun hn h => hn (h.2.1 k hlt'))
          clear hb
          have HBf := Lib.hid (fun (o : Obj) => hb0.out.trans ((HB.out.alloc hz o).mono (by omega)))
          rcases Nat.eq_zero_or_pos k with hk0 | hk0
          · have g0 : ¬ (0 : Int) < (k : Int) := by omega
            have dk : decide ((0 : Int) < (k : Int)) = false := decide_eq_false g0
            have dk' : decide (0 < k) = false := decide_eq_false (by omega)
            generalize fs[k].id = x0 at *
            generalize fs[k].A = x1 at *
            generalize fs[k].n = x2 at *
            generalize fs[k].c = x3 at *
            generalize fs[k].safe = x4 at *
            have hk0' : k ≤ 0 := by omega
            clear hk0
            by_cases c1 : x0 < 1
            · have dc1 : decide (x0 < 1) = true := decide_eq_true c1
              have HN := Lib.hid (HBad.out (fun h => by have := HFA.out.1 h; omega))
              go_wp2_with fail
              go_quiet (fail)
              go_wp2_with fail
              go_ret
              exact ans_no HN.out (below_drewN (HBf.out _) _)
            · have dc1 : decide (x0 < 1) = false := decide_eq_false c1
              by_cases c2 : next ≤ x0
              · have dc2 : decide (next ≤ x0) = true := decide_eq_true c2
                have HN := Lib.hid (HBad.out (fun h => by have := HFA.out.1 h; omega))
                go_wp2_with fail
                go_quiet (fail)
                go_wp2_with fail
                go_ret
                exact ans_no HN.out (below_drewN (HBf.out _) _)
              · have dc2 : decide (next ≤ x0) = false := decide_eq_false c2
                by_cases c4 : x4 < 0
                · have dc4 : decide (x4 < 0) = true := decide_eq_true c4
                  have HN := Lib.hid (HBad.out (fun h => by have := HFA.out.1 h; omega))
                  go_wp2_with fail
                  go_quiet (fail)
                  go_wp2_with fail
                  go_ret
                  exact ans_no HN.out (below_drewN (HBf.out _) _)
                · have dc4 : decide (x4 < 0) = false := decide_eq_false c4
                  by_cases c5 : (x2 : Int) < x4
                  · have dc5 : decide ((x2 : Int) < x4) = true := decide_eq_true c5
                    have HN := Lib.hid (HBad.out (fun h => by have := HFA.out.1 h; omega))
                    go_wp2_with fail
                    go_quiet (fail)
                    go_wp2_with fail
                    go_ret
                    exact ans_no HN.out (below_drewN (HBf.out _) _)
                  · have dc5 : decide ((x2 : Int) < x4) = false := decide_eq_false c5
                    have HG := Lib.hid (upto HA.out (fun h => HFA.out.2 ⟨by omega, by omega, fun h => absurd h (by omega), by omega, by omega⟩))
                    have HQ := Lib.hid (fun q => (⟨by rw [World.cell?_drewN, World.cell?_alloc_at _ _ _ _ rfl]; rfl, below_drewN (HB.out.alloc hz (.cells #[.int .i64 x0, .slice x1 x2 x3, .int .i64 x4] 58)) q, ho.alloc (.cells #[.int .i64 x0, .slice x1 x2 x3, .int .i64 x4] 58), by show wr.heap.size < (wr.alloc (.cells #[.int .i64 x0, .slice x1 x2 x3, .int .i64 x4] 58)).heap.size; simp⟩ :
                      ((wr.alloc (.cells #[.int .i64 x0, .slice x1 x2 x3, .int .i64 x4] 58)).drewN q).cell? ⟨wr.heap.size, 0, none⟩ = some (.int .i64 x0) ∧ Below (w.heap.size + 1) W0 ((wr.alloc (.cells #[.int .i64 x0, .slice x1 x2 x3, .int .i64 x4] 58)).drewN q) ∧ OwnI ((wr.alloc (.cells #[.int .i64 x0, .slice x1 x2 x3, .int .i64 x4] 58)).drewN q) (w.heap.size + 1) A' k c' (fidsD (fs.take k)) ∧ wr.heap.size < ((wr.alloc (.cells #[.int .i64 x0, .slice x1 x2 x3, .int .i64 x4] 58)).drewN q).heap.size))
                    go_wp2_with fail
                    go_quiet (fail)
                    obtain ⟨wq, hwq⟩ : ∃ wq, wq = (wr.alloc (.cells #[.int .i64 x0, .slice x1 x2 x3, .int .i64 x4] 58)).drewN nq := ⟨_, rfl⟩
                    rw [← hwq]
                    have hq := HQ.out nq
                    rw [← hwq] at hq
                    obtain ⟨bx0, hbq, hoq, hsq⟩ := hq
                    have HBQ := Lib.hid hbq
                    clear hwq HQ hbq ho
                    go_wp2_with (at_builtin; refine append_int rfl _ _ rfl rfl wq.heap.size rfl rfl hoq (by omega) (by omega) ?_)
                    intro A2 c2 w2 ho2 hb2 hg2
                    have HO := Lib.hid (show OwnI w2 (w.heap.size + 1) A2 (k + 1) c2 (fidsD (fs.take (k + 1))) by rw [HS.out]; exact ho2)
                    have HB2 := Lib.hid (HBQ.out.trans hb2)
                    clear hoq ho2 hb2 hg2 bx0
                    go_wp2_with fail
                    exact ⟨⟨k + 1, A2, c2, by omega, by go_num, rfl, HO.out, HB2.out, HG⟩, by simp [intOf]; omega⟩
          · have hp : k - 1 < fs.length := by omega
            obtain ⟨b', o', e', _, pc0, _, _⟩ := (HR.out.below (Nat.le_refl _) (hb0.out.trans (HB.out.mono (by omega)))).at_ hp
            obtain ⟨rfl, rfl⟩ : b' = b ∧ o' = o := by cases e'; exact ⟨rfl, rfl⟩
            clear e'
            have HY := Lib.hid (show ∀ h : 0 < k, (fs[k - 1]'(by omega)).id = (fs[k - 1]'hp).id from fun _ => rfl)
            generalize fs[k].id = x0 at *
            generalize fs[k].A = x1 at *
            generalize fs[k].n = x2 at *
            generalize fs[k].c = x3 at *
            generalize fs[k].safe = x4 at *
            generalize hy : (fs[k - 1]'hp).id = y at *
            have HYy := Lib.hid (show ∀ h : 0 < k, (fs[k - 1]'(by omega)).id = y from fun _ => hy)
            clear hy HY
            have hBr : b' < wr.heap.size := by omega
            have IW := Lib.hid (show IntKind.i64.wrap ((k : Int) - 1) = (k : Int) - 1 ∧ (0 : Int) ≤ (k : Int) - 1 ∧ (1 : Int) ≤ (k : Int) ∧ (k : Int) - 1 < (nf : Int) ∧ ((k : Int) - 1).toNat = k - 1 from ⟨IntWalk.i64_in _ (by omega), by omega, by omega, by omega, by omega⟩)
            have g0 : (0 : Int) < (k : Int) := by omega
            have dk : decide ((0 : Int) < (k : Int)) = true := decide_eq_true g0
            have dk' : decide (0 < k) = true := decide_eq_true hk0
            by_cases c1 : x0 < 1
            · have dc1 : decide (x0 < 1) = true := decide_eq_true c1
              have HN := Lib.hid (HBad.out (fun h => by have := HFA.out.1 h; omega))
              go_wp2_with fail
              go_quiet (fail)
              go_wp2_with fail
              go_ret
              exact ans_no HN.out (below_drewN (HBf.out _) _)
            · have dc1 : decide (x0 < 1) = false := decide_eq_false c1
              by_cases c2 : next ≤ x0
              · have dc2 : decide (next ≤ x0) = true := decide_eq_true c2
                have HN := Lib.hid (HBad.out (fun h => by have := HFA.out.1 h; omega))
                go_wp2_with fail
                go_quiet (fail)
                go_wp2_with fail
                go_ret
                exact ans_no HN.out (below_drewN (HBf.out _) _)
              · have dc2 : decide (next ≤ x0) = false := decide_eq_false c2
                by_cases c3 : x0 ≤ y
                · have dc3 : decide (x0 ≤ y) = true := decide_eq_true c3
                  have HN := Lib.hid (HBad.out (fun h => by have h1 := (HFA.out.1 h).2.2.1 hk0; have h2 := HYy.out hk0; omega))
                  go_wp2_with fail
                  obtain ⟨iw0, iw1, iw2, iw3, iw4⟩ := IW.out
                  go_quiet (fail)
                  clear iw0 iw1 iw2 iw3 iw4
                  go_wp2_with fail
                  go_ret
                  exact ans_no HN.out (below_drewN (HBf.out _) _)
                · have dc3 : decide (x0 ≤ y) = false := decide_eq_false c3
                  by_cases c4 : x4 < 0
                  · have dc4 : decide (x4 < 0) = true := decide_eq_true c4
                    have HN := Lib.hid (HBad.out (fun h => by have := HFA.out.1 h; omega))
                    go_wp2_with fail
                    obtain ⟨iw0, iw1, iw2, iw3, iw4⟩ := IW.out
                    go_quiet (fail)
                    clear iw0 iw1 iw2 iw3 iw4
                    go_wp2_with fail
                    go_ret
                    exact ans_no HN.out (below_drewN (HBf.out _) _)
                  · have dc4 : decide (x4 < 0) = false := decide_eq_false c4
                    by_cases c5 : (x2 : Int) < x4
                    · have dc5 : decide ((x2 : Int) < x4) = true := decide_eq_true c5
                      have HN := Lib.hid (HBad.out (fun h => by have := HFA.out.1 h; omega))
                      go_wp2_with fail
                      obtain ⟨iw0, iw1, iw2, iw3, iw4⟩ := IW.out
                      go_quiet (fail)
                      clear iw0 iw1 iw2 iw3 iw4
                      go_wp2_with fail
                      go_ret
                      exact ans_no HN.out (below_drewN (HBf.out _) _)
                    · have dc5 : decide ((x2 : Int) < x4) = false := decide_eq_false c5
                      have HG := Lib.hid (upto HA.out (fun h => HFA.out.2 ⟨by omega, by omega, fun h => by have h2 := HYy.out h; omega, by omega, by omega⟩))
                      have HQ := Lib.hid (fun q => (⟨by rw [World.cell?_drewN, World.cell?_alloc_at _ _ _ _ rfl]; rfl, below_drewN (HB.out.alloc hz (.cells #[.int .i64 x0, .slice x1 x2 x3, .int .i64 x4] 58)) q, ho.alloc (.cells #[.int .i64 x0, .slice x1 x2 x3, .int .i64 x4] 58), by show wr.heap.size < (wr.alloc (.cells #[.int .i64 x0, .slice x1 x2 x3, .int .i64 x4] 58)).heap.size; simp⟩ :
                        ((wr.alloc (.cells #[.int .i64 x0, .slice x1 x2 x3, .int .i64 x4] 58)).drewN q).cell? ⟨wr.heap.size, 0, none⟩ = some (.int .i64 x0) ∧ Below (w.heap.size + 1) W0 ((wr.alloc (.cells #[.int .i64 x0, .slice x1 x2 x3, .int .i64 x4] 58)).drewN q) ∧ OwnI ((wr.alloc (.cells #[.int .i64 x0, .slice x1 x2 x3, .int .i64 x4] 58)).drewN q) (w.heap.size + 1) A' k c' (fidsD (fs.take k)) ∧ wr.heap.size < ((wr.alloc (.cells #[.int .i64 x0, .slice x1 x2 x3, .int .i64 x4] 58)).drewN q).heap.size))
                      go_wp2_with fail
                      obtain ⟨iw0, iw1, iw2, iw3, iw4⟩ := IW.out
                      go_quiet (fail)
                      clear iw0 iw1 iw2 iw3 iw4
                      obtain ⟨wq, hwq⟩ : ∃ wq, wq = (wr.alloc (.cells #[.int .i64 x0, .slice x1 x2 x3, .int .i64 x4] 58)).drewN nq := ⟨_, rfl⟩
                      rw [← hwq]
                      have hq := HQ.out nq
                      rw [← hwq] at hq
                      obtain ⟨bx0, hbq, hoq, hsq⟩ := hq
                      have HBQ := Lib.hid hbq
                      clear hwq HQ hbq ho
                      go_wp2_with (at_builtin; refine append_int rfl _ _ rfl rfl wq.heap.size rfl rfl hoq (by omega) (by omega) ?_)
                      intro A2 c2 w2 ho2 hb2 hg2
                      have HO := Lib.hid (show OwnI w2 (w.heap.size + 1) A2 (k + 1) c2 (fidsD (fs.take (k + 1))) by rw [HS.out]; exact ho2)
                      have HB2 := Lib.hid (HBQ.out.trans hb2)
                      clear hoq ho2 hb2 hg2 bx0
                      go_wp2_with fail
                      exact ⟨⟨k + 1, A2, c2, by omega, by go_num, rfl, HO.out, HB2.out, HG⟩, by simp [intOf]; omega⟩
        · obtain rfl : nf = k := by omega
          have e : fs.take nf = fs := List.take_of_length_le (by rw [HFL.out]; exact Nat.le_refl _)
          rw [e] at ho
          have HAF := Lib.hid (show ∀ j h, FileAt next fs j h from fun j h => HA.out j h (by have := HFL.out; omega))
          have q4 : wr.cell? ⟨w.heap.size, 4, none⟩ = some (.slice K nk ck) := (hb.cell (p := ⟨w.heap.size, 4, none⟩) (by show w.heap.size < w.heap.size + 1; omega)).trans (hbC.out 4 _ rfl)
          have HB := Lib.hid hb
          have HO := Lib.hid ho
          clear hb ho e q2 q3 hlt hk HA
          obtain ⟨wo1, rfl⟩ : ∃ wo1 : World, wo1 = wr := ⟨_, rfl⟩
          go_wp2_with fail
          go_loopw [124] (fun i wr => ∃ k : Nat, k ≤ nk ∧ i = .int .i64 k ∧ OwnI wr (w.heap.size + 1) A' nf c' (fidsD fs) ∧ Below (w.heap.size + 1) W0 wr ∧ Hid (∀ j (hj : j < ks.length), j < k → KeptAt ks j hj)) (fun i _ => nk - (intOf i).toNat)
          case atStart => exact ⟨0, Nat.zero_le _, rfl, HO.out, HB.out, Lib.hid (fun j _ h => absurd h (by omega))⟩
          case round =>
            clear q4 HB HO hz hzr
            obtain ⟨k, hk, rfl, ho, hb, HA⟩ := hrel
            have hz : w.heap.size + 1 ≤ wr.heap.size := by have := hb.size; rw [hbS.out] at this; omega
            have hzr : w.heap.size < wr.heap.size := by omega
            by_cases hlt : k < nk
            · have hlt' : k < ks.length := by rw [HKL.out]; exact hlt
              obtain ⟨b, o, rfl, hB, hc0, hc1⟩ := (HK.out.below (Nat.le_refl _) (hb0.out.trans (hb.mono (by omega)))).at_ hlt'
              have q4 : wr.cell? ⟨w.heap.size, 4, none⟩ = some (.slice (some ⟨b, o, none⟩) nk ck) := (hb.cell (p := ⟨w.heap.size, 4, none⟩) (by show w.heap.size < w.heap.size + 1; omega)).trans (hbC.out 4 _ rfl)
              have HB := Lib.hid hb
              have hN := Lib.hid (fun W => fnExactNameOk.spec_any ks[k].1 W (HKS.out _ (List.getElem_mem hlt')))
              have HKA := Lib.hid (show KeptAt ks k hlt' ↔ (madeB nb 16 ks[k].1.data.toList = true ∧ ∀ _ : 0 < k, Op.bytesLess (ks[k - 1]'(by omega)).1.toList ks[k].1.toList = true) from Iff.rfl)
              have HBad := Lib.hid (show ¬ KeptAt ks k hlt' → ¬ RestOk room next fs ks ts from fun hn h => hn (h.2.2.1 k hlt'))
              have HBf := Lib.hid (fun (o : Obj) => hb0.out.trans ((HB.out.alloc hz o).mono (by omega)))
              have HBr := Lib.hid (fun (o : Obj) => HB.out.alloc hz o)
              clear hb
              rcases Nat.eq_zero_or_pos k with hk0 | hk0
              · have g0 : ¬ (0 : Int) < (k : Int) := by omega
                have dk : decide ((0 : Int) < (k : Int)) = false := decide_eq_false g0
                have dk' : decide (0 < k) = false := decide_eq_false (by omega)
                generalize madeB nb 16 ks[k].1.data.toList = nkb at *
                generalize ks[k].1 = x0 at *
                generalize ks[k].2 = x1 at *
                have hk0' : k ≤ 0 := by omega
                clear hk0
                cases nkb
                · have HN := Lib.hid (HBad.out (fun h => by have := (HKA.out.1 h).1; cases this))
                  go_wp2_with fail
                  go_quiet ((go_at_call 52; exact Calls.quiet_of_same ((hN.out _).mono fun _ _ ⟨a, b⟩ => ⟨a, b.symm⟩)))
                  go_wp2_with fail
                  go_ret
                  exact ans_no HN.out (below_drewN (HBf.out _) _)
                · have HG := Lib.hid (upto HA.out (fun h => HKA.out.2 ⟨rfl, fun h => absurd h (by omega)⟩))
                  go_wp2_with fail
                  go_quiet ((go_at_call 52; exact Calls.quiet_of_same ((hN.out _).mono fun _ _ ⟨a, b⟩ => ⟨a, b.symm⟩)))
                  go_wp2_with fail
                  exact ⟨⟨k + 1, by omega, by go_num, ho.alloc _, below_drewN (HBr.out _) _, HG⟩, by simp [intOf]; omega⟩
              · have hp : k - 1 < ks.length := by omega
                obtain ⟨b', o', e', _, pc0, _⟩ := (HK.out.below (Nat.le_refl _) (hb0.out.trans (HB.out.mono (by omega)))).at_ hp
                obtain ⟨rfl, rfl⟩ : b' = b ∧ o' = o := by cases e'; exact ⟨rfl, rfl⟩
                clear e'
                have hBr : b' < wr.heap.size := by omega
                generalize madeB nb 16 ks[k].1.data.toList = nkb at *
                generalize ks[k].1 = x0 at *
                generalize ks[k].2 = x1 at *
                generalize hy : (ks[k - 1]'hp).1 = y at *
                have HYy := Lib.hid (show ∀ h : 0 < k, (ks[k - 1]'(by omega)).1 = y from fun _ => hy)
                clear hy
                have IW := Lib.hid (show IntKind.i64.wrap ((k : Int) - 1) = (k : Int) - 1 ∧ (0 : Int) ≤ (k : Int) - 1 ∧ (1 : Int) ≤ (k : Int) ∧ (k : Int) - 1 < (nk : Int) ∧ ((k : Int) - 1).toNat = k - 1 from ⟨IntWalk.i64_in _ (by omega), by omega, by omega, by omega, by omega⟩)
                have g0 : (0 : Int) < (k : Int) := by omega
                have dk : decide ((0 : Int) < (k : Int)) = true := decide_eq_true g0
                have dk' : decide (0 < k) = true := decide_eq_true hk0
                cases nkb
                · have HN := Lib.hid (HBad.out (fun h => by have := (HKA.out.1 h).1; cases this))
                  go_wp2_with fail
                  go_quiet ((go_at_call 52; exact Calls.quiet_of_same ((hN.out _).mono fun _ _ ⟨a, b⟩ => ⟨a, b.symm⟩)))
                  go_wp2_with fail
                  go_ret
                  exact ans_no HN.out (below_drewN (HBf.out _) _)
                · cases hl : Op.bytesLess y.toList x0.toList
                  · have HN := Lib.hid (HBad.out (fun h => by have h1 := (HKA.out.1 h).2 hk0; rw [HYy.out hk0, hl] at h1; cases h1))
                    go_wp2_with fail
                    obtain ⟨iw0, iw1, iw2, iw3, iw4⟩ := IW.out
                    go_quiet ((go_at_call 52; exact Calls.quiet_of_same ((hN.out _).mono fun _ _ ⟨a, b⟩ => ⟨a, b.symm⟩)))
                    clear iw0 iw1 iw2 iw3 iw4
                    go_wp2_with fail
                    go_ret
                    exact ans_no HN.out (below_drewN (HBf.out _) _)
                  · have HG := Lib.hid (upto HA.out (fun h => HKA.out.2 ⟨rfl, fun h => by rw [HYy.out h]; exact hl⟩))
                    go_wp2_with fail
                    obtain ⟨iw0, iw1, iw2, iw3, iw4⟩ := IW.out
                    go_quiet ((go_at_call 52; exact Calls.quiet_of_same ((hN.out _).mono fun _ _ ⟨a, b⟩ => ⟨a, b.symm⟩)))
                    clear iw0 iw1 iw2 iw3 iw4
                    go_wp2_with fail
                    exact ⟨⟨k + 1, by omega, by go_num, ho.alloc _, below_drewN (HBr.out _) _, HG⟩, by simp [intOf]; omega⟩
            · obtain rfl : nk = k := by omega
              have HAK := Lib.hid (show ∀ j h, KeptAt ks j h from fun j h => HA.out j h (by have := HKL.out; omega))
              have hBW := Lib.hid (hb0.out.trans (hb.mono (by omega)))
              have HRK := Lib.hid ((HK.out.below (Nat.le_refl _) hBW.out).more (Nat.le_of_lt hzr))
              have HRT := Lib.hid ((HT.out.below (Nat.le_refl _) hBW.out).more (Nat.le_of_lt hzr))
              have hcell : ∀ j v, #[Value.int .i64 room, .int .i64 fuse, .int .i64 next, .slice F nf cf, .slice K nk ck, .slice T nt ct][j]? = some v → wr.cell? ⟨w.heap.size, j, none⟩ = some v := fun j v h => (hb.cell (p := ⟨w.heap.size, j, none⟩) (by show w.heap.size < w.heap.size + 1; omega)).trans (hbC.out j v h)
              have q0 := hcell 0 _ rfl
              have q1 := hcell 1 _ rfl
              have q2 := hcell 2 _ rfl
              have q3 := hcell 3 _ rfl
              have q4 := hcell 4 _ rfl
              have q5 := hcell 5 _ rfl
              have HB := Lib.hid hb
              have HO := Lib.hid ho
              clear hb ho hlt hk HA hcell
              obtain ⟨wo2, rfl⟩ : ∃ wo2 : World, wo2 = wr := ⟨_, rfl⟩
              go_wp2_with fail
              refine (hI.out _ HRK.out HRT.out).mono ?_
              rintro e v2 ⟨A2, c2, rfl, ho2, hb2⟩
              have HB2 := Lib.hid (HB.out.trans (hb2.mono (by omega)))
              have HO2 := Lib.hid (HO.out.below (Nat.le_refl _) hb2).rd
              have HI2 := Lib.hid ho2.rd
              have hcap := ho2.cap
              have hLlen := Lib.hid (show (idsD ks ts).length = (idsD ks ts).length from rfl)
              have hsz2 : w.heap.size < v2.heap.size := by have := hb2.size; omega
              clear q0 q1 q2 q3 q4 q5 ho2 hb2 HB HO HRK HRT hBW
              have hLle : (idsD ks ts).length ≤ 40 := by
                have h1 := tids_le ts; have h2 := HKL.out; have h3 := HTL.out
                have : (idsD ks ts).length = ks.length + (tids ts).length := by simp [idsD]
                omega
              have hHI := Lib.hid (fun W (k : Nat) (c : Nat) (z : Int) (h : RdI W v2.heap.size A2 ((idsD ks ts).take k)) (hk : k ≤ (idsD ks ts).length) => l02HasInt_any A2 k c ((idsD ks ts).take k) z W _ h (by rw [List.length_take]; omega) (by omega))
              have hHF := Lib.hid (fun W (z : Int) (h : RdI W v2.heap.size A' (fidsD fs)) => l02HasInt_any A' nf c' (fidsD fs) z W _ h (by unfold fidsD; rw [List.length_map, HFL.out]) (by omega))
              have hIA := Lib.hid (show ∀ k (h : k < (idsD ks ts).length), IdAt (fidsD fs) (idsD ks ts) k h ↔ (hasI ((idsD ks ts).take k) (idsD ks ts)[k] = false ∧ hasI (fidsD fs) (idsD ks ts)[k] = true) from fun _ _ => Iff.rfl)
              have hBadL := Lib.hid (show ¬ (idsD ks ts).length = nf → ¬ RestOk room next fs ks ts from fun hn h => hn (by rw [← HFL.out]; exact h.2.2.2.1))
              have hBadI := Lib.hid (show ∀ k h, ¬ IdAt (fidsD fs) (idsD ks ts) k h → ¬ RestOk room next fs ks ts from fun k h hn h' => hn (h'.2.2.2.2.1 k h))
              have hBadT := Lib.hid (show ∀ k h, ¬ TurnAt ks ts k h → ¬ RestOk room next fs ks ts from fun k h hn h' => hn (h'.2.2.2.2.2 k h))
              have hAll := Lib.hid (show (idsD ks ts).length = nf → (∀ j h, IdAt (fidsD fs) (idsD ks ts) j h) → (∀ j h, TurnAt ks ts j h) → RestOk room next fs ks ts from fun a b c => HAll0.out HAF.out HAK.out (by rw [HFL.out]; exact a) b c)
              generalize hIDS : idsD ks ts = IDS at *
              clear hIDS hLlen
              by_cases hL : IDS.length = nf
              · have hLn : (IDS.length != nf) = false := by simp [hL]
                have hLz : ((IDS.length : Int) != (nf : Int)) = false := by simp [hL]
                have HL := Lib.hid hL
                clear hL
                have q4 : v2.cell? ⟨w.heap.size, 4, none⟩ = some (.slice K nk ck) := (HB2.out.cell (p := ⟨w.heap.size, 4, none⟩) (by show w.heap.size < w.heap.size + 1; omega)).trans (hbC.out 4 _ rfl)
                have q5 : v2.cell? ⟨w.heap.size, 5, none⟩ = some (.slice T nt ct) := (HB2.out.cell (p := ⟨w.heap.size, 5, none⟩) (by show w.heap.size < w.heap.size + 1; omega)).trans (hbC.out 5 _ rfl)
                go_wp2_with fail
                go_loop [159] (fun i => ∃ k : Nat, k ≤ IDS.length ∧ i = .int .i64 k ∧ Hid (∀ j (hj : j < IDS.length), j < k → IdAt (fidsD fs) IDS j hj)) (fun i => IDS.length - (intOf i).toNat)
                case atStart => exact ⟨0, Nat.zero_le _, rfl, Lib.hid (fun j _ h => absurd h (by omega))⟩
                case round =>
                  obtain ⟨k, hk, rfl, HA⟩ := hrel
                  by_cases hlt : k < IDS.length
                  · obtain ⟨b, o, rfl, hB, hc⟩ := HI2.out.at_ hlt
                    have h1 := Lib.hid (fun W c z (h : RdI W v2.heap.size (some ⟨b, o, none⟩) (IDS.take k)) => hHI.out W k c z h (Nat.le_of_lt hlt))
                    have HRT1 := Lib.hid (HI2.out.take k)
                    have hA := Lib.hid (hIA.out k hlt)
                    have hBad := Lib.hid (hBadI.out k hlt)
                    generalize hz0 : IDS[k] = z at *
                    clear hz0
                    have hF := Lib.hid (hHF.out _ z HO2.out)
                    cases hb1 : hasI (IDS.take k) z
                    · have HB1 := Lib.hid hb1
                      clear hb1
                      cases hb2 : hasI (fidsD fs) z
                      · have HB2' := Lib.hid hb2
                        clear hb2
                        have HN := Lib.hid (hBad.out (fun h => by have := (hA.out.1 h).2; rw [HB2'.out] at this; cases this))
                        go_wp2_with fail
                        refine (h1.out _ _ z HRT1.out).mono ?_
                        rintro e w' ⟨rfl, rfl⟩
                        rw [HB1.out]
                        go_wp2_with fail
                        refine hF.out.mono ?_
                        rintro e w' ⟨rfl, rfl⟩
                        rw [HB2'.out]
                        go_wp2_with fail
                        go_ret
                        exact ans_no HN.out (hb0.out.trans (HB2.out.mono (by omega)))
                      · have HB2' := Lib.hid hb2
                        clear hb2
                        have HG := Lib.hid (upto HA.out (fun h => hA.out.2 ⟨HB1.out, HB2'.out⟩))
                        go_wp2_with fail
                        refine (h1.out _ _ z HRT1.out).mono ?_
                        rintro e w' ⟨rfl, rfl⟩
                        rw [HB1.out]
                        go_wp2_with fail
                        refine hF.out.mono ?_
                        rintro e w' ⟨rfl, rfl⟩
                        rw [HB2'.out]
                        go_wp2_with fail
                        exact ⟨⟨k + 1, by omega, by go_num, HG⟩, by simp [intOf]; omega⟩
                    · have HB1 := Lib.hid hb1
                      clear hb1
                      have HN := Lib.hid (hBad.out (fun h => by have := (hA.out.1 h).1; rw [HB1.out] at this; cases this))
                      go_wp2_with fail
                      refine (h1.out _ _ z HRT1.out).mono ?_
                      rintro e w' ⟨rfl, rfl⟩
                      rw [HB1.out]
                      go_wp2_with fail
                      go_ret
                      exact ans_no HN.out (hb0.out.trans (HB2.out.mono (by omega)))
                  · have HAI := Lib.hid (show ∀ j h, IdAt (fidsD fs) IDS j h from fun j h => HA.out j h (by omega))
                    obtain rfl : k = IDS.length := by omega
                    have HRK2 := Lib.hid ((HK.out.below (Nat.le_refl _) (hb0.out.trans (HB2.out.mono (by omega)))).more (Nat.le_of_lt hsz2))
                    have HT2 := Lib.hid (fun W (h : Below (w.heap.size + 1) W0 W) => HT.out.below (Nat.le_refl _) (hb0.out.trans (h.mono (by omega))))
                    clear hlt hk
                    go_wp2_with fail
                    go_loopw [11, 181] (fun v i wr => ∃ k A3 c3, k ≤ nt ∧ i = .int .i64 (k : Nat) ∧ v = .slice A3 (dirAt ks (ts.take k)).length c3 ∧ (dirAt ks (ts.take k)).length ≤ nk + k ∧ RdL wr wr.heap.size A3 (dirAt ks (ts.take k)) ∧ Below (w.heap.size + 1) W0 wr ∧ Hid (∀ j (hj : j < ts.length), j < k → TurnAt ks ts j hj)) (fun _ i _ => nt - (intOf i).toNat)
                    case atStart =>
                      refine ⟨0, K, ck, Nat.zero_le _, rfl, ?_, ?_, HRK2.out, HB2.out, Lib.hid (fun j _ h => absurd h (by omega))⟩
                      · show Value.slice K nk ck = Value.slice K ks.length ck
                        rw [HKL.out]
                      · show ks.length ≤ nk + 0
                        rw [HKL.out]; exact Nat.le_refl _
                    case round =>
                      clear q4 q5 hsz2 HRK2
                      obtain ⟨k, A3, c3, hk, rfl, rfl, hdl, hrd, hb, HA⟩ := hrel
                      have hz : w.heap.size + 1 ≤ wr.heap.size := by have := hb.size; rw [hbS.out] at this; omega
                      have hzr : w.heap.size < wr.heap.size := by omega
                      by_cases hlt : k < nt
                      · have hlt' : k < ts.length := by rw [HTL.out]; exact hlt
                        obtain ⟨b, o, rfl, hB, hc0, hc1, hc2, hc3⟩ := (HT2.out _ hb).at_ hlt'
                        have hS := Lib.hid (show dirAt ks (ts.take (k + 1)) = turnD (dirAt ks (ts.take k)) ⟨ts[k].kind, ts[k].name, ts[k].to_, ts[k].id⟩ by rw [List.take_succ_eq_append_getElem hlt']; unfold dirAt; rw [List.foldl_append]; rfl)
                        have hTA := Lib.hid (show TurnAt ks ts k hlt' ↔ turnOkS (dirAt ks (ts.take k)) ⟨ts[k].kind, ts[k].name, ts[k].to_, ts[k].id⟩ = true from Iff.rfl)
                        have hBad := Lib.hid (hBadT.out k hlt')
                        have hTS := Lib.hid (HTS.out _ (List.getElem_mem hlt'))
                        have HB := Lib.hid hb
                        have HRD := Lib.hid hrd
                        clear hb hrd
                        generalize ts[k].kind = x0 at *
                        generalize ts[k].name = x1 at *
                        generalize ts[k].to_ = x2 at *
                        generalize ts[k].id = x3 at *
                        have hOK := Lib.hid (fun W (h : RdL W W.heap.size A3 (dirAt ks (ts.take k))) => l02TurnOk_any A3 (dirAt ks (ts.take k)).length c3 (dirAt ks (ts.take k)) x0 x1 x2 x3 W h rfl (by omega) hTS.out.1 hTS.out.2)
                        have hTD := Lib.hid (fun W (h : RdL W W.heap.size A3 (dirAt ks (ts.take k))) => l02Turn_any A3 (dirAt ks (ts.take k)).length c3 (dirAt ks (ts.take k)) x0 x1 x2 x3 W h rfl (by omega))
                        have hle := Lib.hid (turnD_le (dirAt ks (ts.take k)) ⟨x0, x1, x2, x3⟩)
                        rw [← hS.out] at hTD hle
                        generalize hD0 : dirAt ks (ts.take k) = D0 at *
                        clear hD0
                        have hA0 := Lib.hid ((Below.refl wr.heap.size wr).alloc (Nat.le_refl _) (.cells #[.int .i64 x0, .string x1, .string x2, .int .i64 x3] 60))
                        have hBx := Lib.hid (HB.out.alloc hz (.cells #[.int .i64 x0, .string x1, .string x2, .int .i64 x3] 60))
                        cases hok : turnOkS D0 ⟨x0, x1, x2, x3⟩
                        · have HOK := Lib.hid hok
                          clear hok
                          have HN := Lib.hid (hBad.out (fun h => by have := hTA.out.1 h; rw [HOK.out] at this; cases this))
                          go_wp2_with fail
                          refine (hOK.out _ ((HRD.out.below (Nat.le_refl _) hA0.out).more (by simp))).mono ?_
                          rintro e v3 ⟨rfl, hb3⟩
                          rw [HOK.out]
                          have HB3 := Lib.hid (hb0.out.trans ((hBx.out.trans (hb3.mono (by simp; omega))).mono (by omega)))
                          clear hb3
                          go_wp2_with fail
                          go_ret
                          exact ans_no HN.out HB3.out
                        · have HOK := Lib.hid hok
                          clear hok
                          have HG := Lib.hid (upto HA.out (fun h => hTA.out.2 HOK.out))
                          go_wp2_with fail
                          refine (hOK.out _ ((HRD.out.below (Nat.le_refl _) hA0.out).more (by simp))).mono ?_
                          rintro e v3 ⟨rfl, hb3⟩
                          rw [HOK.out]
                          obtain ⟨hcc, _⟩ := bcell hb3
                          have p0 : v3.cell? ⟨wr.heap.size, 0, none⟩ = some (.int .i64 x0) := by rw [hcc _ _ (by simp), World.cell?_alloc_at _ _ _ _ rfl]; rfl
                          have p1 : v3.cell? ⟨wr.heap.size, 1, none⟩ = some (.string x1) := by rw [hcc _ _ (by simp), World.cell?_alloc_at _ _ _ _ rfl]; rfl
                          have p2 : v3.cell? ⟨wr.heap.size, 2, none⟩ = some (.string x2) := by rw [hcc _ _ (by simp), World.cell?_alloc_at _ _ _ _ rfl]; rfl
                          have p3 : v3.cell? ⟨wr.heap.size, 3, none⟩ = some (.int .i64 x3) := by rw [hcc _ _ (by simp), World.cell?_alloc_at _ _ _ _ rfl]; rfl
                          have hsz3 : wr.heap.size < v3.heap.size := by have := hb3.size; simp at this; omega
                          have HB3 := Lib.hid (hBx.out.trans (hb3.mono (by simp; omega)))
                          have HRD3 := Lib.hid ((HRD.out.below (Nat.le_refl _) (hA0.out.trans (hb3.mono (by simp)))).more (Nat.le_of_lt hsz3))
                          clear hb3 hcc
                          go_wp2_with fail
                          refine (hTD.out _ HRD3.out).mono ?_
                          rintro e v4 ⟨A4, c4, rfl, ho4, hb4⟩
                          have HO4 := Lib.hid ho4.rd
                          have HB4 := Lib.hid (HB3.out.trans (hb4.mono (by omega)))
                          clear ho4 hb4 p0 p1 p2 p3
                          go_wp2_with fail
                          exact ⟨⟨k + 1, A4, c4, by omega, by go_num, rfl, by have := hle.out; omega, HO4.out, HB4.out, HG⟩, by simp [intOf]; omega⟩
                      · have HAT := Lib.hid (show ∀ j h, TurnAt ks ts j h from fun j h => HA.out j h (by have := HTL.out; omega))
                        have HFin := Lib.hid (hAll.out HL.out HAI.out HAT.out)
                        have HBF := Lib.hid (hb0.out.trans (hb.mono (by omega)))
                        clear hb hrd
                        go_wp2_with fail
                        go_ret
                        exact ans_yes HFin.out HBF.out
              · have hLn : (IDS.length != nf) = true := by simp [hL]
                have hLz : ((IDS.length : Int) != (nf : Int)) = true := by simp; omega
                have HN := Lib.hid (hBadL.out hL)
                clear hL
                go_wp2_with fail
                go_ret
                exact ans_no HN.out (hb0.out.trans (HB2.out.mono (by omega)))
end Go.Proofs.YtfkdfabbpebljaaGreat.DOk
