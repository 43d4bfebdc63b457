/- The program's directoryOf and turnsOk. -/
import Derived.Test.YtckiloacbanbmaaDoorImplMap
namespace Go.Proofs.YtckiloacbanbmaaDoor.DOk
open Go.RowKit Go.Proofs.YtckiloacbanbmaaDoor.Bytes Go.Proofs.YtckiloacbanbmaaDoor.Rows_ Go.Maps Go.WideMaps
set_option linter.unusedVariables false

def putL (D : Dat) (x : LinkD) : Dat := D.put (kS x.1) (vI x.2)
def dirL (ks : List LinkD) : Dat := ks.foldl putL (.map [])
def dirM (ks : List LinkD) (ts : List TurnD) : Dat := ts.foldl applyD (dirL ks)
theorem dirL_snoc (ks : List LinkD) (k : Nat) (h : k < ks.length) : dirL (ks.take (k + 1)) = (dirL (ks.take k)).put (kS ks[k].1) (vI ks[k].2) := by
  rw [List.take_succ_eq_append_getElem h]; unfold dirL; rw [List.foldl_append]; rfl
theorem dirM_snoc (ks : List LinkD) (ts : List TurnD) (k : Nat) (h : k < ts.length) : dirM ks (ts.take (k + 1)) = applyD (dirM ks (ts.take k)) ⟨ts[k].kind, ts[k].name, ts[k].to_, ts[k].id⟩ := by
  rw [List.take_succ_eq_append_getElem h]; unfold dirM; rw [List.foldl_append]; rfl
theorem grown_new {w a c : World} {b B : Nat} (hb : Below B w a) (hg : a.grownBy c (some b)) (hB : B ≤ b) (hz : B ≤ a.heap.size) : Below B w c :=
  hb.grown hg hz (fun g h => by injection h with h; omega)
theorem rdl_map {w w' : World} {B b : Nat} {A : Option Addr} {ks : List LinkD} (h : RdL w B A ks) (hb : Below B w w') : RdL w' B A ks := h.below (Nat.le_refl _) hb

set_option maxRecDepth 100000 in
set_option maxHeartbeats 3200000 in
theorem directoryOf_any (K : Option Addr) (nk ck : Nat) (T : Option Addr) (nt ct : Nat) (ks : List LinkD) (ts : List TurnD) (w : World)
    (hk : RdL w w.heap.size K ks) (hkl : ks.length = nk) (hkn : nk ≤ 2000000) (hks : ∀ x ∈ ks, x.1.size ≤ maxLen ∧ (Lit.int .i64 x.2).wf = true)
    (ht : RdT w w.heap.size T ts) (htl : ts.length = nt) (htn : nt ≤ 2000000) (hts : ∀ x ∈ ts, x.name.size ≤ maxLen ∧ x.to_.size ≤ maxLen ∧ (Lit.int .i64 x.id).wf = true) :
    Calls Tryd.prog 55 #[.slice K nk ck, .slice T nt ct] w fun e w' => e = .returned (.map (some w.heap.size)) ∧ OwnM w' w.heap.size (nk + nt) (dirM ks ts) ∧ Below w.heap.size w w' := by
  have HK := Lib.hid hk
  have HKL := Lib.hid hkl
  have HKS := Lib.hid hks
  have HT := Lib.hid ht
  have HTL := Lib.hid htl
  have HTS := Lib.hid hts
  clear hk hkl hks ht htl hts
  have hmm := @run_makeMap Tryd.prog
  go_enter Tryd.func55, Tryd.ntmps55
  go_wp2_with fail
  go_loopw [13] (fun i wr => ∃ k : Nat, k ≤ nk ∧ i = .int .i64 k ∧ OwnM wr w.heap.size k (dirL (ks.take k)) ∧ Below w.heap.size w wr) (fun i _ => nk - (intOf i).toNat)
  case atStart => exact ⟨0, Nat.zero_le _, rfl, World.ownsMap_made _ _ _ _, (Below.refl _ _).alloc (Nat.le_refl _) _⟩
  case round =>
    clear hmm
    obtain ⟨k, hk, rfl, ho, hb⟩ := hrel
    have hz : w.heap.size ≤ wr.heap.size := hb.size
    have hlm := ho.lt
    by_cases hlt : k < nk
    · have hlt' : k < ks.length := by rw [HKL.out]; exact hlt
      obtain ⟨b, o, rfl, hB, hc0, hc1⟩ := (HK.out.below (Nat.le_refl _) hb).at_ hlt'
      have HB := Lib.hid hb
      have HS := Lib.hid (dirL_snoc ks k hlt')
      have hx := HKS.out _ (List.getElem_mem hlt')
      have hkey := Lib.hid (keyS hx.1)
      have hval := Lib.hid (plainElem_int (H := Unit) Tryd.underlying3 hx.2)
      clear hb hx
      generalize ks[k].1 = x0 at *
      generalize ks[k].2 = x1 at *
      have ho1 := Lib.hid (ho.alloc (.cells #[.string x0, .int .i64 x1] 58))
      clear ho
      go_wp2_with (at_mapUpdate; refine wpList_mapUpdate_own _ rfl _ _ _ 91 rfl 9 3 skey Tryd.underlying91 _ w.heap.size k _ rfl ho1.out (by unfold maxLen; omega) _ _ _ rfl rfl hkey.out _ [] hval.out ?_)
      intro w1 hown1 hgrow1
      have HO := Lib.hid (show OwnM w1 w.heap.size (k + 1) (dirL (ks.take (k + 1))) by rw [HS.out]; exact hown1)
      have HB1 := Lib.hid (grown_new (HB.out.alloc hz _) hgrow1 (Nat.le_refl _) (by simp; omega))
      clear hown1 hgrow1
      go_wp2_with fail
      exact ⟨⟨k + 1, by omega, by go_num, HO.out, HB1.out⟩, by simp [intOf]; omega⟩
    · obtain rfl : nk = k := by omega
      have e : ks.take nk = ks := List.take_of_length_le (by rw [HKL.out]; exact Nat.le_refl _)
      rw [e] at ho
      have HO := Lib.hid ho
      have HB := Lib.hid hb
      clear ho hb hlt hk hlm e
      obtain ⟨wo, rfl⟩ : ∃ wo : World, wo = wr := ⟨_, rfl⟩
      go_wp2_with fail
      go_loopw [25] (fun i wr => ∃ k : Nat, k ≤ nt ∧ i = .int .i64 k ∧ OwnM wr w.heap.size (nk + k) (dirM ks (ts.take k)) ∧ Below w.heap.size w wr) (fun i _ => nt - (intOf i).toNat)
      case atStart => exact ⟨0, Nat.zero_le _, rfl, HO.out, HB.out⟩
      case round =>
        clear HO HB hz
        obtain ⟨k, hk, rfl, ho, hb⟩ := hrel
        have hz : w.heap.size ≤ wr.heap.size := hb.size
        have hlm := ho.lt
        by_cases hlt : k < nt
        · have hlt' : k < ts.length := by rw [HTL.out]; exact hlt
          obtain ⟨b, o, rfl, hB, hc0, hc1, hc2, hc3⟩ := (HT.out.below (Nat.le_refl _) hb).at_ hlt'
          have HB := Lib.hid hb
          have HS := Lib.hid (dirM_snoc ks ts k hlt')
          have hx := HTS.out _ (List.getElem_mem hlt')
          clear hb
          generalize ts[k].kind = x0 at *
          generalize ts[k].name = x1 at *
          generalize ts[k].to_ = x2 at *
          generalize ts[k].id = x3 at *
          have hAp := Lib.hid (fun W (h : OwnM W w.heap.size (nk + k) (dirM ks (ts.take k))) => apply_any w.heap.size (nk + k) (dirM ks (ts.take k)) x0 x1 x2 x3 W h (by omega) hx.1 hx.2.1 hx.2.2)
          have ho1 := Lib.hid (ho.alloc (.cells #[.int .i64 x0, .string x1, .string x2, .int .i64 x3] 63))
          clear ho hx
          go_wp2_with fail
          refine (hAp.out _ ho1.out).mono ?_
          rintro e w1 ⟨rfl, hown1, hgrow1⟩
          have HO := Lib.hid (show OwnM w1 w.heap.size (nk + (k + 1)) (dirM ks (ts.take (k + 1))) by rw [HS.out]; exact hown1)
          have HB1 := Lib.hid (grown_new (HB.out.alloc hz _) hgrow1 (Nat.le_refl _) (by simp; omega))
          clear hown1 hgrow1
          go_wp2_with fail
          exact ⟨⟨k + 1, by omega, by go_num, HO.out, HB1.out⟩, by simp [intOf]; omega⟩
        · obtain rfl : nt = k := by omega
          have e : ts.take nt = ts := List.take_of_length_le (by rw [HTL.out]; exact Nat.le_refl _)
          rw [e] at ho
          have HO := Lib.hid ho
          have HB := Lib.hid hb
          clear ho hb
          go_wp2_with fail
          go_ret
          exact ⟨rfl, HO.out, HB.out⟩

def TurnAtI (ks : List LinkD) (ts : List TurnD) (j : Nat) (h : j < ts.length) : Prop := turnOkI ts[j] = true ∧ acceptsB (dirM ks (ts.take j)) ts[j] = true
def TurnsOkI (ks : List LinkD) (ts : List TurnD) : Prop := ts.length ≤ 30 ∧ ∀ j h, TurnAtI ks ts j h

set_option maxRecDepth 100000 in
set_option maxHeartbeats 3200000 in
theorem turnsOk_any (K : Option Addr) (nk ck : Nat) (T : Option Addr) (nt ct : Nat) (ks : List LinkD) (ts : List TurnD) (w : World)
    (hk : RdL w w.heap.size K ks) (hkl : ks.length = nk) (hkn : nk ≤ 2000000) (hks : ∀ x ∈ ks, x.1.size ≤ maxLen ∧ (Lit.int .i64 x.2).wf = true)
    (ht : RdT w w.heap.size T ts) (htl : ts.length = nt) (hts : ∀ x ∈ ts, x.name.size ≤ maxLen ∧ x.to_.size ≤ maxLen ∧ (Lit.int .i64 x.id).wf = true) :
    Calls Tryd.prog 36 #[.slice K nk ck, .slice T nt ct] w (Ans' (TurnsOkI ks ts) w.heap.size w) := by
  by_cases h30 : nt ≤ 30
  · have hD := Lib.hid (directoryOf_any K nk ck none 0 0 ks [] w hk hkl hkn hks (fun h => absurd h (by simp)) rfl (by omega) (fun x hx => by cases hx))
    have HBad := Lib.hid (show ∀ k h, ¬ TurnAtI ks ts k h → ¬ TurnsOkI ks ts from fun k h hn h' => hn (h'.2 k h))
    have HAll := Lib.hid (show (∀ j h, TurnAtI ks ts j h) → TurnsOkI ks ts from fun a => ⟨by omega, a⟩)
    have HT := Lib.hid ht
    have HTL := Lib.hid htl
    have HTS := Lib.hid hts
    clear hk hkl hks ht htl hts
    go_enter Tryd.func36, Tryd.ntmps36
    go_wp2_with fail
    refine hD.out.mono ?_
    rintro e v1 ⟨rfl, ho1, hb1⟩
    have HO1 := Lib.hid ho1
    have HB1 := Lib.hid hb1
    clear ho1 hb1 hD
    go_wp2_with fail
    go_loopw [15] (fun i wr => ∃ k : Nat, k ≤ nt ∧ i = .int .i64 k ∧ OwnM wr w.heap.size (nk + k) (dirM ks (ts.take k)) ∧ Below w.heap.size w wr ∧ Hid (∀ j (hj : j < ts.length), j < k → TurnAtI ks ts j hj)) (fun i _ => nt - (intOf i).toNat)
    case atStart => exact ⟨0, Nat.zero_le _, rfl, HO1.out, HB1.out, Lib.hid (fun j _ h => absurd h (by omega))⟩
    case round =>
      clear HO1 HB1
      obtain ⟨k, hk, rfl, ho, hb, HA⟩ := hrel
      have hz : w.heap.size ≤ wr.heap.size := hb.size
      have hlm := ho.lt
      by_cases hlt : k < nt
      · have hlt' : k < ts.length := by rw [HTL.out]; exact hlt
        obtain ⟨b, o, rfl, hB, hc0, hc1, hc2, hc3⟩ := (HT.out.below (Nat.le_refl _) hb).at_ hlt'
        have HB := Lib.hid hb
        have HS := Lib.hid (dirM_snoc ks ts k hlt')
        have hTA := Lib.hid (show TurnAtI ks ts k hlt' ↔ (turnOkI ⟨ts[k].kind, ts[k].name, ts[k].to_, ts[k].id⟩ = true ∧ acceptsB (dirM ks (ts.take k)) ⟨ts[k].kind, ts[k].name, ts[k].to_, ts[k].id⟩ = true) from Iff.rfl)
        have hBad := Lib.hid (HBad.out k hlt')
        have hx := HTS.out _ (List.getElem_mem hlt')
        clear hb
        generalize ts[k].kind = x0 at *
        generalize ts[k].name = x1 at *
        generalize ts[k].to_ = x2 at *
        generalize ts[k].id = x3 at *
        have hOk := Lib.hid (fun W => turnOk_any x0 x1 x2 x3 W hx.1 hx.2.1)
        have hAc := Lib.hid (fun W (h : OwnM W w.heap.size (nk + k) (dirM ks (ts.take k))) => accepts_any w.heap.size (nk + k) (dirM ks (ts.take k)) x0 x1 x2 x3 W h hx.1)
        have hAp := Lib.hid (fun W (h : OwnM W w.heap.size (nk + k) (dirM ks (ts.take k))) => apply_any w.heap.size (nk + k) (dirM ks (ts.take k)) x0 x1 x2 x3 W h (by omega) hx.1 hx.2.1 hx.2.2)
        have ho1 := Lib.hid (ho.alloc (.cells #[.int .i64 x0, .string x1, .string x2, .int .i64 x3] 63))
        have hBx := Lib.hid (HB.out.alloc hz (.cells #[.int .i64 x0, .string x1, .string x2, .int .i64 x3] 63))
        generalize hD0 : dirM ks (ts.take k) = D0 at *
        clear ho hx hD0
        cases hok : turnOkI ⟨x0, x1, x2, x3⟩
        · have HOK := Lib.hid hok
          clear hok
          have HN := Lib.hid (hBad.out (fun h => by have := (hTA.out.1 h).1; rw [HOK.out] at this; cases this))
          go_wp2_with fail
          refine (hOk.out _).mono ?_
          rintro e v2 ⟨rfl, hb2⟩
          rw [HOK.out]
          have HB2 := Lib.hid (hBx.out.trans (hb2.mono (by simp; omega)))
          clear hb2
          go_wp2_with fail
          go_ret
          exact ansI_no HN.out HB2.out
        · have HOK := Lib.hid hok
          clear hok
          cases hac : acceptsB D0 ⟨x0, x1, x2, x3⟩
          all_goals
            have HAC := Lib.hid hac
            clear hac
            go_wp2_with fail
            refine (hOk.out _).mono ?_
            rintro e v2 ⟨rfl, hb2⟩
            rw [HOK.out]
            obtain ⟨hcc, _⟩ := bcell hb2
            have p0 : v2.cell? ⟨wr.heap.size, 0, none⟩ = some (.int .i64 x0) := by rw [hcc _ _ (by simp), World.cell?_alloc_at _ _ _ _ rfl]; rfl
            have p1 : v2.cell? ⟨wr.heap.size, 1, none⟩ = some (.string x1) := by rw [hcc _ _ (by simp), World.cell?_alloc_at _ _ _ _ rfl]; rfl
            have p2 : v2.cell? ⟨wr.heap.size, 2, none⟩ = some (.string x2) := by rw [hcc _ _ (by simp), World.cell?_alloc_at _ _ _ _ rfl]; rfl
            have p3 : v2.cell? ⟨wr.heap.size, 3, none⟩ = some (.int .i64 x3) := by rw [hcc _ _ (by simp), World.cell?_alloc_at _ _ _ _ rfl]; rfl
            have hsz2 : wr.heap.size < v2.heap.size := by have := hb2.size; simp at this; omega
            have HB2 := Lib.hid (hBx.out.trans (hb2.mono (by simp; omega)))
            have ho2 := Lib.hid (ho1.out.below hb2 (Nat.le_refl _))
            clear hb2 hcc
            go_wp2_with fail
            refine (hAc.out _ ho2.out).mono ?_
            rintro e v3 ⟨rfl, hb3⟩
            rw [HAC.out]
            have r0 : v3.cell? ⟨wr.heap.size, 0, none⟩ = some (.int .i64 x0) := (hb3.cell (p := ⟨wr.heap.size, 0, none⟩) hsz2).trans p0
            have r1 : v3.cell? ⟨wr.heap.size, 1, none⟩ = some (.string x1) := (hb3.cell (p := ⟨wr.heap.size, 1, none⟩) hsz2).trans p1
            have r2 : v3.cell? ⟨wr.heap.size, 2, none⟩ = some (.string x2) := (hb3.cell (p := ⟨wr.heap.size, 2, none⟩) hsz2).trans p2
            have r3 : v3.cell? ⟨wr.heap.size, 3, none⟩ = some (.int .i64 x3) := (hb3.cell (p := ⟨wr.heap.size, 3, none⟩) hsz2).trans p3
            have HB3 := Lib.hid (HB2.out.trans (hb3.mono (by omega)))
            have ho3 := Lib.hid (ho2.out.below hb3 (Nat.le_refl _))
            have hsz3 : w.heap.size ≤ v3.heap.size := by have := hb3.size; omega
            clear hb3 p0 p1 p2 p3
          · have HN := Lib.hid (hBad.out (fun h => by have := (hTA.out.1 h).2; rw [HAC.out] at this; cases this))
            go_wp2_with fail
            go_ret
            exact ansI_no HN.out HB3.out
          · have HG := Lib.hid (upto' HA.out (fun h => hTA.out.2 ⟨HOK.out, HAC.out⟩))
            go_wp2_with fail
            refine (hAp.out _ ho3.out).mono ?_
            rintro e w1 ⟨rfl, hown1, hgrow1⟩
            have HO := Lib.hid (show OwnM w1 w.heap.size (nk + (k + 1)) (dirM ks (ts.take (k + 1))) by rw [HS.out]; exact hown1)
            have HB1 := Lib.hid (grown_new HB3.out hgrow1 (Nat.le_refl _) hsz3)
            clear hown1 hgrow1 r0 r1 r2 r3
            go_wp2_with fail
            exact ⟨⟨k + 1, by omega, by go_num, HO.out, HB1.out, HG⟩, by simp [intOf]; omega⟩
      · obtain rfl : nt = k := by omega
        have HAF := Lib.hid (HAll.out (fun j h => HA.out j h (by have := HTL.out; omega)))
        have HB := Lib.hid hb
        clear hb ho
        go_wp2_with fail
        go_ret
        exact ansI_yes HAF.out HB.out
  · have HN := Lib.hid (show ¬ TurnsOkI ks ts from fun h => h30 (by have := h.1; omega))
    have h30' : (30 : Int) < nt := by omega
    clear h30 hk hkl hks ht htl hts
    go_enter Tryd.func36, Tryd.ntmps36
    go_wp2_with fail
    go_ret
    exact ansI_no HN.out (Below.refl _ _)
end Go.Proofs.YtckiloacbanbmaaDoor.DOk
