/- The model's Places; PlaceOf in the program and in the model. -/
import Derived.Test.YtgejjdkgeoojmaaTrPt
namespace Go.Proofs.Ytgejjdkgeoojmaa.Tr
open Go.RowKit Go.Proofs.Ytgejjdkgeoojmaa.Bytes Go.Proofs.Ytgejjdkgeoojmaa.Rows_ Go.Proofs.Ytgejjdkgeoojmaa.RowK Go.Proofs.Ytgejjdkgeoojmaa.Opq
open Tree
set_option linter.unusedVariables false
theorem PlP.out {w w' : World} {t : List NodeD} {a b : Int} {e : Ending} (h : PlP w (placesD t a b) e w') : ∃ A n c, e = .returned (.tuple #[.slice A n c, .bool (placesD t a b).isSome]) ∧ OwnR w' w.heap.size A n c (listD t a b) ∧ Below w.heap.size w w' := by
  obtain ⟨hb, h⟩ := h
  unfold listD
  rcases hp : placesD t a b with _ | zs <;> rw [hp] at h
  · exact ⟨none, 0, 0, h, World.ownsRow_nil _ _ _ _, hb⟩
  · obtain ⟨A, c, he, ho⟩ := h
    exact ⟨A, _, c, he, ho, hb⟩
set_option maxRecDepth 100000 in
set_option maxHeartbeats 3200000 in
theorem spec_Places_any (A : Option Addr) (n c B : Nat) (t : List NodeD) (a b : Int) (w : World) (hi : InN w B A n c t) :
    Calls Try.prog 42 #[.slice A n c, .int .i64 a, .int .i64 b] w (PlP w (placesD t a b)) := by
  have HI := Lib.hid hi
  clear hi
  rcases ht : treeD t with _ | x <;> have HT := Lib.hid ht <;> clear ht
  · have HN := Lib.hid (placesD_none_tree (a := a) (b := b) HT.out)
    have HOK := Lib.hid (show okT t = false by unfold okT; rw [HT.out]; rfl)
    go_enter Try.func42, Try.ntmps42
    go_wp2_with fail
    refine (spec_TreeOk_any A n c B t _ HI.out).mono ?_
    rintro e v1 ⟨rfl, hb1⟩
    rw [HOK.out]
    have HB1 := Lib.hid hb1
    clear hb1
    go_wp2_with fail
    exact bodyPost_ret (v := .tuple #[.slice none 0 0, .bool false]) (by simp [results, Try.results42, go_sem]) rfl (PlP.no HN.out HB1.out)
  · have hlen := (treeD_len HT.out).1
    have hok := (treeD_some.1 HT.out).2.1
    have HX := Lib.hid ((treeD_some.1 HT.out).1)
    have HOK := Lib.hid (show okT t = true by unfold okT; rw [HT.out]; rfl)
    have hcase : a < 1 ∨ (1 ≤ a ∧ 120 < a) ∨ ((1 ≤ a ∧ a ≤ 120) ∧ b < 1) ∨ ((1 ≤ a ∧ a ≤ 120) ∧ 1 ≤ b ∧ 120 < b) ∨ ((1 ≤ a ∧ a ≤ 120) ∧ 1 ≤ b ∧ b ≤ 120) := by omega
    have hn31 : n ≤ 31 := by rw [← HI.out.len]; exact hlen
    rcases hcase with h1 | ⟨h1, h2⟩ | ⟨⟨h1, h2⟩, h3⟩ | ⟨⟨h1, h2⟩, h3, h4⟩ | ⟨⟨h1, h2⟩, h3, h4⟩
    · have HN := Lib.hid (placesD_side (a := a) (b := b) HT.out (fun h => by have := (sideB_iff a).1 h.1; omega))
      go_enter Try.func42, Try.ntmps42
      go_wp2_with fail
      refine (spec_TreeOk_any A n c B t _ HI.out).mono ?_
      rintro e v1 ⟨rfl, hb1⟩
      rw [HOK.out]
      have HB1 := Lib.hid hb1
      clear hb1
      go_wp2_with fail
      exact bodyPost_ret (v := .tuple #[.slice none 0 0, .bool false]) (by simp [results, Try.results42, go_sem]) rfl (PlP.no HN.out HB1.out)
    · have HN := Lib.hid (placesD_side (a := a) (b := b) HT.out (fun h => by have := (sideB_iff a).1 h.1; omega))
      go_enter Try.func42, Try.ntmps42
      go_wp2_with fail
      refine (spec_TreeOk_any A n c B t _ HI.out).mono ?_
      rintro e v1 ⟨rfl, hb1⟩
      rw [HOK.out]
      have HB1 := Lib.hid hb1
      clear hb1
      go_wp2_with fail
      exact bodyPost_ret (v := .tuple #[.slice none 0 0, .bool false]) (by simp [results, Try.results42, go_sem]) rfl (PlP.no HN.out HB1.out)
    · have HN := Lib.hid (placesD_side (a := a) (b := b) HT.out (fun h => by have := (sideB_iff b).1 h.2; omega))
      go_enter Try.func42, Try.ntmps42
      go_wp2_with fail
      refine (spec_TreeOk_any A n c B t _ HI.out).mono ?_
      rintro e v1 ⟨rfl, hb1⟩
      rw [HOK.out]
      have HB1 := Lib.hid hb1
      clear hb1
      go_wp2_with fail
      exact bodyPost_ret (v := .tuple #[.slice none 0 0, .bool false]) (by simp [results, Try.results42, go_sem]) rfl (PlP.no HN.out HB1.out)
    · have HN := Lib.hid (placesD_side (a := a) (b := b) HT.out (fun h => by have := (sideB_iff b).1 h.2; omega))
      go_enter Try.func42, Try.ntmps42
      go_wp2_with fail
      refine (spec_TreeOk_any A n c B t _ HI.out).mono ?_
      rintro e v1 ⟨rfl, hb1⟩
      rw [HOK.out]
      have HB1 := Lib.hid hb1
      clear hb1
      go_wp2_with fail
      exact bodyPost_ret (v := .tuple #[.slice none 0 0, .bool false]) (by simp [results, Try.results42, go_sem]) rfl (PlP.no HN.out HB1.out)
    · have HN := Lib.hid (placesD_yes (a := a) (b := b) HT.out ((sideB_iff a).2 ⟨h1, h2⟩) ((sideB_iff b).2 ⟨h3, h4⟩))
      have HRB := Lib.hid (show RB ⟨0, 0, 0, a, b⟩ by simp [RB]; omega)
      have HPL := Lib.hid (fun (W : World) (h : InN W B A n c t) => show Calls Try.prog 80 #[.slice A n c, .int .i64 0, .agg #[.int .i64 0, .int .i64 0, .int .i64 0, .int .i64 a, .int .i64 b]] W (SpP W x.leaves.length (placeT x ⟨0, 0, 0, a, b⟩)) from l13Place_any A n c B t hn31 x [] [] ⟨0, 0, 0, a, b⟩ W (by simpa using HX.out) h hok HRB.out)
      go_enter Try.func42, Try.ntmps42
      go_wp2_with fail
      refine (spec_TreeOk_any A n c B t _ HI.out).mono ?_
      rintro e v1 ⟨rfl, hb1⟩
      rw [HOK.out]
      have HB1 := Lib.hid hb1
      clear hb1
      go_wp2_with fail
      refine (HPL.out _ (HI.out.below HB1.out)).mono ?_
      rintro e v2 ⟨hb2, A2, n2, c2, zs, rfl, ho2, hn2, hs2⟩
      have HB2 := Lib.hid (HB1.out.trans (hb2.mono HB1.out.size))
      have HO2 := Lib.hid (ho2.more HB1.out.size)
      have HS2 := Lib.hid hs2
      have hl2 := ho2.len
      clear hb2 ho2 hs2
      rcases hp : placeT x ⟨0, 0, 0, a, b⟩ with _ | ys <;> have HP := Lib.hid hp <;> clear hp
      · simp only [Option.isSome_none]
        go_wp2_with fail
        exact bodyPost_ret (v := .tuple #[.slice none 0 0, .bool false]) (by simp [results, Try.results42, go_sem]) rfl (PlP.no (HN.out.trans HP.out) HB2.out)
      · obtain rfl : zs = ys := HS2.out ys HP.out
        obtain rfl : zs.length = n2 := hl2
        simp only [Option.isSome_some]
        go_wp2_with fail
        refine bodyPost_ret (v := .tuple #[.slice A2 zs.length c2, .bool true]) (by simp [results, Try.results42, go_sem]) rfl ⟨HB2.out, ?_⟩
        rw [HN.out, HP.out]
        exact ⟨A2, c2, rfl, HO2.out⟩
/-! ### the place of one pane -/
def pofD (zs : List RectD) (p : Int) : Option RectD := zs.find? (·.pane == p)
def pofR (zs : List RectD) (p : Int) : RectD := (pofD zs p).getD ⟨0, 0, 0, 0, 0⟩
theorem find_hit {α : Type} {p : α → Bool} : ∀ (zs : List α) (k : Nat) (hk : k < zs.length), (∀ j (hj : j < zs.length), j < k → p zs[j] = false) → p zs[k] = true → zs.find? p = some zs[k]
  | [], _, hk, _, _ => by simp at hk
  | x :: r, 0, _, _, h => by have h' : p x = true := h; simp [h']
  | x :: r, k + 1, hk, ha, h => by
    have h0 : p x = false := ha 0 (Nat.zero_lt_succ _) (by omega)
    have := find_hit r k (by simpa using hk) (fun j hj hjk => ha (j + 1) (by simpa using hj) (by omega)) h
    simp only [List.find?_cons, h0, this]; rfl
theorem find_miss {α : Type} {p : α → Bool} (zs : List α) (h : ∀ j (hj : j < zs.length), p zs[j] = false) : zs.find? p = none := by
  rw [List.find?_eq_none]
  intro x hx
  obtain ⟨j, hj, rfl⟩ := List.getElem_of_mem hx
  rw [h j hj]; simp
set_option maxRecDepth 100000 in
set_option maxHeartbeats 3200000 in
theorem placeWith_any (A : Option Addr) (n1 c : Nat) (zs : List RectD) (p : Int) (w : World) (hr : RdR w w.heap.size A zs) (hl : zs.length = n1) (hn : n1 ≤ 1000) :
    Calls Try.prog 83 #[.slice A n1 c, .int .i64 p] w fun e w' => e = .returned (.tuple #[.agg #[.int .i64 (pofR zs p).pane, .int .i64 (pofR zs p).x, .int .i64 (pofR zs p).y, .int .i64 (pofR zs p).w, .int .i64 (pofR zs p).h], .bool (pofD zs p).isSome]) ∧ Below w.heap.size w w' := by
  have HLN := Lib.hid hl
  obtain ⟨W0, hW0⟩ : ∃ W0, W0 = w.alloc (.cells #[.int .i64 0, .int .i64 0, .int .i64 0, .int .i64 0, .int .i64 0] 65) := ⟨_, rfl⟩
  have HBT := Lib.hid (show Below w.heap.size w W0 by rw [hW0]; exact (Below.refl _ _).alloc (Nat.le_refl _) _)
  have HBX := Lib.hid (show RowB W0 w.heap.size #[.int .i64 0, .int .i64 0, .int .i64 0, .int .i64 0, .int .i64 0] by rw [hW0]; exact RowB.new _ _ _)
  have HRD := Lib.hid ((hr.below (Nat.le_refl _) HBT.out).more HBT.out.size)
  have hbt := HBT.out.size
  have hbx := HBX.out.lt
  clear hr hl
  go_enter Try.func83, Try.ntmps83
  go_wp2_with fail
  rw [← hW0]
  clear hW0
  obtain ⟨bx, hbxe⟩ : ∃ bx, bx = w.heap.size := ⟨_, rfl⟩
  rw [← hbxe]
  rw [← hbxe] at hbx HBX
  have hbxw : w.heap.size ≤ bx := by omega
  clear hbxe
  go_loopw [10] (fun i wr => ∃ k : Nat, k ≤ n1 ∧ i = .int .i64 k ∧ Below W0.heap.size W0 wr ∧ Hid (∀ j (hj : j < zs.length), j < k → (zs[j].pane == p) = false)) (fun i _ => n1 - (intOf i).toNat)
  case atStart => exact ⟨0, Nat.zero_le _, rfl, Below.refl _ _, Lib.hid (fun j _ h => absurd h (by omega))⟩
  case round =>
    obtain ⟨k, hk, rfl, hb, HA⟩ := hrel
    have hzr : W0.heap.size ≤ wr.heap.size := hb.size
    by_cases hlt : k < n1
    · have hlt' : k < zs.length := by rw [HLN.out]; exact hlt
      obtain ⟨b, o, rfl, hlB, hc0, hc1, hc2, hc3, hc4⟩ := (HRD.out.below (Nat.le_refl _) hb).at_ hlt'
      have hbw : b < wr.heap.size := by omega
      have HB := Lib.hid hb
      have HBXr := Lib.hid (HBX.out.below hb hbx)
      have hbxr : bx < wr.heap.size := by omega
      have hbxn : bx ≠ wr.heap.size := by omega
      by_cases he : zs[k].pane = p
      · have HF := Lib.hid (find_hit (p := fun r : RectD => r.pane == p) zs k hlt' HA.out (by simp [he]))
        have HD := Lib.hid (show pofD zs p = some zs[k] from HF.out)
        have HR := Lib.hid (show pofR zs p = zs[k] by unfold pofR; rw [HD.out]; rfl)
        have HPp := Lib.hid he
        rw [he] at hc0
        clear he hb
        have HRX := Lib.hid (show pofR zs p = ⟨p, zs[k].x, zs[k].y, zs[k].w, zs[k].h⟩ by rw [HR.out]; cases hz : zs[k]; rw [hz] at HPp; have := HPp.out; simp only at this; subst this; rfl)
        generalize zs[k].x = q1 at *
        generalize zs[k].y = q2 at *
        generalize zs[k].w = q3 at *
        generalize zs[k].h = q4 at *
        have z0 : wr.cell? ⟨bx, 0, none⟩ = some (.int .i64 0) := HBXr.out.cell 0
        have z1 : wr.cell? ⟨bx, 1, none⟩ = some (.int .i64 0) := HBXr.out.cell 1
        have z2 : wr.cell? ⟨bx, 2, none⟩ = some (.int .i64 0) := HBXr.out.cell 2
        have z3 : wr.cell? ⟨bx, 3, none⟩ = some (.int .i64 0) := HBXr.out.cell 3
        have z4 : wr.cell? ⟨bx, 4, none⟩ = some (.int .i64 0) := HBXr.out.cell 4
        have f0 := HBXr.out.free 0
        have f1 := HBXr.out.free 1
        have f2 := HBXr.out.free 2
        have f3 := HBXr.out.free 3
        have f4 := HBXr.out.free 4
        have HFIN := Lib.hid (RowB.alloc (set5 (a0 := .int .i64 p) (a1 := .int .i64 q1) (a2 := .int .i64 q2) (a3 := .int .i64 q3) (a4 := .int .i64 q4) HBXr.out) (.cells #[.int .i64 p, .int .i64 q1, .int .i64 q2, .int .i64 q3, .int .i64 q4] 65))
        go_wp2_with fail
        refine bodyPost_ret (v := .tuple #[.agg #[.int .i64 p, .int .i64 q1, .int .i64 q2, .int .i64 q3, .int .i64 q4], .bool true]) (results_rt Try.results83 Try.underlying65 rfl sizeR _ _ bx _ rfl rfl HFIN.out rfl) rfl ⟨by rw [HRX.out, HD.out]; rfl, ?_⟩
        exact ((below5 (HBT.out.trans (HB.out.mono hbt)) hbxw).alloc (by simp; omega) _)
      · have hne : (zs[k].pane == p) = false := by simpa using he
        have HN := Lib.hid (fun j (hj : j < zs.length) (h : j < k + 1) => (by
          rcases Nat.lt_or_ge j k with h1 | h1
          · exact HA.out j hj h1
          · have : j = k := by omega
            subst this; simpa using he : (zs[j].pane == p) = false))
        clear he hb
        generalize zs[k].pane = q0 at *
        generalize zs[k].x = q1 at *
        generalize zs[k].y = q2 at *
        generalize zs[k].w = q3 at *
        generalize zs[k].h = q4 at *
        go_wp2_with fail
        exact ⟨⟨k + 1, by omega, by go_num, HB.out.alloc hzr _, HN⟩, by simp [intOf]; omega⟩
    · obtain rfl : n1 = k := by omega
      have HD := Lib.hid (show pofD zs p = none from find_miss zs (fun j hj => HA.out j hj (by have := HLN.out; omega)))
      have HRX := Lib.hid (show pofR zs p = ⟨0, 0, 0, 0, 0⟩ by unfold pofR; rw [HD.out]; rfl)
      have HB := Lib.hid hb
      have HBXr := Lib.hid (HBX.out.below hb hbx)
      have hbxr : bx < wr.heap.size := by omega
      clear hb
      have z0 : wr.cell? ⟨bx, 0, none⟩ = some (.int .i64 0) := HBXr.out.cell 0
      have z1 : wr.cell? ⟨bx, 1, none⟩ = some (.int .i64 0) := HBXr.out.cell 1
      have z2 : wr.cell? ⟨bx, 2, none⟩ = some (.int .i64 0) := HBXr.out.cell 2
      have z3 : wr.cell? ⟨bx, 3, none⟩ = some (.int .i64 0) := HBXr.out.cell 3
      have z4 : wr.cell? ⟨bx, 4, none⟩ = some (.int .i64 0) := HBXr.out.cell 4
      have f0 := HBXr.out.free 0
      have f1 := HBXr.out.free 1
      have f2 := HBXr.out.free 2
      have f3 := HBXr.out.free 3
      have f4 := HBXr.out.free 4
      have HFIN := Lib.hid (set5 (a0 := .int .i64 0) (a1 := .int .i64 0) (a2 := .int .i64 0) (a3 := .int .i64 0) (a4 := .int .i64 0) HBXr.out)
      go_wp2_with fail
      refine bodyPost_ret (v := .tuple #[.agg #[.int .i64 0, .int .i64 0, .int .i64 0, .int .i64 0, .int .i64 0], .bool false]) (results_rt Try.results83 Try.underlying65 rfl sizeR _ _ bx _ rfl rfl HFIN.out rfl) rfl ⟨by rw [HRX.out, HD.out]; rfl, ?_⟩
      exact below5 (HBT.out.trans (HB.out.mono hbt)) hbxw
set_option maxRecDepth 100000 in
set_option maxHeartbeats 3200000 in
theorem spec_PlaceOf_any (A : Option Addr) (n c B : Nat) (t : List NodeD) (a b p : Int) (w : World) (hi : InN w B A n c t) :
    Calls Try.prog 47 #[.slice A n c, .int .i64 a, .int .i64 b, .int .i64 p] w fun e w' => e = .returned (.tuple #[.agg #[.int .i64 (pofR (listD t a b) p).pane, .int .i64 (pofR (listD t a b) p).x, .int .i64 (pofR (listD t a b) p).y, .int .i64 (pofR (listD t a b) p).w, .int .i64 (pofR (listD t a b) p).h], .bool (pofD (listD t a b) p).isSome]) ∧ Below w.heap.size w w' := by
  have HI := Lib.hid hi
  clear hi
  have HB0 := Lib.hid ((Below.refl w.heap.size w).alloc (Nat.le_refl _) (.cells #[.int .i64 0, .int .i64 0, .int .i64 0, .int .i64 0, .int .i64 0] 65))
  have HX0 := Lib.hid (RowB.new w #[.int .i64 0, .int .i64 0, .int .i64 0, .int .i64 0, .int .i64 0] 65)
  go_enter Try.func47, Try.ntmps47
  go_wp2_with fail
  refine (spec_Places_any A n c B t a b _ (HI.out.below HB0.out)).mono ?_
  intro e W0 hpl
  obtain ⟨A1, n1, c1, rfl, ho1, hb1⟩ := hpl.out
  have HBT := Lib.hid (HB0.out.trans (hb1.mono (by simp)))
  have HBX := Lib.hid (HX0.out.below hb1 (by simp))
  have HLN := Lib.hid ho1.len
  have hn : n1 ≤ 1000 := by have := listD_len t a b; have := ho1.len; omega
  have HRD := Lib.hid (show RdR W0 W0.heap.size A1 (listD t a b) from ho1.rd)
  have hbt := HBT.out.size
  have hbx := HBX.out.lt
  clear hpl ho1 hb1
  generalize hzs : listD t a b = zs at *
  have HZS := Lib.hid hzs
  clear hzs
  go_wp2_with fail
  obtain ⟨bx, hbxe⟩ : ∃ bx, bx = w.heap.size := ⟨_, rfl⟩
  rw [← hbxe]
  rw [← hbxe] at hbx HBX
  have hbxw : w.heap.size ≤ bx := by omega
  clear hbxe
  go_loopw [23] (fun i wr => ∃ k : Nat, k ≤ n1 ∧ i = .int .i64 k ∧ Below W0.heap.size W0 wr ∧ Hid (∀ j (hj : j < zs.length), j < k → (zs[j].pane == p) = false)) (fun i _ => n1 - (intOf i).toNat)
  case atStart => exact ⟨0, Nat.zero_le _, rfl, Below.refl _ _, Lib.hid (fun j _ h => absurd h (by omega))⟩
  case round =>
    obtain ⟨k, hk, rfl, hb, HA⟩ := hrel
    have hzr : W0.heap.size ≤ wr.heap.size := hb.size
    by_cases hlt : k < n1
    · have hlt' : k < zs.length := by rw [HLN.out]; exact hlt
      obtain ⟨b, o, rfl, hlB, hc0, hc1, hc2, hc3, hc4⟩ := (HRD.out.below (Nat.le_refl _) hb).at_ hlt'
      have hbw : b < wr.heap.size := by omega
      have HB := Lib.hid hb
      have HBXr := Lib.hid (HBX.out.below hb hbx)
      have hbxr : bx < wr.heap.size := by omega
      have hbxn : bx ≠ wr.heap.size := by omega
      by_cases he : zs[k].pane = p
      · have HF := Lib.hid (find_hit (p := fun r : RectD => r.pane == p) zs k hlt' HA.out (by simp [he]))
        have HD := Lib.hid (show pofD zs p = some zs[k] from HF.out)
        have HR := Lib.hid (show pofR zs p = zs[k] by unfold pofR; rw [HD.out]; rfl)
        have HPp := Lib.hid he
        rw [he] at hc0
        clear he hb
        have HRX := Lib.hid (show pofR zs p = ⟨p, zs[k].x, zs[k].y, zs[k].w, zs[k].h⟩ by rw [HR.out]; cases hz : zs[k]; rw [hz] at HPp; have := HPp.out; simp only at this; subst this; rfl)
        generalize zs[k].x = q1 at *
        generalize zs[k].y = q2 at *
        generalize zs[k].w = q3 at *
        generalize zs[k].h = q4 at *
        have z0 : wr.cell? ⟨bx, 0, none⟩ = some (.int .i64 0) := HBXr.out.cell 0
        have z1 : wr.cell? ⟨bx, 1, none⟩ = some (.int .i64 0) := HBXr.out.cell 1
        have z2 : wr.cell? ⟨bx, 2, none⟩ = some (.int .i64 0) := HBXr.out.cell 2
        have z3 : wr.cell? ⟨bx, 3, none⟩ = some (.int .i64 0) := HBXr.out.cell 3
        have z4 : wr.cell? ⟨bx, 4, none⟩ = some (.int .i64 0) := HBXr.out.cell 4
        have f0 := HBXr.out.free 0
        have f1 := HBXr.out.free 1
        have f2 := HBXr.out.free 2
        have f3 := HBXr.out.free 3
        have f4 := HBXr.out.free 4
        have HFIN := Lib.hid (RowB.alloc (set5 (a0 := .int .i64 p) (a1 := .int .i64 q1) (a2 := .int .i64 q2) (a3 := .int .i64 q3) (a4 := .int .i64 q4) HBXr.out) (.cells #[.int .i64 p, .int .i64 q1, .int .i64 q2, .int .i64 q3, .int .i64 q4] 65))
        go_wp2_with fail
        refine bodyPost_ret (v := .tuple #[.agg #[.int .i64 p, .int .i64 q1, .int .i64 q2, .int .i64 q3, .int .i64 q4], .bool true]) (results_rt Try.results47 Try.underlying65 rfl sizeR _ _ bx _ rfl rfl HFIN.out rfl) rfl ⟨by rw [HZS.out, HRX.out, HD.out]; rfl, ?_⟩
        exact ((below5 (HBT.out.trans (HB.out.mono hbt)) hbxw).alloc (by simp; omega) _)
      · have hne : (zs[k].pane == p) = false := by simpa using he
        have HN := Lib.hid (fun j (hj : j < zs.length) (h : j < k + 1) => (by
          rcases Nat.lt_or_ge j k with h1 | h1
          · exact HA.out j hj h1
          · have : j = k := by omega
            subst this; simpa using he : (zs[j].pane == p) = false))
        clear he hb
        generalize zs[k].pane = q0 at *
        generalize zs[k].x = q1 at *
        generalize zs[k].y = q2 at *
        generalize zs[k].w = q3 at *
        generalize zs[k].h = q4 at *
        go_wp2_with fail
        exact ⟨⟨k + 1, by omega, by go_num, HB.out.alloc hzr _, HN⟩, by simp [intOf]; omega⟩
    · obtain rfl : n1 = k := by omega
      have HD := Lib.hid (show pofD zs p = none from find_miss zs (fun j hj => HA.out j hj (by have := HLN.out; omega)))
      have HRX := Lib.hid (show pofR zs p = ⟨0, 0, 0, 0, 0⟩ by unfold pofR; rw [HD.out]; rfl)
      have HB := Lib.hid hb
      have HBXr := Lib.hid (HBX.out.below hb hbx)
      have hbxr : bx < wr.heap.size := by omega
      clear hb
      have z0 : wr.cell? ⟨bx, 0, none⟩ = some (.int .i64 0) := HBXr.out.cell 0
      have z1 : wr.cell? ⟨bx, 1, none⟩ = some (.int .i64 0) := HBXr.out.cell 1
      have z2 : wr.cell? ⟨bx, 2, none⟩ = some (.int .i64 0) := HBXr.out.cell 2
      have z3 : wr.cell? ⟨bx, 3, none⟩ = some (.int .i64 0) := HBXr.out.cell 3
      have z4 : wr.cell? ⟨bx, 4, none⟩ = some (.int .i64 0) := HBXr.out.cell 4
      have f0 := HBXr.out.free 0
      have f1 := HBXr.out.free 1
      have f2 := HBXr.out.free 2
      have f3 := HBXr.out.free 3
      have f4 := HBXr.out.free 4
      have HFIN := Lib.hid (set5 (a0 := .int .i64 0) (a1 := .int .i64 0) (a2 := .int .i64 0) (a3 := .int .i64 0) (a4 := .int .i64 0) HBXr.out)
      go_wp2_with fail
      refine bodyPost_ret (v := .tuple #[.agg #[.int .i64 0, .int .i64 0, .int .i64 0, .int .i64 0, .int .i64 0], .bool false]) (results_rt Try.results47 Try.underlying65 rfl sizeR _ _ bx _ rfl rfl HFIN.out rfl) rfl ⟨by rw [HZS.out, HRX.out, HD.out]; rfl, ?_⟩
      exact below5 (HBT.out.trans (HB.out.mono hbt)) hbxw
set_option maxRecDepth 100000 in
set_option maxHeartbeats 3200000 in
theorem impl_PlaceOf_any (A : Option Addr) (n c B : Nat) (t : List NodeD) (a b p : Int) (w : World) (hi : InN w B A n c t) :
    Calls Try.prog 48 #[.slice A n c, .int .i64 a, .int .i64 b, .int .i64 p] w fun e w' => e = .returned (.tuple #[.agg #[.int .i64 (pofR (listD t a b) p).pane, .int .i64 (pofR (listD t a b) p).x, .int .i64 (pofR (listD t a b) p).y, .int .i64 (pofR (listD t a b) p).w, .int .i64 (pofR (listD t a b) p).h], .bool (pofD (listD t a b) p).isSome]) ∧ Below w.heap.size w w' := by
  have HI := Lib.hid hi
  clear hi
  have HB0 := Lib.hid ((Below.refl w.heap.size w).alloc (Nat.le_refl _) (.cells #[.int .i64 0, .int .i64 0, .int .i64 0, .int .i64 0, .int .i64 0] 65))
  have HX0 := Lib.hid (RowB.new w #[.int .i64 0, .int .i64 0, .int .i64 0, .int .i64 0, .int .i64 0] 65)
  go_enter Try.func48, Try.ntmps48
  go_wp2_with fail
  refine (impl_Places_any A n c B t a b _ (HI.out.below HB0.out)).mono ?_
  intro e W0 hpl
  obtain ⟨A1, n1, c1, rfl, ho1, hb1⟩ := hpl.out
  have HBT := Lib.hid (HB0.out.trans (hb1.mono (by simp)))
  have HBX := Lib.hid (HX0.out.below hb1 (by simp))
  have HLN := Lib.hid ho1.len
  have hn : n1 ≤ 1000 := by have := listD_len t a b; have := ho1.len; omega
  have HRD := Lib.hid (show RdR W0 W0.heap.size A1 (listD t a b) from ho1.rd)
  have hbt := HBT.out.size
  have hbx := HBX.out.lt
  clear hpl ho1 hb1
  have HPW := Lib.hid (placeWith_any A1 n1 c1 (listD t a b) p W0 HRD.out HLN.out hn)
  generalize hq : pofR (listD t a b) p = q at HPW
  generalize hqb : (pofD (listD t a b) p).isSome = qb at HPW
  have HQE := Lib.hid hq
  have HQB := Lib.hid hqb
  clear hq hqb
  go_wp2_with fail
  refine HPW.out.mono ?_
  rintro e v2 ⟨rfl, hb2⟩
  have HB2 := Lib.hid (HBT.out.trans (hb2.mono hbt))
  have hb2v := Lib.hid hb2
  clear hb2
  have HX2 := Lib.hid (HBX.out.below hb2v.out hbx)
  have z0 : v2.cell? ⟨w.heap.size, 0, none⟩ = some (.int .i64 0) := HX2.out.cell 0
  have f0 := HX2.out.free 0
  have z1 : v2.cell? ⟨w.heap.size, 1, none⟩ = some (.int .i64 0) := HX2.out.cell 1
  have f1 := HX2.out.free 1
  have z2 : v2.cell? ⟨w.heap.size, 2, none⟩ = some (.int .i64 0) := HX2.out.cell 2
  have f2 := HX2.out.free 2
  have z3 : v2.cell? ⟨w.heap.size, 3, none⟩ = some (.int .i64 0) := HX2.out.cell 3
  have f3 := HX2.out.free 3
  have z4 : v2.cell? ⟨w.heap.size, 4, none⟩ = some (.int .i64 0) := HX2.out.cell 4
  have f4 := HX2.out.free 4
  have HFIN := Lib.hid (set5 (a0 := .int .i64 q.pane) (a1 := .int .i64 q.x) (a2 := .int .i64 q.y) (a3 := .int .i64 q.w) (a4 := .int .i64 q.h) HX2.out)
  have HBE := Lib.hid (below5 (a0 := .int .i64 q.pane) (a1 := .int .i64 q.x) (a2 := .int .i64 q.y) (a3 := .int .i64 q.w) (a4 := .int .i64 q.h) HB2.out (Nat.le_refl w.heap.size))
  go_wp2_with fail
  exact bodyPost_ret (v := .tuple #[.agg #[.int .i64 q.pane, .int .i64 q.x, .int .i64 q.y, .int .i64 q.w, .int .i64 q.h], .bool qb]) (results_rt Try.results48 Try.underlying65 rfl sizeR _ _ w.heap.size _ rfl rfl HFIN.out rfl) rfl ⟨by rw [HQE.out, HQB.out], HBE.out⟩
end Go.Proofs.Ytgejjdkgeoojmaa.Tr

