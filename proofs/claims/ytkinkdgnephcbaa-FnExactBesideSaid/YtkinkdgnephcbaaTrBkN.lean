/- Beside in the model. -/
import Derived.Test.YtkinkdgnephcbaaTrBc
namespace Go.Proofs.Ytkinkdgnephcbaa.Tr
open Go.RowKit Go.Proofs.Ytkinkdgnephcbaa.Bytes Go.Proofs.Ytkinkdgnephcbaa.Rows_ Go.Proofs.Ytkinkdgnephcbaa.RowK Go.Proofs.Ytkinkdgnephcbaa.DOk Go.Proofs.Ytkinkdgnephcbaa.Opq
open Tree
set_option linter.unusedVariables false
attribute [local go_sem ↓] Go.wp_at_zero Go.wp_at_succ
theorem y_undefN : Go.yielded.match_1 (motive := fun _ => Option Bool) (some undef) (fun b => some b) (fun _ => none) = none := rfl
attribute [local go_sem] y_undefN Chop.at_same Chop.at_ne Chop.getD_same Chop.getD_ne
set_option maxRecDepth 100000 in
set_option maxHeartbeats 3200000 in
theorem spec_Beside_none (A : Option Addr) (n c B : Nat) (t : List NodeD) (p s a b : Int) (w : World) (hi : InN w B A n c t) (hno : ∀ r, pofD (listD t a b) p ≠ some r) :
    Calls Try.prog 44 #[.slice A n c, .int .i64 p, .int .i64 s, .int .i64 a, .int .i64 b] w fun e w' => e = .returned (.int .i64 (besD (listD t a b) p s)) ∧ Below w.heap.size w w' := by
  have HI := Lib.hid hi
  clear hi
  have HPO := Lib.hid (fun (W : World) (h : InN W B A n c t) => spec_PlaceOf_any A n c B t a b p W h)
  have HRBS := Lib.hid (listD_rb t a b)
  have HLL := Lib.hid (listD_len t a b)
  rcases hp : pofD (listD t a b) p with _ | r
  rotate_left
  · exact absurd hp (hno r)
  have HV := Lib.hid (besD_no (s := s) hp)
  rw [hp, show (none : Option RectD).isSome = false from rfl, show pofR (listD t a b) p = ⟨0, 0, 0, 0, 0⟩ by unfold pofR; rw [hp]; rfl] at HPO
  clear hp
  go_enter Try.func44, Try.ntmps44
  go_wp2_with fail
  refine (HPO.out _ HI.out).mono ?_
  rintro e v1 ⟨rfl, hb1⟩
  have HB1 := Lib.hid hb1
  have hz1 : w.heap.size ≤ v1.heap.size := hb1.size
  clear hb1
  go_wp2_with fail
  have HB2 := Lib.hid (HB1.out.alloc hz1 (.cells #[.int .i64 0, .int .i64 0, .int .i64 0, .int .i64 0, .int .i64 0] 32))
  have HX2 := Lib.hid (RowB.new v1 #[.int .i64 0, .int .i64 0, .int .i64 0, .int .i64 0, .int .i64 0] 32)
  refine (spec_Places_any A n c B t a b _ (HI.out.below HB2.out)).mono ?_
  intro e W0 hpl
  obtain ⟨A1, n1, c1, rfl, ho1, hb1⟩ := hpl.out
  have HBT := Lib.hid (HB2.out.trans (hb1.mono HB2.out.size))
  have HBX := Lib.hid (HX2.out.below hb1 (by simp))
  have HLN := Lib.hid ho1.len
  have hn : n1 ≤ 1000 := by have := HLL.out; have := ho1.len; omega
  have HRD := Lib.hid (show RdR W0 W0.heap.size A1 (listD t a b) from ho1.rd)
  have hbt := HBT.out.size
  have hbx := HBX.out.lt
  clear hpl ho1 hb1 HX2 HPO
  generalize (placesD t a b).isSome = okp
  generalize hzs : listD t a b = zs at *
  have HZS := Lib.hid hzs
  clear hzs
  go_wp2_with fail
  obtain ⟨bx, hbxe⟩ : ∃ bx, bx = v1.heap.size := ⟨_, rfl⟩
  rw [← hbxe]
  rw [← hbxe] at hbx HBX
  clear hbxe
  go_loopw [36] (fun i wr => ∃ k : Nat, k ≤ n1 ∧ i = .int .i64 k ∧ Below W0.heap.size W0 wr ∧ Hid (∀ j (hj : j < zs.length), j < k → false = false)) (fun i _ => n1 - (intOf i).toNat)
  case atStart => exact ⟨0, Nat.zero_le _, rfl, Below.refl _ _, Lib.hid (fun j _ h => absurd h (by omega))⟩
  case round =>
    obtain ⟨k, hk, rfl, hb, HA⟩ := hrel
    have hzr : W0.heap.size ≤ wr.heap.size := hb.size
    by_cases hlt : k < n1
    · have hlt' : k < zs.length := by rw [HLN.out]; exact hlt
      obtain ⟨b', o', rfl, hlB, hc0, hc1, hc2, hc3, hc4⟩ := (HRD.out.below (Nat.le_refl _) hb).at_ hlt'
      have hbw : b' < wr.heap.size := by omega
      have HB := Lib.hid hb
      have HBXr := Lib.hid (HBX.out.below hb hbx)
      have hbxr : bx < wr.heap.size := by omega
      have hbxn : bx ≠ wr.heap.size := by omega
      have z0 : wr.cell? ⟨bx, 0, none⟩ = some (.int .i64 0) := HBXr.out.cell 0
      have z1 : wr.cell? ⟨bx, 1, none⟩ = some (.int .i64 0) := HBXr.out.cell 1
      have z2 : wr.cell? ⟨bx, 2, none⟩ = some (.int .i64 0) := HBXr.out.cell 2
      have z3 : wr.cell? ⟨bx, 3, none⟩ = some (.int .i64 0) := HBXr.out.cell 3
      have z4 : wr.cell? ⟨bx, 4, none⟩ = some (.int .i64 0) := HBXr.out.cell 4
      have HNX := Lib.hid (fun (h0 : false = false) j (hj : j < zs.length) (h : j < k + 1) => (by
        rcases Nat.lt_or_ge j k with h1 | h1
        · exact HA.out j hj h1
        · have : j = k := by omega
          subst this; exact h0 : false = false))
      have HHit := Lib.hid (fun (h0 : false = true) => find_hit (p := (fun _ => false)) zs k hlt' HA.out h0)
      obtain ⟨r1, r2, r3, r4, r5, r6⟩ := HRBS.out zs[k] (List.getElem_mem _)
      clear hb
      obtain ⟨y, hy⟩ : ∃ y, y = zs[k] := ⟨_, rfl⟩
      rw [← hy] at hc0 hc1 hc2 hc3 hc4 r1 r2 r3 r4 r5 r6
      try rw [← hy] at HNX HHit
      clear hy
      obtain ⟨y0, y1, y2, y3, y4⟩ := y
      simp only at hc0 hc1 hc2 hc3 hc4 r1 r2 r3 r4 r5 r6
      go_wp2_with fail
      refine (l13Meet_any _ _ _ _ _ (by omega) (by omega) (by omega) (by omega)).mono ?_
      rintro e w3 ⟨rfl, rfl⟩
      generalize meetD _ _ _ _ = mb1
      go_wp2_with fail
      refine (l13Meet_any _ _ _ _ _ (by omega) (by omega) (by omega) (by omega)).mono ?_
      rintro e w3 ⟨rfl, rfl⟩
      generalize meetD _ _ _ _ = mb2
      go_upto_region 8 with fail
      refine Chop.cut134 false ?_ ?_
      rotate_left
      · intro T0 W Q hT hW hQ
        refine wp_region_lit ?_
        have hsz : T0.size = 134 := by rw [hT]; rfl
        have f2 : T0[2]? = some (.int .i64 s) := by rw [hT]; rfl
        have f11 : T0[11]? = some (.pointer (some ⟨bx, 0, none⟩)) := by rw [hT]; rfl
        have f12 : T0[12]? = some (.bool false) := by rw [hT]; rfl
        have f16 : T0[16]? = some (.pointer (some ⟨wr.heap.size, 0, none⟩)) := by rw [hT]; rfl
        have f17 : T0[17]? = some (.bool mb1) := by rw [hT]; rfl
        have f18 : T0[18]? = some (.bool mb2) := by rw [hT]; rfl
        have x1 : W.cell? ⟨bx, 1, none⟩ = some (.int .i64 0) := by rw [hW]; exact (HBXr.out.alloc _).cell 1
        have v1 : W.cell? ⟨wr.heap.size, 1, none⟩ = some (.int .i64 y1) := by rw [hW]; exact (RowB.new _ #[.int .i64 y0, .int .i64 y1, .int .i64 y2, .int .i64 y3, .int .i64 y4] _).cell 1
        have x2 : W.cell? ⟨bx, 2, none⟩ = some (.int .i64 0) := by rw [hW]; exact (HBXr.out.alloc _).cell 2
        have v2 : W.cell? ⟨wr.heap.size, 2, none⟩ = some (.int .i64 y2) := by rw [hW]; exact (RowB.new _ #[.int .i64 y0, .int .i64 y1, .int .i64 y2, .int .i64 y3, .int .i64 y4] _).cell 2
        have x3 : W.cell? ⟨bx, 3, none⟩ = some (.int .i64 0) := by rw [hW]; exact (HBXr.out.alloc _).cell 3
        have v3 : W.cell? ⟨wr.heap.size, 3, none⟩ = some (.int .i64 y3) := by rw [hW]; exact (RowB.new _ #[.int .i64 y0, .int .i64 y1, .int .i64 y2, .int .i64 y3, .int .i64 y4] _).cell 3
        have x4 : W.cell? ⟨bx, 4, none⟩ = some (.int .i64 0) := by rw [hW]; exact (HBXr.out.alloc _).cell 4
        have v4 : W.cell? ⟨wr.heap.size, 4, none⟩ = some (.int .i64 y4) := by rw [hW]; exact (RowB.new _ #[.int .i64 y0, .int .i64 y1, .int .i64 y2, .int .i64 y3, .int .i64 y4] _).cell 4
        have K2 := Lib.hid f2
        have K11 := Lib.hid f11
        have K12 := Lib.hid f12
        have K16 := Lib.hid f16
        have K17 := Lib.hid f17
        have K18 := Lib.hid f18
        have HQ := Lib.hid hQ
        have HK : Hid (∀ i, i < 37 → T0[i]? = T0[i]?) := Lib.hid (fun _ _ => rfl)
        clear hT hQ hW
        have g2 := Chop.getD_of f2
        have e2 := Chop.elem_of f2 (by rw [hsz]; decide)
        have g11 := Chop.getD_of f11
        have e11 := Chop.elem_of f11 (by rw [hsz]; decide)
        have g12 := Chop.getD_of f12
        have e12 := Chop.elem_of f12 (by rw [hsz]; decide)
        have g16 := Chop.getD_of f16
        have e16 := Chop.elem_of f16 (by rw [hsz]; decide)
        have g17 := Chop.getD_of f17
        have e17 := Chop.elem_of f17 (by rw [hsz]; decide)
        have g18 := Chop.getD_of f18
        have e18 := Chop.elem_of f18 (by rw [hsz]; decide)
        refine Chop.chop_rel 2 (fun a w' => ∃ T : Array Value, a = ⟨T, []⟩ ∧ W = w' ∧ T.size = 134 ∧ Hid (∀ i, i < 37 → T[i]? = T0[i]?) ∧ T[59]? = some (.bool false)) (fun Q0 hQ0 => ?_) ?_
        · have HQ0 := Lib.hid hQ0
          clear hQ0
          change wpList _ _ _ (_ :: _ :: []) _ _
          go_wp2_with fail
          all_goals exact HQ0.out _ _ ⟨_, rfl, rfl, by simp [hsz], by repeat' (first | with_reducible exact HK | with_reducible refine Chop.keep_set ?_ (by decide) | exact Lib.hid (fun _ _ => rfl)), by with_reducible exact Chop.at_same _ _ _ (by simp [hsz])⟩
        clear hsz HK f2 g2 e2 f11 g11 e11 f12 g12 e12 f16 g16 e16 f17 g17 e17 f18 g18 e18 
        rintro a w' ⟨T, rfl, rfl, hsz, HK, f59⟩
        have f2 := (HK.out 2 (by decide)).trans K2.out
        have f11 := (HK.out 11 (by decide)).trans K11.out
        have f12 := (HK.out 12 (by decide)).trans K12.out
        have f16 := (HK.out 16 (by decide)).trans K16.out
        have f17 := (HK.out 17 (by decide)).trans K17.out
        have f18 := (HK.out 18 (by decide)).trans K18.out
        have g2 := Chop.getD_of f2
        have e2 := Chop.elem_of f2 (by rw [hsz]; decide)
        have g11 := Chop.getD_of f11
        have e11 := Chop.elem_of f11 (by rw [hsz]; decide)
        have g12 := Chop.getD_of f12
        have e12 := Chop.elem_of f12 (by rw [hsz]; decide)
        have g16 := Chop.getD_of f16
        have e16 := Chop.elem_of f16 (by rw [hsz]; decide)
        have g17 := Chop.getD_of f17
        have e17 := Chop.elem_of f17 (by rw [hsz]; decide)
        have g18 := Chop.getD_of f18
        have e18 := Chop.elem_of f18 (by rw [hsz]; decide)
        have g59 := Chop.getD_of f59
        have e59 := Chop.elem_of f59 (by rw [hsz]; decide)
        refine Chop.chop_rel 17 (fun a w' => ∃ T : Array Value, a = ⟨T, []⟩ ∧ W = w' ∧ T.size = 134 ∧ Hid (∀ i, i < 37 → T[i]? = T0[i]?) ∧ T[59]? = some (.bool false)) (fun Q0 hQ0 => ?_) ?_
        · have HQ0 := Lib.hid hQ0
          clear hQ0
          change wpList _ _ _ (_ :: _ :: _ :: _ :: _ :: _ :: _ :: _ :: _ :: _ :: _ :: _ :: _ :: _ :: _ :: _ :: _ :: []) _ _
          go_wp2_with fail
          all_goals exact HQ0.out _ _ ⟨_, rfl, rfl, by simp [hsz], by repeat' (first | with_reducible exact HK | with_reducible refine Chop.keep_set ?_ (by decide) | exact Lib.hid (fun _ _ => rfl)), by repeat' (first | with_reducible exact f59 | with_reducible refine Chop.keep_one ?_ (by decide))⟩
        clear hsz HK f2 g2 e2 f11 g11 e11 f12 g12 e12 f16 g16 e16 f17 g17 e17 f18 g18 e18 f59 g59 e59
        rintro a w' ⟨T, rfl, rfl, hsz, HK, f59⟩
        have f2 := (HK.out 2 (by decide)).trans K2.out
        have f11 := (HK.out 11 (by decide)).trans K11.out
        have f12 := (HK.out 12 (by decide)).trans K12.out
        have f16 := (HK.out 16 (by decide)).trans K16.out
        have f17 := (HK.out 17 (by decide)).trans K17.out
        have f18 := (HK.out 18 (by decide)).trans K18.out
        have g2 := Chop.getD_of f2
        have e2 := Chop.elem_of f2 (by rw [hsz]; decide)
        have g11 := Chop.getD_of f11
        have e11 := Chop.elem_of f11 (by rw [hsz]; decide)
        have g12 := Chop.getD_of f12
        have e12 := Chop.elem_of f12 (by rw [hsz]; decide)
        have g16 := Chop.getD_of f16
        have e16 := Chop.elem_of f16 (by rw [hsz]; decide)
        have g17 := Chop.getD_of f17
        have e17 := Chop.elem_of f17 (by rw [hsz]; decide)
        have g18 := Chop.getD_of f18
        have e18 := Chop.elem_of f18 (by rw [hsz]; decide)
        have g59 := Chop.getD_of f59
        have e59 := Chop.elem_of f59 (by rw [hsz]; decide)
        refine Chop.chop_rel 18 (fun a w' => ∃ T : Array Value, a = ⟨T, []⟩ ∧ W = w' ∧ T.size = 134 ∧ Hid (∀ i, i < 37 → T[i]? = T0[i]?) ∧ T[59]? = some (.bool false)) (fun Q0 hQ0 => ?_) ?_
        · have HQ0 := Lib.hid hQ0
          clear hQ0
          change wpList _ _ _ (_ :: _ :: _ :: _ :: _ :: _ :: _ :: _ :: _ :: _ :: _ :: _ :: _ :: _ :: _ :: _ :: _ :: _ :: []) _ _
          go_wp2_with fail
          all_goals exact HQ0.out _ _ ⟨_, rfl, rfl, by simp [hsz], by repeat' (first | with_reducible exact HK | with_reducible refine Chop.keep_set ?_ (by decide) | exact Lib.hid (fun _ _ => rfl)), by repeat' (first | with_reducible exact f59 | with_reducible refine Chop.keep_one ?_ (by decide))⟩
        clear hsz HK f2 g2 e2 f11 g11 e11 f12 g12 e12 f16 g16 e16 f17 g17 e17 f18 g18 e18 f59 g59 e59
        rintro a w' ⟨T, rfl, rfl, hsz, HK, f59⟩
        have f2 := (HK.out 2 (by decide)).trans K2.out
        have f11 := (HK.out 11 (by decide)).trans K11.out
        have f12 := (HK.out 12 (by decide)).trans K12.out
        have f16 := (HK.out 16 (by decide)).trans K16.out
        have f17 := (HK.out 17 (by decide)).trans K17.out
        have f18 := (HK.out 18 (by decide)).trans K18.out
        have g2 := Chop.getD_of f2
        have e2 := Chop.elem_of f2 (by rw [hsz]; decide)
        have g11 := Chop.getD_of f11
        have e11 := Chop.elem_of f11 (by rw [hsz]; decide)
        have g12 := Chop.getD_of f12
        have e12 := Chop.elem_of f12 (by rw [hsz]; decide)
        have g16 := Chop.getD_of f16
        have e16 := Chop.elem_of f16 (by rw [hsz]; decide)
        have g17 := Chop.getD_of f17
        have e17 := Chop.elem_of f17 (by rw [hsz]; decide)
        have g18 := Chop.getD_of f18
        have e18 := Chop.elem_of f18 (by rw [hsz]; decide)
        have g59 := Chop.getD_of f59
        have e59 := Chop.elem_of f59 (by rw [hsz]; decide)
        refine Chop.chop_rel 18 (fun a w' => ∃ T : Array Value, a = ⟨T, []⟩ ∧ W = w' ∧ T.size = 134 ∧ Hid (∀ i, i < 37 → T[i]? = T0[i]?) ∧ T[59]? = some (.bool false)) (fun Q0 hQ0 => ?_) ?_
        · have HQ0 := Lib.hid hQ0
          clear hQ0
          change wpList _ _ _ (_ :: _ :: _ :: _ :: _ :: _ :: _ :: _ :: _ :: _ :: _ :: _ :: _ :: _ :: _ :: _ :: _ :: _ :: []) _ _
          go_wp2_with fail
          all_goals exact HQ0.out _ _ ⟨_, rfl, rfl, by simp [hsz], by repeat' (first | with_reducible exact HK | with_reducible refine Chop.keep_set ?_ (by decide) | exact Lib.hid (fun _ _ => rfl)), by repeat' (first | with_reducible exact f59 | with_reducible refine Chop.keep_one ?_ (by decide))⟩
        clear hsz HK f2 g2 e2 f11 g11 e11 f12 g12 e12 f16 g16 e16 f17 g17 e17 f18 g18 e18 f59 g59 e59
        rintro a w' ⟨T, rfl, rfl, hsz, HK, f59⟩
        have f2 := (HK.out 2 (by decide)).trans K2.out
        have f11 := (HK.out 11 (by decide)).trans K11.out
        have f12 := (HK.out 12 (by decide)).trans K12.out
        have f16 := (HK.out 16 (by decide)).trans K16.out
        have f17 := (HK.out 17 (by decide)).trans K17.out
        have f18 := (HK.out 18 (by decide)).trans K18.out
        have g2 := Chop.getD_of f2
        have e2 := Chop.elem_of f2 (by rw [hsz]; decide)
        have g11 := Chop.getD_of f11
        have e11 := Chop.elem_of f11 (by rw [hsz]; decide)
        have g12 := Chop.getD_of f12
        have e12 := Chop.elem_of f12 (by rw [hsz]; decide)
        have g16 := Chop.getD_of f16
        have e16 := Chop.elem_of f16 (by rw [hsz]; decide)
        have g17 := Chop.getD_of f17
        have e17 := Chop.elem_of f17 (by rw [hsz]; decide)
        have g18 := Chop.getD_of f18
        have e18 := Chop.elem_of f18 (by rw [hsz]; decide)
        have g59 := Chop.getD_of f59
        have e59 := Chop.elem_of f59 (by rw [hsz]; decide)
        refine Chop.chop_rel 18 (fun a w' => ∃ T : Array Value, a = ⟨T, []⟩ ∧ W = w' ∧ T.size = 134 ∧ Hid (∀ i, i < 37 → T[i]? = T0[i]?) ∧ T[130]? = some (.bool false)) (fun Q0 hQ0 => ?_) ?_
        · have HQ0 := Lib.hid hQ0
          clear hQ0
          change wpList _ _ _ (_ :: _ :: _ :: _ :: _ :: _ :: _ :: _ :: _ :: _ :: _ :: _ :: _ :: _ :: _ :: _ :: _ :: _ :: []) _ _
          go_wp2_with fail
          all_goals exact HQ0.out _ _ ⟨_, rfl, rfl, by simp [hsz], by repeat' (first | with_reducible exact HK | with_reducible refine Chop.keep_set ?_ (by decide) | exact Lib.hid (fun _ _ => rfl)), by with_reducible exact Chop.at_same _ _ _ (by simp [hsz])⟩
        clear hsz HK f2 g2 e2 f11 g11 e11 f12 g12 e12 f16 g16 e16 f17 g17 e17 f18 g18 e18 f59 g59 e59
        rintro a w' ⟨T, rfl, rfl, hsz, HK, f130⟩
        change wpList _ _ _ [] _ _
        refine wpList_nil ?_
        exact HQ.out _ hsz HK f130
      intros
      go_wp2_with fail
      exact ⟨⟨k + 1, by omega, by go_num, HB.out.alloc hzr _, Lib.hid (fun _ _ _ => by simp)⟩, by simp [intOf]; omega⟩
    · obtain rfl : n1 = k := by omega
      skip
      go_wp2_with fail
      go_ret
      exact ⟨ret_int (by rw [HZS.out]; exact HV.out.symm), HBT.out.trans (hb.mono hbt)⟩
end Go.Proofs.Ytkinkdgnephcbaa.Tr
