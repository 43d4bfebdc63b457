/- Beside in the program. -/
import Derived.Test.YtkinkdgnephcbaaTrBg
namespace Go.Proofs.Ytkinkdgnephcbaa.Tr
open Go.RowKit Go.Proofs.Ytkinkdgnephcbaa.Bytes Go.Proofs.Ytkinkdgnephcbaa.Rows_ Go.Proofs.Ytkinkdgnephcbaa.RowK Go.Proofs.Ytkinkdgnephcbaa.DOk Go.Proofs.Ytkinkdgnephcbaa.Opq
open Tree
set_option linter.unusedVariables false
attribute [local go_sem ↓] Go.wp_at_zero Go.wp_at_succ
theorem isBeside_any (p x y v h p' x' y' v' h' s : Int) (w : World) (ha : RB ⟨p, x, y, v, h⟩) (hb : RB ⟨p', x', y', v', h'⟩) :
    Calls Try.prog 78 #[.agg #[.int .i64 p, .int .i64 x, .int .i64 y, .int .i64 v, .int .i64 h], .agg #[.int .i64 p', .int .i64 x', .int .i64 y', .int .i64 v', .int .i64 h'], .int .i64 s] w fun e u => e = .returned (.bool (besideD ⟨p, x, y, v, h⟩ s ⟨p', x', y', v', h'⟩)) ∧ Below w.heap.size w u := by
  by_cases h1 : s = 76
  · subst h1
    rw [show besideD ⟨p, x, y, v, h⟩ 76 ⟨p', x', y', v', h'⟩ = rightD ⟨p', x', y', v', h'⟩ ⟨p, x, y, v, h⟩ by unfold besideD rightD; rw [meetD_comm]; simp]
    exact isBeside_76 p x y v h p' x' y' v' h' w ha hb
  · by_cases h2 : s = 82
    · subst h2
      rw [show besideD ⟨p, x, y, v, h⟩ 82 ⟨p', x', y', v', h'⟩ = rightD ⟨p, x, y, v, h⟩ ⟨p', x', y', v', h'⟩ by unfold besideD rightD; simp]
      exact isBeside_82 p x y v h p' x' y' v' h' w ha hb
    · by_cases h3 : s = 85
      · subst h3
        rw [show besideD ⟨p, x, y, v, h⟩ 85 ⟨p', x', y', v', h'⟩ = rightD ⟨p', y', x', h', v'⟩ ⟨p, y, x, h, v⟩ by unfold besideD rightD; rw [meetD_comm x' v' x v]; simp]
        exact isBeside_85 p x y v h p' x' y' v' h' w ha hb
      · by_cases h4 : s = 68
        · subst h4
          rw [show besideD ⟨p, x, y, v, h⟩ 68 ⟨p', x', y', v', h'⟩ = rightD ⟨p, y, x, h, v⟩ ⟨p', y', x', h', v'⟩ by unfold besideD rightD; simp]
          exact isBeside_68 p x y v h p' x' y' v' h' w ha hb
        · rw [show besideD ⟨p, x, y, v, h⟩ s ⟨p', x', y', v', h'⟩ = false by unfold besideD; simp [h1, h2, h3, h4]]
          exact isBeside_other p x y v h p' x' y' v' h' s w ha hb h1 h2 h3 h4
set_option maxRecDepth 100000 in
set_option maxHeartbeats 3200000 in
theorem impl_Beside_any (A : Option Addr) (n c B : Nat) (t : List NodeD) (p s a b : Int) (w : World) (hi : InN w B A n c t) :
    Calls Try.prog 28 #[.slice A n c, .int .i64 p, .int .i64 s, .int .i64 a, .int .i64 b] w fun e w' => e = .returned (.int .i64 (besD (listD t a b) p s)) ∧ Below w.heap.size w w' := by
  have HI := Lib.hid hi
  clear hi
  have HRBS := Lib.hid (listD_rb t a b)
  have HLL := Lib.hid (listD_len t a b)
  have HPB := Lib.hid (fun r => pof_rb (t := t) (a := a) (b := b) (p := p) (r := r))
  go_enter Try.func28, Try.ntmps28
  go_wp2_with fail
  refine (impl_Places_any A n c B t a b _ HI.out).mono ?_
  intro e W0 hpl
  obtain ⟨A1, n1, c1, rfl, ho1, hb1⟩ := hpl.out
  have HBT := Lib.hid hb1
  have HLN := Lib.hid ho1.len
  have hn : n1 ≤ 1000 := by have := HLL.out; have := ho1.len; omega
  have HRD := Lib.hid (show RdR W0 W0.heap.size A1 (listD t a b) from ho1.rd)
  have hbt := HBT.out.size
  clear hpl ho1 hb1
  have HPW := Lib.hid (placeWith_any A1 n1 c1 (listD t a b) p W0 HRD.out HLN.out hn)
  generalize (placesD t a b).isSome = okp
  generalize hzs : listD t a b = zs at *
  have HZS := Lib.hid hzs
  clear hzs
  rcases hp : pofD zs p with _ | ⟨q0, q1, q2, q3, q4⟩
  · have HV := Lib.hid (besD_no (s := s) hp)
    rw [hp, show (none : Option RectD).isSome = false from rfl] at HPW
    generalize pofR zs p = q at HPW
    clear hp HPB HRBS
    go_wp2_with fail
    refine HPW.out.mono ?_
    rintro e v2 ⟨rfl, hb2⟩
    have HB2 := Lib.hid (HBT.out.trans (hb2.mono hbt))
    clear hb2
    go_wp2_with fail
    go_ret
    exact ⟨ret_int (by rw [HZS.out]; exact HV.out.symm), HB2.out.alloc HB2.out.size _⟩
  · rw [hp, show (some (⟨q0, q1, q2, q3, q4⟩ : RectD)).isSome = true from rfl, pofR_some' hp] at HPW
    have HRB := Lib.hid (HPB.out _ hp)
    have HP := Lib.hid hp
    clear hp HPB
    go_wp2_with fail
    refine HPW.out.mono ?_
    rintro e v2 ⟨rfl, hb2⟩
    have HB2 := Lib.hid (HBT.out.trans (hb2.mono hbt))
    have HRD2 := Lib.hid ((HRD.out.below (Nat.le_refl _) hb2).more hb2.size)
    clear hb2 HPW
    have HB3 := Lib.hid (HB2.out.alloc HB2.out.size (.cells #[.int .i64 q0, .int .i64 q1, .int .i64 q2, .int .i64 q3, .int .i64 q4] 32))
    have HX3 := Lib.hid (RowB.new v2 #[.int .i64 q0, .int .i64 q1, .int .i64 q2, .int .i64 q3, .int .i64 q4] 32)
    have HRD3 := Lib.hid (HRD2.out.below (Nat.le_refl _) ((Below.refl v2.heap.size v2).alloc (Nat.le_refl _) (.cells #[.int .i64 q0, .int .i64 q1, .int .i64 q2, .int .i64 q3, .int .i64 q4] 32)))
    obtain ⟨V, hV⟩ : ∃ V, V = v2.alloc (.cells #[.int .i64 q0, .int .i64 q1, .int .i64 q2, .int .i64 q3, .int .i64 q4] 32) := ⟨_, rfl⟩
    have hvs : V.heap.size = v2.heap.size + 1 := by rw [hV]; simp
    rw [← hV] at HB3 HX3 HRD3
    go_wp2_with fail
    rw [← hV]
    clear hV
    have hbt3 := HB3.out.size
    have hbx3 : v2.heap.size < V.heap.size := by omega
    have hlV : v2.heap.size ≤ V.heap.size := by omega
    go_loopw [34] (fun i wr => ∃ k : Nat, k ≤ n1 ∧ i = .int .i64 k ∧ Below V.heap.size V wr ∧ Hid (∀ j (hj : j < zs.length), j < k → besideD ⟨q0, q1, q2, q3, q4⟩ s zs[j] = false)) (fun i _ => n1 - (intOf i).toNat)
    case atStart => exact ⟨0, Nat.zero_le _, rfl, Below.refl _ _, Lib.hid (fun j _ h => absurd h (by omega))⟩
    case round =>
      obtain ⟨k, hk, rfl, hb, HA⟩ := hrel
      have hzr : V.heap.size ≤ wr.heap.size := hb.size
      by_cases hlt : k < n1
      · have hlt' : k < zs.length := by rw [HLN.out]; exact hlt
        obtain ⟨b', o', rfl, hlB, hc0, hc1, hc2, hc3, hc4⟩ := (HRD3.out.below hlV hb).at_ hlt'
        have hbw : b' < wr.heap.size := by omega
        have HB := Lib.hid hb
        have HBXr := Lib.hid (HX3.out.below hb hbx3)
        have hbxr : v2.heap.size < wr.heap.size := by omega
        have hbxn : v2.heap.size ≠ wr.heap.size := by omega
        have z0 : wr.cell? ⟨v2.heap.size, 0, none⟩ = some (.int .i64 q0) := HBXr.out.cell 0
        have z1 : wr.cell? ⟨v2.heap.size, 1, none⟩ = some (.int .i64 q1) := HBXr.out.cell 1
        have z2 : wr.cell? ⟨v2.heap.size, 2, none⟩ = some (.int .i64 q2) := HBXr.out.cell 2
        have z3 : wr.cell? ⟨v2.heap.size, 3, none⟩ = some (.int .i64 q3) := HBXr.out.cell 3
        have z4 : wr.cell? ⟨v2.heap.size, 4, none⟩ = some (.int .i64 q4) := HBXr.out.cell 4
        have HNX := Lib.hid (fun (h0 : besideD ⟨q0, q1, q2, q3, q4⟩ s zs[k] = false) j (hj : j < zs.length) (h : j < k + 1) => (by
          rcases Nat.lt_or_ge j k with h1 | h1
          · exact HA.out j hj h1
          · have : j = k := by omega
            subst this; exact h0 : besideD ⟨q0, q1, q2, q3, q4⟩ s zs[j] = false))
        have HHit := Lib.hid (fun (h0 : besideD ⟨q0, q1, q2, q3, q4⟩ s zs[k] = true) => find_hit (p := besideD ⟨q0, q1, q2, q3, q4⟩ s) zs k hlt' HA.out h0)
        have HRK := Lib.hid (HRBS.out zs[k] (List.getElem_mem _))
        clear hb
        obtain ⟨y, hy⟩ : ∃ y, y = zs[k] := ⟨_, rfl⟩
        rw [← hy] at HNX HHit HRK hc0 hc1 hc2 hc3 hc4
        clear hy
        obtain ⟨y0, y1, y2, y3, y4⟩ := y
        simp only at hc0 hc1 hc2 hc3 hc4
        have HIB := Lib.hid (fun (W : World) => isBeside_any q0 q1 q2 q3 q4 y0 y1 y2 y3 y4 s W HRB.out HRK.out)
        cases hc : besideD ⟨q0, q1, q2, q3, q4⟩ s ⟨y0, y1, y2, y3, y4⟩
        · rw [hc] at HIB
          have HN2 := Lib.hid (HNX.out hc)
          clear hc
          go_wp2_with fail
          refine (HIB.out _).mono ?_
          rintro e u ⟨rfl, hbu⟩
          have HBu := Lib.hid ((HB.out.alloc hzr (.cells #[.int .i64 y0, .int .i64 y1, .int .i64 y2, .int .i64 y3, .int .i64 y4] 32)).trans (hbu.mono (by simp; omega)))
          clear hbu
          go_wp2_with fail
          exact ⟨⟨k + 1, by omega, by go_num, HBu.out, Lib.hid HN2.out⟩, by simp [intOf]; omega⟩
        · rw [hc] at HIB
          have HV := Lib.hid (besD_hit HP.out (HHit.out hc))
          clear hc
          go_wp2_with fail
          refine (HIB.out _).mono ?_
          rintro e u ⟨rfl, hbu⟩
          have HBu := Lib.hid ((HB.out.alloc hzr (.cells #[.int .i64 y0, .int .i64 y1, .int .i64 y2, .int .i64 y3, .int .i64 y4] 32)).trans (hbu.mono (by simp; omega)))
          have HY := Lib.hid ((RowB.new wr #[.int .i64 y0, .int .i64 y1, .int .i64 y2, .int .i64 y3, .int .i64 y4] 32).below hbu (by simp))
          have u0 : u.cell? ⟨wr.heap.size, 0, none⟩ = some (.int .i64 y0) := HY.out.cell 0
          clear hbu
          go_wp2_with fail
          go_ret
          exact ⟨ret_int (by rw [HZS.out]; exact HV.out.symm), HB3.out.trans (HBu.out.mono hbt3)⟩
      · obtain rfl : n1 = k := by omega
        have HV := Lib.hid (besD_miss HP.out (find_miss zs (fun j hj => HA.out j hj (by have := HLN.out; omega))))
        go_wp2_with fail
        go_ret
        exact ⟨ret_int (by rw [HZS.out]; exact HV.out.symm), HB3.out.trans (hb.mono hbt3)⟩
end Go.Proofs.Ytkinkdgnephcbaa.Tr
