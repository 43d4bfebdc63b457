/- GridPaste in the model: each cell of the other put to its place; the same list as the program's. -/
import Derived.Test.YtgdjbpgfplcjpaaGrPasteM
import Derived.Test.YtgdjbpgfplcjpaaGrSmall
import Derived.Deep.DrawnRows
import Derived.Deep.Cut
import Derived.Deep.CutRange
import Derived.Deep.DeepCutAuto
namespace Go.Proofs.Ytgdjbpgfplcjpaa.Gr
open Go.RowKit Go.Proofs.Ytgdjbpgfplcjpaa.Bytes Go.Proofs.Ytgdjbpgfplcjpaa.Rows_ Go.Proofs.Ytgdjbpgfplcjpaa.RowK
set_option linter.unusedVariables false
set_option maxRecDepth 100000 in
set_option maxHeartbeats 6400000 in
theorem spec_GridPaste_yes (W H : Nat) (b o n c : Nat) (cs : List CellD) (W2 H2 : Nat) (b2 o2 n2 c2 : Nat) (ds : List CellD) (x y : Int) (w : World) (hr : RdC w w.heap.size (some ⟨b, o, none⟩) cs) (hl : cs.length = n) (hn : n ≤ 1048576) (ho : okG (W : Int) (H : Int) cs = true) (hr2 : RdC w w.heap.size (some ⟨b2, o2, none⟩) ds) (hl2 : ds.length = n2) (hn2 : n2 ≤ 1048576) (ho2 : okG (W2 : Int) (H2 : Int) ds = true) (s1 : smallB x = true) (s2 : smallB y = true) (hW1 : 1 ≤ W) (hW : W ≤ 120) (hH1 : 1 ≤ H) (hH : H ≤ 120) (hWH : n = W * H) (hW21 : 1 ≤ W2) (hW2 : W2 ≤ 120) (hH21 : 1 ≤ H2) (hH2 : H2 ≤ 120) (hWH2 : n2 = W2 * H2) :
    Calls Try.prog 15 #[.agg #[.int .i64 (W : Int), .int .i64 (H : Int), .slice (some ⟨b, o, none⟩) n c], .agg #[.int .i64 (W2 : Int), .int .i64 (H2 : Int), .slice (some ⟨b2, o2, none⟩) n2 c2], .int .i64 x, .int .i64 y] w (AnsT w ((W : Int), (H : Int), (mixP cs ds W W2 H2 x y allP))) := by
  have hb0 := Lib.hid ((((Below.refl w.heap.size w).alloc (Nat.le_refl _) (.cells #[.int .i64 (W : Int), .int .i64 (H : Int), .slice (some ⟨b, o, none⟩) n c] 25)).alloc (by simp) (.cells #[.int .i64 (W2 : Int), .int .i64 (H2 : Int), .slice (some ⟨b2, o2, none⟩) n2 c2] 25)).alloc (by simp; omega) (.cells #[.int .i64 0, .int .i64 0, .slice none 0 0] 25))
  have X0 := Lib.hid (((BoxG.new w #[.int .i64 (W : Int), .int .i64 (H : Int), .slice (some ⟨b, o, none⟩) n c]).below ((Below.refl _ _).alloc (Nat.le_refl _) (.cells #[.int .i64 (W2 : Int), .int .i64 (H2 : Int), .slice (some ⟨b2, o2, none⟩) n2 c2] 25)) (by simp)).below ((Below.refl _ _).alloc (Nat.le_refl _) (.cells #[.int .i64 0, .int .i64 0, .slice none 0 0] 25)) (by simp; omega))
  have xb := (BoxG.new (w.alloc (.cells #[.int .i64 (W : Int), .int .i64 (H : Int), .slice (some ⟨b, o, none⟩) n c] 25)) #[.int .i64 (W2 : Int), .int .i64 (H2 : Int), .slice (some ⟨b2, o2, none⟩) n2 c2]).below ((Below.refl _ _).alloc (Nat.le_refl _) (.cells #[.int .i64 0, .int .i64 0, .slice none 0 0] 25)) (by simp)
  simp only [World.size_alloc] at xb
  have XB := Lib.hid xb
  have x1 := BoxG.new ((w.alloc (.cells #[.int .i64 (W : Int), .int .i64 (H : Int), .slice (some ⟨b, o, none⟩) n c] 25)).alloc (.cells #[.int .i64 (W2 : Int), .int .i64 (H2 : Int), .slice (some ⟨b2, o2, none⟩) n2 c2] 25)) #[.int .i64 0, .int .i64 0, .slice none 0 0]
  simp only [World.size_alloc] at x1
  have X1 := Lib.hid x1
  have HO := Lib.hid ho
  have HO2 := Lib.hid ho2
  have S1 := Lib.hid s1
  have S2 := Lib.hid s2
  have HR := Lib.hid hr
  have HL := Lib.hid hl
  have HR2 := Lib.hid hr2
  have HL2 := Lib.hid hl2
  have HK := Lib.hid (fun V (h : Below w.heap.size w V) => spec_GridOk_any (W : Int) (H : Int) (some ⟨b, o, none⟩) n c cs V ((HR.out.below (Nat.le_refl _) h).more h.size) HL.out (by omega))
  have HK2 := Lib.hid (fun V (h : Below w.heap.size w V) => spec_GridOk_any (W2 : Int) (H2 : Int) (some ⟨b2, o2, none⟩) n2 c2 ds V ((HR2.out.below (Nat.le_refl _) h).more h.size) HL2.out (by omega))
  have HCP := Lib.hid (fun V (h : Below w.heap.size w V) => l07Copy_any (W : Int) (H : Int) (some ⟨b, o, none⟩) n c cs V (fun h => by cases h) ((HR.out.below (Nat.le_refl _) h).more h.size) HL.out (by omega))
  obtain ⟨k11, k12⟩ := of_smallB s1
  obtain ⟨k21, k22⟩ := of_smallB s2
  have HEND := Lib.hid (pasteS_end (cs := cs) (ds := ds) (W := W) (W2 := W2) (H2 := H2) (x := x) (y := y) (k := n2) hWH2)
  have HNW := Lib.hid (show cs.length = W * H by omega)
  have HND := Lib.hid (show ds.length = W2 * H2 by omega)
  have hn0 : 0 < n := by rw [hWH]; exact Nat.mul_pos hW1 hH1
  have HRL := Lib.hid (fun (a d : Nat) (h1 : a < W) (h2 : d < H) => (show d * W + a < n by rw [hWH]; exact row_lt h1 h2))
  clear hWH hWH2 ho ho2 hr hl hr2 hl2 x1 xb s1 s2
  go_enter Try.func15, Try.ntmps15
  go_wp2_with fail
  refine (HK.out _ hb0.out).mono ?_
  rintro e v1 ⟨rfl, hb1⟩
  rw [HO.out]
  have x0 := X0.out.below hb1 (by simp; omega)
  have xb := XB.out.below hb1 (by simp)
  have X1a := Lib.hid (X1.out.below hb1 (by simp))
  have X0a := Lib.hid x0
  have XBa := Lib.hid xb
  have HB1 := Lib.hid (hb0.out.trans (hb1.mono (by simp; omega)))
  have c0 := xb.cell 0
  have c1 := xb.cell 1
  have c2_ := xb.cell 2
  have hz1 : w.heap.size + 2 < v1.heap.size := by have := hb1.size; simp at this; omega
  clear hb1 x0 xb X0 X1 XB
  go_wp2_with fail
  refine (HK2.out _ HB1.out).mono ?_
  rintro e v2 ⟨rfl, hb2⟩
  rw [HO2.out]
  clear c0 c1 c2_
  have x0 := X0a.out.below hb2 (by omega)
  have xb := XBa.out.below hb2 (by omega)
  have X1b := Lib.hid (X1a.out.below hb2 (by omega))
  have X0b := Lib.hid x0
  have XBb := Lib.hid xb
  have HB2 := Lib.hid (HB1.out.trans (hb2.mono (by omega)))
  have q0 := x0.cell 0
  have q0' := x0.cell 1
  have q0'' := x0.cell 2
  have hz2 : w.heap.size + 2 < v2.heap.size := by have := hb2.size; omega
  clear hb2 x0 xb X0a X1a XBa
  go_wp2_with fail
  (with_reducible refine (l07Small_any x _).mono ?_)
  rintro e v ⟨rfl, rfl⟩
  rw [S1.out]
  go_wp2_with fail
  (with_reducible refine (l07Small_any y _).mono ?_)
  rintro e v ⟨rfl, rfl⟩
  rw [S2.out]
  go_wp2_with fail
  refine (HCP.out _ HB2.out).mono ?_
  rintro e v3 ⟨A3, c3, rfl, ho3, hb3⟩
  obtain ⟨g, rfl⟩ := ho3.addr (by omega)
  have hcap := ho3.cap
  clear q0 q0' q0''
  have hg := ho3.blk g rfl
  have HB3 := Lib.hid (HB2.out.trans (hb3.mono (by omega)))
  have hz3 : w.heap.size + 2 < v3.heap.size := by have := hb3.size; omega
  have hal := (Below.refl v3.heap.size v3).alloc (Nat.le_refl _) (.cells #[.int .i64 (W : Int), .int .i64 (H : Int), .slice (some ⟨g, 0, none⟩) n c3] 25)
  have X1c := Lib.hid ((X1b.out.below hb3 (by omega)).below hal (by omega))
  have X0c := Lib.hid ((X0b.out.below hb3 (by omega)).below hal (by omega))
  have xbc := (XBb.out.below hb3 (by omega)).below hal (by omega)
  have XBc := Lib.hid xbc
  have X9 := Lib.hid (BoxG.new v3 #[.int .i64 (W : Int), .int .i64 (H : Int), .slice (some ⟨g, 0, none⟩) n c3])
  have HO3 := Lib.hid ((ho3.below (Nat.le_refl _) hal).more (base' := w.heap.size + 3) (by omega))
  have HB3a := Lib.hid (HB3.out.trans (hal.mono (by omega)))
  have hgw : w.heap.size + 3 ≤ g := by omega
  have hgn9 : g ≠ v3.heap.size := by omega
  have HG9 := Lib.hid (show g < v3.heap.size from hg.2)
  have q2 := xbc.cell 2
  clear hal hb3 ho3 X1b X0b XBb HB3 hg xbc
  go_wp2_with fail
  clear q2
  go_loopw [38] (fun s wr => ∃ k : Nat, k ≤ n2 ∧ s = .int .i64 (k : Int) ∧ BoxG wr w.heap.size #[.int .i64 (W : Int), .int .i64 (H : Int), .slice (some ⟨b, o, none⟩) n c] ∧ BoxG wr (w.heap.size + 1) #[.int .i64 (W2 : Int), .int .i64 (H2 : Int), .slice (some ⟨b2, o2, none⟩) n2 c2] ∧ BoxG wr (w.heap.size + 2) #[.int .i64 0, .int .i64 0, .slice none 0 0] ∧ BoxG wr v3.heap.size #[.int .i64 (W : Int), .int .i64 (H : Int), .slice (some ⟨g, 0, none⟩) n c3] ∧ OwnC wr (w.heap.size + 3) (some ⟨g, 0, none⟩) n c3 (mixP cs ds W W2 H2 x y (stepsP W W2 x y k)) ∧ Below w.heap.size w wr) (fun s _ => n2 - (intOf s).toNat)
  case atStart => exact ⟨0, Nat.zero_le _, rfl, X0c.out, XBc.out, X1c.out, X9.out, by rw [← pasteS_zero]; exact HO3.out, HB3a.out⟩
  case round =>
    clear X0c X1c XBc X9 HO3 HB3a
    obtain ⟨k, hkn, rfl, xa, xb, x1, x9, ho, hb⟩ := hrel
    by_cases hlt : k < n2
    · have hkd : k < ds.length := by rw [HL2.out]; exact hlt
      obtain ⟨b2', o2', eA, _, d0, d1, d2, d3, d4, d5⟩ := (HR2.out.below (Nat.le_refl _) hb).at_ hkd
      injection eA with eA
      injection eA with eA1 eA2
      subst eA1 eA2
      have HDK := Lib.hid (show ds[k] = ⟨ds[k].r, ds[k].fg, ds[k].bg, ds[k].b, ds[k].u, ds[k].t⟩ from rfl)
      generalize ds[k].r = z0 at d0 HDK
      generalize ds[k].fg = z1 at d1 HDK
      generalize ds[k].bg = z2 at d2 HDK
      generalize ds[k].b = z3 at d3 HDK
      generalize ds[k].u = z4 at d4 HDK
      generalize ds[k].t = z5 at d5 HDK
      have a0 : wr.cell? ⟨w.heap.size, 0, none⟩ = some (.int .i64 (W : Int)) := xa.cell 0
      have a1 : wr.cell? ⟨w.heap.size, 1, none⟩ = some (.int .i64 (H : Int)) := xa.cell 1
      have b0 : wr.cell? ⟨w.heap.size + 1, 0, none⟩ = some (.int .i64 (W2 : Int)) := xb.cell 0
      have q9 : wr.cell? ⟨v3.heap.size, 2, none⟩ = some (.slice (some ⟨g, 0, none⟩) n c3) := x9.cell 2
      obtain ⟨mx, hmx⟩ : ∃ m, m = k % W2 := ⟨_, rfl⟩
      obtain ⟨my, hmy⟩ : ∃ m, m = k / W2 := ⟨_, rfl⟩
      have E1 := Lib.hid (show Int.tmod (k : Int) (W2 : Int) = (mx : Int) by rw [hmx]; rfl)
      have E2 := Lib.hid (show Int.tdiv (k : Int) (W2 : Int) = (my : Int) by rw [hmy]; rfl)
      have hmxb : mx < 120 := by rw [hmx]; exact Nat.lt_of_lt_of_le (Nat.mod_lt _ hW21) hW2
      have hmyb : my ≤ 1048576 := by rw [hmy]; exact Nat.le_trans (Nat.div_le_self _ _) (by omega)
      have HIF := Lib.hid (fun (h : ¬ (0 ≤ x + (mx : Int) ∧ x + (mx : Int) < (W : Int) ∧ 0 ≤ y + (my : Int) ∧ y + (my : Int) < (H : Int))) => (show ¬ (0 ≤ x + ((k % W2 : Nat) : Int) ∧ x + ((k % W2 : Nat) : Int) < (W : Int) ∧ 0 ≤ y + ((k / W2 : Nat) : Int) ∧ y + ((k / W2 : Nat) : Int) < (H : Int)) by rw [← hmx, ← hmy]; exact h))
      have HIT := Lib.hid (fun (cx cy j : Nat) (h1 : (cx : Int) = x + (mx : Int)) (h2 : (cy : Int) = y + (my : Int)) => pasteS_in (cs := cs) (ds := ds) (W := W) (H := H) (W2 := W2) (H2 := H2) (x := x) (y := y) (k := k) (j := j) (cx := cx) (cy := cy) hW21 hW1 HNW.out HND.out hkd (by rw [← hmx]; exact h1) (by rw [← hmy]; exact h2))
      have hal := (Below.refl wr.heap.size wr).alloc (Nat.le_refl _) (.cells #[.int .i64 z0, .int .i64 z1, .int .i64 z2, .bool z3, .bool z4, .bool z5] 37)
      have XA := Lib.hid (xa.below hal xa.lt)
      have XB := Lib.hid (xb.below hal xb.lt)
      have XC := Lib.hid (x1.below hal x1.lt)
      have X9 := Lib.hid (x9.below hal x9.lt)
      have HOw := Lib.hid (ho.below (Nat.le_refl _) hal)
      have HBw := Lib.hid (hb.trans (hal.mono hb.size))
      have la := xa.lt
      have l9 := x9.lt
      have lb := xb.lt
      have lg : g < wr.heap.size := (ho.blk g rfl).2
      clear xa xb x1 x9 ho hb hmx hmy hal
      have hW0 : (W2 : Int) ≠ 0 := by omega
      have e1 := E1.out
      have e2 := E2.out
      have i0 : (0 : Int) ≤ (k : Int) := by omega
      have i1 : (k : Int) < (n2 : Int) := by omega
      by_cases b1 : 0 ≤ x + (mx : Int)
      · by_cases b2_ : x + (mx : Int) < (W : Int)
        · by_cases b3 : 0 ≤ y + (my : Int)
          · by_cases b4 : y + (my : Int) < (H : Int)
            · obtain ⟨cx, hcx⟩ := Int.eq_ofNat_of_zero_le b1
              obtain ⟨cy, hcy⟩ := Int.eq_ofNat_of_zero_le b3
              obtain ⟨cw, hcw⟩ : ∃ m, m = cy * W := ⟨_, rfl⟩
              obtain ⟨j, hj⟩ : ∃ m, m = cw + cx := ⟨_, rfl⟩
              have hjn : j < n := by rw [hj, hcw]; exact HRL.out cx cy (by omega) (by omega)
              have E3 := Lib.hid (show IntKind.i64.wrap ((cy : Int) * (W : Int)) = (cw : Int) by rw [← Int.natCast_mul, ← hcw]; exact IntWalk.i64_in _ (by omega))
              have E4 := Lib.hid (show IntKind.i64.wrap ((cw : Int) + (cx : Int)) = (j : Int) by rw [← Int.natCast_add, ← hj]; exact IntWalk.i64_in _ (by omega))
              have HCX := Lib.hid hcx
              have HCY := Lib.hid hcy
              obtain ⟨wz, hwz⟩ : ∃ v, v = (wr.alloc (.cells #[.int .i64 z0, .int .i64 z1, .int .i64 z2, .bool z3, .bool z4, .bool z5] 37)) := ⟨_, rfl⟩
              have HV := Lib.hid hwz.symm
              rw [← hwz] at XA XB XC X9 HOw HBw
              have m0 : wz.cell? ⟨wr.heap.size, 0, none⟩ = some (.int .i64 z0) := by rw [hwz, World.cell?_alloc_at _ _ _ _ rfl]; rfl
              have m1 : wz.cell? ⟨wr.heap.size, 1, none⟩ = some (.int .i64 z1) := by rw [hwz, World.cell?_alloc_at _ _ _ _ rfl]; rfl
              have m2 : wz.cell? ⟨wr.heap.size, 2, none⟩ = some (.int .i64 z2) := by rw [hwz, World.cell?_alloc_at _ _ _ _ rfl]; rfl
              have m3 : wz.cell? ⟨wr.heap.size, 3, none⟩ = some (.bool z3) := by rw [hwz, World.cell?_alloc_at _ _ _ _ rfl]; rfl
              have m4 : wz.cell? ⟨wr.heap.size, 4, none⟩ = some (.bool z4) := by rw [hwz, World.cell?_alloc_at _ _ _ _ rfl]; rfl
              have m5 : wz.cell? ⟨wr.heap.size, 5, none⟩ = some (.bool z5) := by rw [hwz, World.cell?_alloc_at _ _ _ _ rfl]; rfl
              clear hwz
              have i2 : (0 : Int) ≤ (j : Int) := by omega
              have i3 : (j : Int) < (n : Int) := by omega
              have HN := Lib.hid (HIT.out cx cy j hcx.symm hcy.symm (by omega) (by omega) (by rw [hj, hcw]))
              have hll : (mixP cs ds W W2 H2 x y (stepsP W W2 x y k)).length = n := by rw [mixP_len]; exact HL.out
              have HON := Lib.hid (show OwnC ((((((wz.setCell ⟨g, j * 6, none⟩ (.int .i64 z0)).setCell ⟨g, j * 6 + 1, none⟩ (.int .i64 z1)).setCell ⟨g, j * 6 + 2, none⟩ (.int .i64 z2)).setCell ⟨g, j * 6 + 3, none⟩ (.bool z3)).setCell ⟨g, j * 6 + 4, none⟩ (.bool z4)).setCell ⟨g, j * 6 + 5, none⟩ (.bool z5)) (w.heap.size + 3) (some ⟨g, 0, none⟩) n c3 (mixP cs ds W W2 H2 x y (stepsP W W2 x y (k + 1))) by
                have h := own_setC HOw.out j (by rw [hll]; exact hjn) ⟨z0, z1, z2, z3, z4, z5⟩
                rw [show (mixP cs ds W W2 H2 x y (stepsP W W2 x y k)).set j ⟨z0, z1, z2, z3, z4, z5⟩ = (mixP cs ds W W2 H2 x y (stepsP W W2 x y (k + 1))) by rw [← HDK.out]; exact HN.out] at h
                exact h)
              obtain ⟨u0, hu0⟩ := own_there HOw.out (j * 6) (by omega)
              obtain ⟨u1, hu1⟩ := own_there HOw.out (j * 6 + 1) (by omega)
              obtain ⟨u2, hu2⟩ := own_there HOw.out (j * 6 + 2) (by omega)
              obtain ⟨u3, hu3⟩ := own_there HOw.out (j * 6 + 3) (by omega)
              obtain ⟨u4, hu4⟩ := own_there HOw.out (j * 6 + 4) (by omega)
              obtain ⟨u5, hu5⟩ := own_there HOw.out (j * 6 + 5) (by omega)
              have f0 := World.ownsRow.frozenAt (h := HOw.out) (j * 6)
              have f1 := World.ownsRow.frozenAt (h := HOw.out) (j * 6 + 1)
              have f2 := World.ownsRow.frozenAt (h := HOw.out) (j * 6 + 2)
              have f3 := World.ownsRow.frozenAt (h := HOw.out) (j * 6 + 3)
              have f4 := World.ownsRow.frozenAt (h := HOw.out) (j * 6 + 4)
              have f5 := World.ownsRow.frozenAt (h := HOw.out) (j * 6 + 5)
              have XA2 := Lib.hid (XA.out.only6 (g := g) (by omega) (j * 6) (j * 6 + 1) (j * 6 + 2) (j * 6 + 3) (j * 6 + 4) (j * 6 + 5) (.int .i64 z0) (.int .i64 z1) (.int .i64 z2) (.bool z3) (.bool z4) (.bool z5))
              have XB2 := Lib.hid (XB.out.only6 (g := g) (by omega) (j * 6) (j * 6 + 1) (j * 6 + 2) (j * 6 + 3) (j * 6 + 4) (j * 6 + 5) (.int .i64 z0) (.int .i64 z1) (.int .i64 z2) (.bool z3) (.bool z4) (.bool z5))
              have XC2 := Lib.hid (XC.out.only6 (g := g) (by omega) (j * 6) (j * 6 + 1) (j * 6 + 2) (j * 6 + 3) (j * 6 + 4) (j * 6 + 5) (.int .i64 z0) (.int .i64 z1) (.int .i64 z2) (.bool z3) (.bool z4) (.bool z5))
              have X92 := Lib.hid (X9.out.only6 (g := g) (by omega) (j * 6) (j * 6 + 1) (j * 6 + 2) (j * 6 + 3) (j * 6 + 4) (j * 6 + 5) (.int .i64 z0) (.int .i64 z1) (.int .i64 z2) (.bool z3) (.bool z4) (.bool z5))
              have HB2 := Lib.hid (below6 HBw.out (show w.heap.size ≤ g by omega) (j * 6) (j * 6 + 1) (j * 6 + 2) (j * 6 + 3) (j * 6 + 4) (j * 6 + 5) (.int .i64 z0) (.int .i64 z1) (.int .i64 z2) (.bool z3) (.bool z4) (.bool z5))
              clear hcx hcy hcw hj HIF HIT hll
              go_upto_region 10 with fail
              rw [HV.out, HCX.out, HCY.out]
              clear e1 e2 b1 b2_ b3 b4 k11 k12 k21 k22 a0 a1 b0 q9 d0 d1 d2 d3 d4 d5 hmxb hmyb
              have a0 : wz.cell? ⟨w.heap.size, 0, none⟩ = some (.int .i64 (W : Int)) := XA.out.cell 0
              have q9 : wz.cell? ⟨v3.heap.size, 2, none⟩ = some (.slice (some ⟨g, 0, none⟩) n c3) := X9.out.cell 2
              have e3 := E3.out
              have e4 := E4.out
              go_wp2_with fail
              exact ⟨⟨k + 1, by omega, by go_num, XA2.out, XB2.out, XC2.out, X92.out, HON.out, HB2.out⟩, by simp [intOf]; omega⟩
            · have HN := Lib.hid (pasteS_out (cs := cs) (ds := ds) (W := W) (H := H) (W2 := W2) (H2 := H2) (x := x) (y := y) (k := k) hW21 hW1 HNW.out (HIF.out (by omega)))
              clear HIF HIT
              go_wp2_with fail
              exact ⟨⟨k + 1, by omega, by go_num, XA.out, XB.out, XC.out, X9.out, by rw [← HN.out]; exact HOw.out, HBw.out⟩, by simp [intOf]; omega⟩
          · have HN := Lib.hid (pasteS_out (cs := cs) (ds := ds) (W := W) (H := H) (W2 := W2) (H2 := H2) (x := x) (y := y) (k := k) hW21 hW1 HNW.out (HIF.out (by omega)))
            clear HIF HIT
            go_wp2_with fail
            exact ⟨⟨k + 1, by omega, by go_num, XA.out, XB.out, XC.out, X9.out, by rw [← HN.out]; exact HOw.out, HBw.out⟩, by simp [intOf]; omega⟩
        · have HN := Lib.hid (pasteS_out (cs := cs) (ds := ds) (W := W) (H := H) (W2 := W2) (H2 := H2) (x := x) (y := y) (k := k) hW21 hW1 HNW.out (HIF.out (by omega)))
          clear HIF HIT
          go_wp2_with fail
          exact ⟨⟨k + 1, by omega, by go_num, XA.out, XB.out, XC.out, X9.out, by rw [← HN.out]; exact HOw.out, HBw.out⟩, by simp [intOf]; omega⟩
      · have HN := Lib.hid (pasteS_out (cs := cs) (ds := ds) (W := W) (H := H) (W2 := W2) (H2 := H2) (x := x) (y := y) (k := k) hW21 hW1 HNW.out (HIF.out (by omega)))
        clear HIF HIT
        go_wp2_with fail
        exact ⟨⟨k + 1, by omega, by go_num, XA.out, XB.out, XC.out, X9.out, by rw [← HN.out]; exact HOw.out, HBw.out⟩, by simp [intOf]; omega⟩
    · obtain rfl : n2 = k := by omega
      have HOw := Lib.hid (show OwnC wr (w.heap.size + 3) (some ⟨g, 0, none⟩) n c3 (mixP cs ds W W2 H2 x y allP) by rw [← HEND.out]; exact ho)
      have HBw := Lib.hid hb
      have q0 := x9.cell 0
      have q0' := x9.cell 1
      have q0'' := x9.cell 2
      have p0 := x1.cell 0
      have p1 := x1.cell 1
      have p2 := x1.cell 2
      have g0 := x1.free 0
      have g1 := x1.free 1
      have g2 := x1.free 2
      clear x1 x9 xb xa ho hb
      go_wp2_with fail
      refine bodyPost_ret (v := .agg #[.int .i64 (W : Int), .int .i64 (H : Int), .slice (some ⟨g, 0, none⟩) n c3]) (by simp [results, Try.results15, go_sem, p0, p1, p2]) rfl (ansT (by rw [mixP_len]; exact HL.out) ?_ ?_)
      · exact (((HOw.out.setBox (w.heap.size + 2) 0 _ (by omega)).setBox (w.heap.size + 2) 1 _ (by omega)).setBox (w.heap.size + 2) 2 _ (by omega)).more (by omega)
      · exact ((HBw.out.setCell (by simp; omega) _).setCell (by simp; omega) _).setCell (by simp; omega) _
end Go.Proofs.Ytgdjbpgfplcjpaa.Gr
