/- GridShift in the model: each cell of the row asked where it comes from; the same list as the program's. -/
import Derived.Test.YtgejjdkgeoojmaaKiF
import Derived.Test.YtgejjdkgeoojmaaGrShiftT
import Derived.Deep.RegionHeld3
import Derived.Deep.DrawnRows
import Derived.Test.YtgejjdkgeoojmaaGrOk
namespace Go.Proofs.Ytgejjdkgeoojmaa.Gr
open Go.RowKit Go.Proofs.Ytgejjdkgeoojmaa.Bytes Go.Proofs.Ytgejjdkgeoojmaa.Rows_ Go.Proofs.Ytgejjdkgeoojmaa.RowK
set_option linter.unusedVariables false
set_option maxRecDepth 100000 in
set_option maxHeartbeats 6400000 in
theorem spec_GridShift_mid (W H : Nat) (b o n c : Nat) (cs : List CellD) (x y : Nat) (d : Int) (w : World) (hr : RdC w w.heap.size (some ⟨b, o, none⟩) cs) (hl : cs.length = n) (hn : n ≤ 1048576) (ho : okG (W : Int) (H : Int) cs = true) (hx : x < W) (hy : y < H) (hW : W ≤ 120) (hH : H ≤ 120) (hWH : n = W * H) (hd1 : -(W : Int) ≤ d) (hd2 : d ≤ (W : Int)) :
    Calls Try.prog 29 #[.agg #[.int .i64 (W : Int), .int .i64 (H : Int), .slice (some ⟨b, o, none⟩) n c], .int .i64 (x : Int), .int .i64 (y : Int), .int .i64 d] w (AnsT w ((W : Int), (H : Int), over cs (y * W + x) (shiftL cs (y * W + x) (W - x) (d)))) := by
  have hb0 := Lib.hid (((Below.refl w.heap.size w).alloc (Nat.le_refl _) (.cells #[.int .i64 (W : Int), .int .i64 (H : Int), .slice (some ⟨b, o, none⟩) n c] 29)).alloc (by simp) (.cells #[.int .i64 0, .int .i64 0, .slice none 0 0] 29))
  have HK := Lib.hid (spec_GridOk_any (W : Int) (H : Int) (some ⟨b, o, none⟩) n c cs _ ((hr.below (Nat.le_refl _) hb0.out).more (by simp; omega)) hl (by omega))
  have X0 := Lib.hid ((BoxG.new w #[.int .i64 (W : Int), .int .i64 (H : Int), .slice (some ⟨b, o, none⟩) n c]).below ((Below.refl _ _).alloc (Nat.le_refl _) (.cells #[.int .i64 0, .int .i64 0, .slice none 0 0] 29)) (by simp))
  have x1 := BoxG.new (w.alloc (.cells #[.int .i64 (W : Int), .int .i64 (H : Int), .slice (some ⟨b, o, none⟩) n c] 29)) #[.int .i64 0, .int .i64 0, .slice none 0 0]
  simp only [World.size_alloc] at x1
  have X1 := Lib.hid x1
  have HO := Lib.hid ho
  have hylt : y * W + W ≤ n := by
    have h1 : (y + 1) * W ≤ H * W := Nat.mul_le_mul_right W hy
    rw [Nat.add_mul, Nat.mul_comm H W] at h1; omega
  have HR := Lib.hid hr
  have HL := Lib.hid hl
  have HCP := Lib.hid (fun V (h : Below w.heap.size w V) => l07Copy_any (W : Int) (H : Int) (some ⟨b, o, none⟩) n c cs V (fun h => by cases h) ((HR.out.below (Nat.le_refl _) h).more h.size) HL.out (by omega))
  have hbB : b < w.heap.size := by
    obtain ⟨_, _, h1, h2, _⟩ := hr.at_ (i := 0) (by omega)
    injection h1 with h1; injection h1 with h1; omega
  obtain ⟨yw, hyw⟩ : ∃ yw, yw = y * W := ⟨_, rfl⟩
  have E1 := Lib.hid (show IntKind.i64.wrap ((y : Int) * (W : Int)) = (yw : Int) by rw [← Int.natCast_mul, ← hyw]; exact IntWalk.i64_in _ (by omega))
  rw [← hyw] at hylt ⊢
  obtain ⟨l, hll⟩ : ∃ l, l = shiftL cs (yw + x) (W - x) (d) := ⟨_, rfl⟩
  have hlen : l.length = W - x := by rw [hll, shiftL_len]
  have HG := Lib.hid (fun (i : Nat) (h : i < W - x) => hll ▸ shiftL_get (cs := cs) (lo := yw + x) (m := W - x) (d := d) h)
  rw [← hll]
  have HOL := Lib.hid (show (over cs (yw + x) l).length = n by rw [over_len (by omega)]; exact hl)
  have HLL := Lib.hid hlen
  clear ho hr hl x1 hWH hll hyw hlen
  go_enter Try.func29, Try.ntmps29
  go_wp2_with fail
  refine HK.out.mono ?_
  rintro e v1 ⟨rfl, hb1⟩
  rw [HO.out]
  have x0 := X0.out.below hb1 (by simp; omega)
  have X1a := Lib.hid (X1.out.below hb1 (by simp))
  have X0a := Lib.hid x0
  have HB1 := Lib.hid (hb0.out.trans (hb1.mono (by simp; omega)))
  have q0 := x0.cell 0
  have q1 := x0.cell 1
  have q2 := x0.cell 2
  have hz : w.heap.size + 1 < v1.heap.size := by have := hb1.size; simp at this; omega
  clear hb1 x0 X0 X1
  go_wp2_with fail
  refine (HCP.out _ HB1.out).mono ?_
  rintro e v3 ⟨A3, c3, rfl, ho3, hb3⟩
  obtain ⟨g, rfl⟩ := ho3.addr (by omega)
  have hcap := ho3.cap
  clear q0 q1 q2
  have hg := ho3.blk g rfl
  have HB3 := Lib.hid (HB1.out.trans (hb3.mono (by omega)))
  have hz3 : w.heap.size + 1 < v3.heap.size := by have := hb3.size; omega
  have hal := (Below.refl v3.heap.size v3).alloc (Nat.le_refl _) (.cells #[.int .i64 (W : Int), .int .i64 (H : Int), .slice (some ⟨g, 0, none⟩) n c3] 29)
  have X1c := Lib.hid ((X1a.out.below hb3 (by omega)).below hal (by omega))
  have X0c := Lib.hid ((X0a.out.below hb3 (by omega)).below hal (by omega))
  have X9 := Lib.hid (BoxG.new v3 #[.int .i64 (W : Int), .int .i64 (H : Int), .slice (some ⟨g, 0, none⟩) n c3])
  have HO3 := Lib.hid ((ho3.below (Nat.le_refl _) hal).more (base' := w.heap.size + 2) (by omega))
  have HB3a := Lib.hid (HB3.out.trans (hal.mono (by omega)))
  have hgn : g ≠ w.heap.size := by omega
  have hgn1 : g ≠ w.heap.size + 1 := by omega
  have hgn9 : g ≠ v3.heap.size := by omega
  have hgb : g ≠ b := by omega
  have hgw : w.heap.size ≤ g := by omega
  obtain ⟨b9, hb9⟩ : ∃ b9, b9 = v3.heap.size := ⟨_, rfl⟩
  have hb9w : w.heap.size + 1 < b9 := by omega
  have HB9 := Lib.hid hb9.symm
  clear hal hb3 ho3 X1a X0a HB3 hg hb9
  go_wp2_with fail
  go_loopw [10] (fun s wr => ∃ k : Nat, x ≤ k ∧ k ≤ W ∧ s = .int .i64 (k : Int) ∧ BoxG wr w.heap.size #[.int .i64 (W : Int), .int .i64 (H : Int), .slice (some ⟨b, o, none⟩) n c] ∧ BoxG wr (w.heap.size + 1) #[.int .i64 0, .int .i64 0, .slice none 0 0] ∧ BoxG wr v3.heap.size #[.int .i64 (W : Int), .int .i64 (H : Int), .slice (some ⟨g, 0, none⟩) n c3] ∧ OwnC wr (w.heap.size + 2) (some ⟨g, 0, none⟩) n c3 (over cs (yw + x) (l.take (k - x))) ∧ Below w.heap.size w wr) (fun s _ => W - (intOf s).toNat)
  case atStart => exact ⟨x, Nat.le_refl _, by omega, rfl, X0c.out, X1c.out, X9.out, by rw [Nat.sub_self, List.take_zero, over_nil]; exact HO3.out, HB3a.out⟩
  case round =>
    clear X0c X1c X9 HO3 HB3a
    obtain ⟨k, hxk, hkW, rfl, xa, x1, x9, ho, hb⟩ := hrel
    have la := xa.lt
    have l9 := x9.lt
    by_cases hlt : k < W
    · have a0 : wr.cell? ⟨w.heap.size, 0, none⟩ = some (.int .i64 (W : Int)) := xa.cell 0
      have q9 : wr.cell? ⟨v3.heap.size, 2, none⟩ = some (.slice (some ⟨g, 0, none⟩) n c3) := x9.cell 2
      obtain ⟨p, hp⟩ : ∃ p, p = yw + k := ⟨_, rfl⟩
      have E2 := Lib.hid (show IntKind.i64.wrap ((yw : Int) + (k : Int)) = (p : Int) by rw [hp, Int.natCast_add]; exact IntWalk.i64_in _ (by omega))
      have T0 := Lib.hid (show p * 6 < n * 6 by omega)
      have T1 := Lib.hid (show p * 6 + 1 < n * 6 by omega)
      have T2 := Lib.hid (show p * 6 + 2 < n * 6 by omega)
      have T3 := Lib.hid (show p * 6 + 3 < n * 6 by omega)
      have T4 := Lib.hid (show p * 6 + 4 < n * 6 by omega)
      have T5 := Lib.hid (show p * 6 + 5 < n * 6 by omega)
      have hpn : p < n := by omega
      have hp0 : (0 : Int) ≤ (p : Int) := by omega
      have hp1 : (p : Int) < (n : Int) := by omega
      have hll : (over cs (yw + x) (l.take (k - x))).length = n := by rw [over_len (by rw [List.length_take, HLL.out, HL.out]; omega)]; exact HL.out
      have HP := Lib.hid (show p = yw + x + (k - x) by omega)
      have XA := Lib.hid xa
      have XB := Lib.hid x1
      have X9 := Lib.hid x9
      have HOw := Lib.hid ho
      have HBw := Lib.hid hb
      have HLn := Lib.hid hll
      clear xa x1 x9 ho hb hll hp
      have e1 := E1.out
      have e2 := E2.out
      go_wp2_with fail
      go_region_held3 (fun w' => w'.cell? ⟨w.heap.size, 0, none⟩ = some (.int .i64 (W : Int)) ∧ w'.cell? ⟨v3.heap.size, 2, none⟩ = some (.slice (some ⟨g, 0, none⟩) n c3)) (go_keep)
        ((go_at_call 63; (with_reducible refine (blank_any _).mono ?_); rintro e v ⟨rfl, hv'⟩; have hv : Below wr.heap.size wr v := undrew hv'; have a0' := (hv.cell (p := ⟨w.heap.size, 0, none⟩) la).trans a0; have q9' := (hv.cell (p := ⟨v3.heap.size, 2, none⟩) l9).trans q9; have HOv := Lib.hid (HOw.out.below (Nat.le_refl _) hv); obtain ⟨u0, hu0⟩ := own_there HOv.out (p * 6) T0.out; obtain ⟨u1, hu1⟩ := own_there HOv.out (p * 6 + 1) T1.out; obtain ⟨u2, hu2⟩ := own_there HOv.out (p * 6 + 2) T2.out; obtain ⟨u3, hu3⟩ := own_there HOv.out (p * 6 + 3) T3.out; obtain ⟨u4, hu4⟩ := own_there HOv.out (p * 6 + 4) T4.out; obtain ⟨u5, hu5⟩ := own_there HOv.out (p * 6 + 5) T5.out; have f0 := World.ownsRow.frozenAt (h := HOv.out) (p * 6); have f1 := World.ownsRow.frozenAt (h := HOv.out) (p * 6 + 1); have f2 := World.ownsRow.frozenAt (h := HOv.out) (p * 6 + 2); have f3 := World.ownsRow.frozenAt (h := HOv.out) (p * 6 + 3); have f4 := World.ownsRow.frozenAt (h := HOv.out) (p * 6 + 4); have f5 := World.ownsRow.frozenAt (h := HOv.out) (p * 6 + 5); have HV := Lib.hid hv; clear hv hv'))
      clear e1 e2
      obtain ⟨V, hV⟩ : ∃ V, V = ((((((v.setCell ⟨g, p * 6, none⟩ (.int .i64 32)).setCell ⟨g, p * 6 + 1, none⟩ (.int .i64 0)).setCell ⟨g, p * 6 + 2, none⟩ (.int .i64 0)).setCell ⟨g, p * 6 + 3, none⟩ (.bool false)).setCell ⟨g, p * 6 + 4, none⟩ (.bool false)).setCell ⟨g, p * 6 + 5, none⟩ (.bool false)) := ⟨_, rfl⟩
      have XAV := Lib.hid (show BoxG V w.heap.size #[.int .i64 (W : Int), .int .i64 (H : Int), .slice (some ⟨b, o, none⟩) n c] by rw [hV]; exact (XA.out.below HV.out la).only6 (Ne.symm hgn) _ _ _ _ _ _ _ _ _ _ _ _)
      have XBV := Lib.hid (show BoxG V (w.heap.size + 1) #[.int .i64 0, .int .i64 0, .slice none 0 0] by rw [hV]; exact (XB.out.below HV.out XB.out.lt).only6 (Ne.symm hgn1) _ _ _ _ _ _ _ _ _ _ _ _)
      have X9V := Lib.hid (show BoxG V v3.heap.size #[.int .i64 (W : Int), .int .i64 (H : Int), .slice (some ⟨g, 0, none⟩) n c3] by rw [hV]; exact (X9.out.below HV.out l9).only6 (Ne.symm hgn9) _ _ _ _ _ _ _ _ _ _ _ _)
      have HOV := Lib.hid (show OwnC V (w.heap.size + 2) (some ⟨g, 0, none⟩) n c3 ((over cs (yw + x) (l.take (k - x))).set p blankC) by rw [hV]; exact own_setC HOv.out p (by rw [HLn.out]; exact hpn) blankC)
      have HBV := Lib.hid (show Below w.heap.size w V by rw [hV]; exact below6 (HBw.out.trans (HV.out.mono (by omega))) hgw _ _ _ _ _ _ _ _ _ _ _ _)
      have HVV := Lib.hid hV.symm
      rw [HVV.out]
      clear hV a0 q9 a0' q9' hu0 hu1 hu2 hu3 hu4 hu5 f0 f1 f2 f3 f4 f5
      have a0 : V.cell? ⟨w.heap.size, 0, none⟩ = some (.int .i64 (W : Int)) := XAV.out.cell 0
      by_cases c1 : (x : Int) ≤ (k : Int) - (d)
      · by_cases c2 : (k : Int) - (d) < (W : Int)
        · have hpe := HP.out
          obtain ⟨q, hq⟩ := Int.eq_ofNat_of_zero_le (show 0 ≤ (p : Int) - (d) by omega)
          have hqn : q < n := by omega
          have E3 := Lib.hid (show IntKind.i64.wrap ((p : Int) - (d)) = (q : Int) by rw [hq]; exact IntWalk.i64_in _ (by omega))
          have hq0 : (0 : Int) ≤ (q : Int) := by omega
          have hq1 : (q : Int) < (n : Int) := by omega
          have hqc : q < cs.length := by rw [HL.out]; exact hqn
          obtain ⟨b', o', hA, hB, r0, r1, r2, r3, r4, r5⟩ := HR.out.at_ hqc
          injection hA with hA
          injection hA with hA1 hA2
          subst hA1 hA2
          have HZ := Lib.hid (show l[k - x]? = some cs[q] by
            rw [HG.out (k - x) (by omega), if_pos (by omega), show yw + x + (((k - x : Nat) : Int) - (d)).toNat = q by omega]
            simp [List.getD, hqc])
          have HZE := Lib.hid (show cs[q] = ⟨cs[q].r, cs[q].fg, cs[q].bg, cs[q].b, cs[q].u, cs[q].t⟩ from rfl)
          generalize cs[q] = zz at *
          obtain ⟨z0, z1, z2, z3, z4, z5⟩ := zz
          have s0 : V.cell? ⟨b, o + q * 6, none⟩ = some (.int .i64 z0) := (HBV.out.cell (p := ⟨b, o + q * 6, none⟩) hbB).trans r0
          have s1 : V.cell? ⟨b, o + q * 6 + 1, none⟩ = some (.int .i64 z1) := (HBV.out.cell (p := ⟨b, o + q * 6 + 1, none⟩) hbB).trans r1
          have s2 : V.cell? ⟨b, o + q * 6 + 2, none⟩ = some (.int .i64 z2) := (HBV.out.cell (p := ⟨b, o + q * 6 + 2, none⟩) hbB).trans r2
          have s3 : V.cell? ⟨b, o + q * 6 + 3, none⟩ = some (.bool z3) := (HBV.out.cell (p := ⟨b, o + q * 6 + 3, none⟩) hbB).trans r3
          have s4 : V.cell? ⟨b, o + q * 6 + 4, none⟩ = some (.bool z4) := (HBV.out.cell (p := ⟨b, o + q * 6 + 4, none⟩) hbB).trans r4
          have s5 : V.cell? ⟨b, o + q * 6 + 5, none⟩ = some (.bool z5) := (HBV.out.cell (p := ⟨b, o + q * 6 + 5, none⟩) hbB).trans r5
          have a2 : V.cell? ⟨w.heap.size, 2, none⟩ = some (.slice (some ⟨b, o, none⟩) n c) := XAV.out.cell 2
          have q9 : V.cell? ⟨v3.heap.size, 2, none⟩ = some (.slice (some ⟨g, 0, none⟩) n c3) := X9V.out.cell 2
          clear hpe hq r0 r1 r2 r3 r4 r5 hB hqc
          obtain ⟨t0, ht0⟩ := own_there HOV.out (p * 6) T0.out
          obtain ⟨t1, ht1⟩ := own_there HOV.out (p * 6 + 1) T1.out
          obtain ⟨t2, ht2⟩ := own_there HOV.out (p * 6 + 2) T2.out
          obtain ⟨t3, ht3⟩ := own_there HOV.out (p * 6 + 3) T3.out
          obtain ⟨t4, ht4⟩ := own_there HOV.out (p * 6 + 4) T4.out
          obtain ⟨t5, ht5⟩ := own_there HOV.out (p * 6 + 5) T5.out
          have f0 := World.ownsRow.frozenAt (h := HOV.out) (p * 6)
          have f1 := World.ownsRow.frozenAt (h := HOV.out) (p * 6 + 1)
          have f2 := World.ownsRow.frozenAt (h := HOV.out) (p * 6 + 2)
          have f3 := World.ownsRow.frozenAt (h := HOV.out) (p * 6 + 3)
          have f4 := World.ownsRow.frozenAt (h := HOV.out) (p * 6 + 4)
          have f5 := World.ownsRow.frozenAt (h := HOV.out) (p * 6 + 5)
          have e1 := E1.out
          have e2 := E2.out
          have e3 := E3.out
          go_wp2_with fail
          go_region_held3 (fun w' => w'.cell? ⟨w.heap.size, 0, none⟩ = some (.int .i64 (W : Int)) ∧ w'.cell? ⟨w.heap.size, 2, none⟩ = some (.slice (some ⟨b, o, none⟩) n c) ∧ w'.cell? ⟨v3.heap.size, 2, none⟩ = some (.slice (some ⟨g, 0, none⟩) n c3) ∧ w'.cell? ⟨b, o + q * 6, none⟩ = some (.int .i64 z0) ∧ w'.cell? ⟨b, o + q * 6 + 1, none⟩ = some (.int .i64 z1) ∧ w'.cell? ⟨b, o + q * 6 + 2, none⟩ = some (.int .i64 z2) ∧ w'.cell? ⟨b, o + q * 6 + 3, none⟩ = some (.bool z3) ∧ w'.cell? ⟨b, o + q * 6 + 4, none⟩ = some (.bool z4) ∧ w'.cell? ⟨b, o + q * 6 + 5, none⟩ = some (.bool z5)) (go_keep) (fail)
          clear e1 e2 e3
          obtain ⟨V2, hV2⟩ : ∃ V2, V2 = ((((((V.setCell ⟨g, p * 6, none⟩ (.int .i64 z0)).setCell ⟨g, p * 6 + 1, none⟩ (.int .i64 z1)).setCell ⟨g, p * 6 + 2, none⟩ (.int .i64 z2)).setCell ⟨g, p * 6 + 3, none⟩ (.bool z3)).setCell ⟨g, p * 6 + 4, none⟩ (.bool z4)).setCell ⟨g, p * 6 + 5, none⟩ (.bool z5)) := ⟨_, rfl⟩
          have HA2 := Lib.hid (show BoxG V2 w.heap.size #[.int .i64 (W : Int), .int .i64 (H : Int), .slice (some ⟨b, o, none⟩) n c] by rw [hV2]; exact XAV.out.only6 (Ne.symm hgn) _ _ _ _ _ _ _ _ _ _ _ _)
          have HB2 := Lib.hid (show BoxG V2 (w.heap.size + 1) #[.int .i64 0, .int .i64 0, .slice none 0 0] by rw [hV2]; exact XBV.out.only6 (Ne.symm hgn1) _ _ _ _ _ _ _ _ _ _ _ _)
          have HC2 := Lib.hid (show BoxG V2 v3.heap.size #[.int .i64 (W : Int), .int .i64 (H : Int), .slice (some ⟨g, 0, none⟩) n c3] by rw [hV2]; exact X9V.out.only6 (Ne.symm hgn9) _ _ _ _ _ _ _ _ _ _ _ _)
          have HO2 := Lib.hid (show OwnC V2 (w.heap.size + 2) (some ⟨g, 0, none⟩) n c3 (over cs (yw + x) (l.take (k + 1 - x))) by
            have h := own_setC HOV.out p (by rw [List.length_set, HLn.out]; exact hpn) ⟨z0, z1, z2, z3, z4, z5⟩
            rw [← hV2] at h
            have h2 : ((over cs (yw + x) (l.take (k - x))).set p blankC).set p ⟨z0, z1, z2, z3, z4, z5⟩ = over cs (yw + x) (l.take (k + 1 - x)) := by
              rw [List.set_set, HP.out, over_next (by rw [HLL.out, HL.out]; omega) HZ.out, show k - x + 1 = k + 1 - x by omega]
            rw [h2] at h
            exact h)
          have HD2 := Lib.hid (show Below w.heap.size w V2 by rw [hV2]; exact below6 HBV.out hgw _ _ _ _ _ _ _ _ _ _ _ _)
          have HV2 := Lib.hid hV2.symm
          rw [HV2.out]
          clear hV2 a0 a2 q9 s0 s1 s2 s3 s4 s5 ht0 ht1 ht2 ht3 ht4 ht5 f0 f1 f2 f3 f4 f5
          go_wp2_with fail
          exact ⟨⟨k + 1, by omega, by omega, by go_num, HA2.out.drew, HB2.out.drew, HC2.out.drew, ownC_drew HO2.out, HD2.out.drew⟩, by simp [intOf]; omega⟩
        · have c2' : (W : Int) ≤ (k : Int) - (d) := by omega
          have HZ := Lib.hid (show l[k - x]? = some blankC by rw [HG.out (k - x) (by omega), if_neg (by omega)])
          go_wp2_with fail
          refine ⟨⟨k + 1, by omega, by omega, by go_num, XAV.out, XBV.out, X9V.out, ?_, HBV.out⟩, by simp [intOf]; omega⟩
          have h := HOV.out
          rw [HP.out, over_next (by rw [HLL.out, HL.out]; omega) HZ.out, show k - x + 1 = k + 1 - x by omega] at h
          exact h
      · have c1' : (k : Int) - (d) < (x : Int) := by omega
        have HZ := Lib.hid (show l[k - x]? = some blankC by rw [HG.out (k - x) (by omega), if_neg (by omega)])
        go_wp2_with fail
        refine ⟨⟨k + 1, by omega, by omega, by go_num, XAV.out, XBV.out, X9V.out, ?_, HBV.out⟩, by simp [intOf]; omega⟩
        have h := HOV.out
        rw [HP.out, over_next (by rw [HLL.out, HL.out]; omega) HZ.out, show k - x + 1 = k + 1 - x by omega] at h
        exact h
    · obtain rfl : W = k := by omega
      have HOw := Lib.hid (show OwnC wr (w.heap.size + 2) (some ⟨g, 0, none⟩) n c3 (over cs (yw + x) l) by rw [List.take_of_length_le (by rw [HLL.out]; exact Nat.le_refl _)] at ho; exact ho)
      have HBw := Lib.hid hb
      have a0 : wr.cell? ⟨w.heap.size, 0, none⟩ = some (.int .i64 (W : Int)) := xa.cell 0
      have q0 := x9.cell 0
      have q1 := x9.cell 1
      have q2 := x9.cell 2
      have p0 := x1.cell 0
      have p1 := x1.cell 1
      have p2 := x1.cell 2
      have g0 := x1.free 0
      have g1 := x1.free 1
      have g2 := x1.free 2
      clear x1 x9 xa ho hb
      go_wp2_with fail
      refine bodyPost_ret (v := .agg #[.int .i64 (W : Int), .int .i64 (H : Int), .slice (some ⟨g, 0, none⟩) n c3]) (by simp [results, Try.results29, go_sem, p0, p1, p2]) rfl (ansT HOL.out ?_ ?_)
      · exact (((HOw.out.setBox (w.heap.size + 1) 0 _ (by omega)).setBox (w.heap.size + 1) 1 _ (by omega)).setBox (w.heap.size + 1) 2 _ (by omega)).more (by omega)
      · exact ((HBw.out.setCell (by simp) _).setCell (by simp) _).setCell (by simp) _

set_option maxRecDepth 100000 in
set_option maxHeartbeats 6400000 in
theorem spec_GridShift_hi (W H : Nat) (b o n c : Nat) (cs : List CellD) (x y : Nat) (d : Int) (w : World) (hr : RdC w w.heap.size (some ⟨b, o, none⟩) cs) (hl : cs.length = n) (hn : n ≤ 1048576) (ho : okG (W : Int) (H : Int) cs = true) (hx : x < W) (hy : y < H) (hW : W ≤ 120) (hH : H ≤ 120) (hWH : n = W * H) (hd1 : (W : Int) < d) :
    Calls Try.prog 29 #[.agg #[.int .i64 (W : Int), .int .i64 (H : Int), .slice (some ⟨b, o, none⟩) n c], .int .i64 (x : Int), .int .i64 (y : Int), .int .i64 d] w (AnsT w ((W : Int), (H : Int), over cs (y * W + x) (shiftL cs (y * W + x) (W - x) ((W : Int))))) := by
  have hb0 := Lib.hid (((Below.refl w.heap.size w).alloc (Nat.le_refl _) (.cells #[.int .i64 (W : Int), .int .i64 (H : Int), .slice (some ⟨b, o, none⟩) n c] 29)).alloc (by simp) (.cells #[.int .i64 0, .int .i64 0, .slice none 0 0] 29))
  have HK := Lib.hid (spec_GridOk_any (W : Int) (H : Int) (some ⟨b, o, none⟩) n c cs _ ((hr.below (Nat.le_refl _) hb0.out).more (by simp; omega)) hl (by omega))
  have X0 := Lib.hid ((BoxG.new w #[.int .i64 (W : Int), .int .i64 (H : Int), .slice (some ⟨b, o, none⟩) n c]).below ((Below.refl _ _).alloc (Nat.le_refl _) (.cells #[.int .i64 0, .int .i64 0, .slice none 0 0] 29)) (by simp))
  have x1 := BoxG.new (w.alloc (.cells #[.int .i64 (W : Int), .int .i64 (H : Int), .slice (some ⟨b, o, none⟩) n c] 29)) #[.int .i64 0, .int .i64 0, .slice none 0 0]
  simp only [World.size_alloc] at x1
  have X1 := Lib.hid x1
  have HO := Lib.hid ho
  have hylt : y * W + W ≤ n := by
    have h1 : (y + 1) * W ≤ H * W := Nat.mul_le_mul_right W hy
    rw [Nat.add_mul, Nat.mul_comm H W] at h1; omega
  have HR := Lib.hid hr
  have HL := Lib.hid hl
  have HCP := Lib.hid (fun V (h : Below w.heap.size w V) => l07Copy_any (W : Int) (H : Int) (some ⟨b, o, none⟩) n c cs V (fun h => by cases h) ((HR.out.below (Nat.le_refl _) h).more h.size) HL.out (by omega))
  have hbB : b < w.heap.size := by
    obtain ⟨_, _, h1, h2, _⟩ := hr.at_ (i := 0) (by omega)
    injection h1 with h1; injection h1 with h1; omega
  obtain ⟨yw, hyw⟩ : ∃ yw, yw = y * W := ⟨_, rfl⟩
  have E1 := Lib.hid (show IntKind.i64.wrap ((y : Int) * (W : Int)) = (yw : Int) by rw [← Int.natCast_mul, ← hyw]; exact IntWalk.i64_in _ (by omega))
  rw [← hyw] at hylt ⊢
  obtain ⟨l, hll⟩ : ∃ l, l = shiftL cs (yw + x) (W - x) ((W : Int)) := ⟨_, rfl⟩
  have hlen : l.length = W - x := by rw [hll, shiftL_len]
  have HG := Lib.hid (fun (i : Nat) (h : i < W - x) => hll ▸ shiftL_get (cs := cs) (lo := yw + x) (m := W - x) (d := (W : Int)) h)
  rw [← hll]
  have HOL := Lib.hid (show (over cs (yw + x) l).length = n by rw [over_len (by omega)]; exact hl)
  have HLL := Lib.hid hlen
  clear ho hr hl x1 hWH hll hyw hlen
  go_enter Try.func29, Try.ntmps29
  go_wp2_with fail
  refine HK.out.mono ?_
  rintro e v1 ⟨rfl, hb1⟩
  rw [HO.out]
  have x0 := X0.out.below hb1 (by simp; omega)
  have X1a := Lib.hid (X1.out.below hb1 (by simp))
  have X0a := Lib.hid x0
  have HB1 := Lib.hid (hb0.out.trans (hb1.mono (by simp; omega)))
  have q0 := x0.cell 0
  have q1 := x0.cell 1
  have q2 := x0.cell 2
  have hz : w.heap.size + 1 < v1.heap.size := by have := hb1.size; simp at this; omega
  clear hb1 x0 X0 X1
  go_wp2_with fail
  refine (HCP.out _ HB1.out).mono ?_
  rintro e v3 ⟨A3, c3, rfl, ho3, hb3⟩
  obtain ⟨g, rfl⟩ := ho3.addr (by omega)
  have hcap := ho3.cap
  clear q0 q1 q2
  have hg := ho3.blk g rfl
  have HB3 := Lib.hid (HB1.out.trans (hb3.mono (by omega)))
  have hz3 : w.heap.size + 1 < v3.heap.size := by have := hb3.size; omega
  have hal := (Below.refl v3.heap.size v3).alloc (Nat.le_refl _) (.cells #[.int .i64 (W : Int), .int .i64 (H : Int), .slice (some ⟨g, 0, none⟩) n c3] 29)
  have X1c := Lib.hid ((X1a.out.below hb3 (by omega)).below hal (by omega))
  have X0c := Lib.hid ((X0a.out.below hb3 (by omega)).below hal (by omega))
  have X9 := Lib.hid (BoxG.new v3 #[.int .i64 (W : Int), .int .i64 (H : Int), .slice (some ⟨g, 0, none⟩) n c3])
  have HO3 := Lib.hid ((ho3.below (Nat.le_refl _) hal).more (base' := w.heap.size + 2) (by omega))
  have HB3a := Lib.hid (HB3.out.trans (hal.mono (by omega)))
  have hgn : g ≠ w.heap.size := by omega
  have hgn1 : g ≠ w.heap.size + 1 := by omega
  have hgn9 : g ≠ v3.heap.size := by omega
  have hgb : g ≠ b := by omega
  have hgw : w.heap.size ≤ g := by omega
  obtain ⟨b9, hb9⟩ : ∃ b9, b9 = v3.heap.size := ⟨_, rfl⟩
  have hb9w : w.heap.size + 1 < b9 := by omega
  have HB9 := Lib.hid hb9.symm
  clear hal hb3 ho3 X1a X0a HB3 hg hb9
  go_wp2_with fail
  go_loopw [10] (fun s wr => ∃ k : Nat, x ≤ k ∧ k ≤ W ∧ s = .int .i64 (k : Int) ∧ BoxG wr w.heap.size #[.int .i64 (W : Int), .int .i64 (H : Int), .slice (some ⟨b, o, none⟩) n c] ∧ BoxG wr (w.heap.size + 1) #[.int .i64 0, .int .i64 0, .slice none 0 0] ∧ BoxG wr v3.heap.size #[.int .i64 (W : Int), .int .i64 (H : Int), .slice (some ⟨g, 0, none⟩) n c3] ∧ OwnC wr (w.heap.size + 2) (some ⟨g, 0, none⟩) n c3 (over cs (yw + x) (l.take (k - x))) ∧ Below w.heap.size w wr) (fun s _ => W - (intOf s).toNat)
  case atStart => exact ⟨x, Nat.le_refl _, by omega, rfl, X0c.out, X1c.out, X9.out, by rw [Nat.sub_self, List.take_zero, over_nil]; exact HO3.out, HB3a.out⟩
  case round =>
    clear X0c X1c X9 HO3 HB3a
    obtain ⟨k, hxk, hkW, rfl, xa, x1, x9, ho, hb⟩ := hrel
    have la := xa.lt
    have l9 := x9.lt
    by_cases hlt : k < W
    · have a0 : wr.cell? ⟨w.heap.size, 0, none⟩ = some (.int .i64 (W : Int)) := xa.cell 0
      have q9 : wr.cell? ⟨v3.heap.size, 2, none⟩ = some (.slice (some ⟨g, 0, none⟩) n c3) := x9.cell 2
      obtain ⟨p, hp⟩ : ∃ p, p = yw + k := ⟨_, rfl⟩
      have E2 := Lib.hid (show IntKind.i64.wrap ((yw : Int) + (k : Int)) = (p : Int) by rw [hp, Int.natCast_add]; exact IntWalk.i64_in _ (by omega))
      have T0 := Lib.hid (show p * 6 < n * 6 by omega)
      have T1 := Lib.hid (show p * 6 + 1 < n * 6 by omega)
      have T2 := Lib.hid (show p * 6 + 2 < n * 6 by omega)
      have T3 := Lib.hid (show p * 6 + 3 < n * 6 by omega)
      have T4 := Lib.hid (show p * 6 + 4 < n * 6 by omega)
      have T5 := Lib.hid (show p * 6 + 5 < n * 6 by omega)
      have hpn : p < n := by omega
      have hp0 : (0 : Int) ≤ (p : Int) := by omega
      have hp1 : (p : Int) < (n : Int) := by omega
      have hll : (over cs (yw + x) (l.take (k - x))).length = n := by rw [over_len (by rw [List.length_take, HLL.out, HL.out]; omega)]; exact HL.out
      have HP := Lib.hid (show p = yw + x + (k - x) by omega)
      have XA := Lib.hid xa
      have XB := Lib.hid x1
      have X9 := Lib.hid x9
      have HOw := Lib.hid ho
      have HBw := Lib.hid hb
      have HLn := Lib.hid hll
      clear xa x1 x9 ho hb hll hp
      have e1 := E1.out
      have e2 := E2.out
      go_wp2_with fail
      go_region_held3 (fun w' => w'.cell? ⟨w.heap.size, 0, none⟩ = some (.int .i64 (W : Int)) ∧ w'.cell? ⟨v3.heap.size, 2, none⟩ = some (.slice (some ⟨g, 0, none⟩) n c3)) (go_keep)
        ((go_at_call 63; (with_reducible refine (blank_any _).mono ?_); rintro e v ⟨rfl, hv'⟩; have hv : Below wr.heap.size wr v := undrew hv'; have a0' := (hv.cell (p := ⟨w.heap.size, 0, none⟩) la).trans a0; have q9' := (hv.cell (p := ⟨v3.heap.size, 2, none⟩) l9).trans q9; have HOv := Lib.hid (HOw.out.below (Nat.le_refl _) hv); obtain ⟨u0, hu0⟩ := own_there HOv.out (p * 6) T0.out; obtain ⟨u1, hu1⟩ := own_there HOv.out (p * 6 + 1) T1.out; obtain ⟨u2, hu2⟩ := own_there HOv.out (p * 6 + 2) T2.out; obtain ⟨u3, hu3⟩ := own_there HOv.out (p * 6 + 3) T3.out; obtain ⟨u4, hu4⟩ := own_there HOv.out (p * 6 + 4) T4.out; obtain ⟨u5, hu5⟩ := own_there HOv.out (p * 6 + 5) T5.out; have f0 := World.ownsRow.frozenAt (h := HOv.out) (p * 6); have f1 := World.ownsRow.frozenAt (h := HOv.out) (p * 6 + 1); have f2 := World.ownsRow.frozenAt (h := HOv.out) (p * 6 + 2); have f3 := World.ownsRow.frozenAt (h := HOv.out) (p * 6 + 3); have f4 := World.ownsRow.frozenAt (h := HOv.out) (p * 6 + 4); have f5 := World.ownsRow.frozenAt (h := HOv.out) (p * 6 + 5); have HV := Lib.hid hv; clear hv hv'))
      clear e1 e2
      obtain ⟨V, hV⟩ : ∃ V, V = ((((((v.setCell ⟨g, p * 6, none⟩ (.int .i64 32)).setCell ⟨g, p * 6 + 1, none⟩ (.int .i64 0)).setCell ⟨g, p * 6 + 2, none⟩ (.int .i64 0)).setCell ⟨g, p * 6 + 3, none⟩ (.bool false)).setCell ⟨g, p * 6 + 4, none⟩ (.bool false)).setCell ⟨g, p * 6 + 5, none⟩ (.bool false)) := ⟨_, rfl⟩
      have XAV := Lib.hid (show BoxG V w.heap.size #[.int .i64 (W : Int), .int .i64 (H : Int), .slice (some ⟨b, o, none⟩) n c] by rw [hV]; exact (XA.out.below HV.out la).only6 (Ne.symm hgn) _ _ _ _ _ _ _ _ _ _ _ _)
      have XBV := Lib.hid (show BoxG V (w.heap.size + 1) #[.int .i64 0, .int .i64 0, .slice none 0 0] by rw [hV]; exact (XB.out.below HV.out XB.out.lt).only6 (Ne.symm hgn1) _ _ _ _ _ _ _ _ _ _ _ _)
      have X9V := Lib.hid (show BoxG V v3.heap.size #[.int .i64 (W : Int), .int .i64 (H : Int), .slice (some ⟨g, 0, none⟩) n c3] by rw [hV]; exact (X9.out.below HV.out l9).only6 (Ne.symm hgn9) _ _ _ _ _ _ _ _ _ _ _ _)
      have HOV := Lib.hid (show OwnC V (w.heap.size + 2) (some ⟨g, 0, none⟩) n c3 ((over cs (yw + x) (l.take (k - x))).set p blankC) by rw [hV]; exact own_setC HOv.out p (by rw [HLn.out]; exact hpn) blankC)
      have HBV := Lib.hid (show Below w.heap.size w V by rw [hV]; exact below6 (HBw.out.trans (HV.out.mono (by omega))) hgw _ _ _ _ _ _ _ _ _ _ _ _)
      have HVV := Lib.hid hV.symm
      rw [HVV.out]
      clear hV a0 q9 a0' q9' hu0 hu1 hu2 hu3 hu4 hu5 f0 f1 f2 f3 f4 f5
      have a0 : V.cell? ⟨w.heap.size, 0, none⟩ = some (.int .i64 (W : Int)) := XAV.out.cell 0
      have HZ := Lib.hid (show l[k - x]? = some blankC by rw [HG.out (k - x) (by omega), if_neg (by omega)])
      have t1 : decide ((x : Int) ≤ (k : Int) - (W : Int)) = false := decide_eq_false (by omega)
      have t2 : (k : Int) - (W : Int) < (x : Int) := by omega
      have t3 : decide ((k : Int) - (W : Int) ≥ (x : Int)) = false := decide_eq_false (by omega)
      go_wp2_with fail
      refine ⟨⟨k + 1, by omega, by omega, by go_num, XAV.out, XBV.out, X9V.out, ?_, HBV.out⟩, by simp [intOf]; omega⟩
      have h := HOV.out
      rw [HP.out, over_next (by rw [HLL.out, HL.out]; omega) HZ.out, show k - x + 1 = k + 1 - x by omega] at h
      exact h
    · obtain rfl : W = k := by omega
      have HOw := Lib.hid (show OwnC wr (w.heap.size + 2) (some ⟨g, 0, none⟩) n c3 (over cs (yw + x) l) by rw [List.take_of_length_le (by rw [HLL.out]; exact Nat.le_refl _)] at ho; exact ho)
      have HBw := Lib.hid hb
      have a0 : wr.cell? ⟨w.heap.size, 0, none⟩ = some (.int .i64 (W : Int)) := xa.cell 0
      have q0 := x9.cell 0
      have q1 := x9.cell 1
      have q2 := x9.cell 2
      have p0 := x1.cell 0
      have p1 := x1.cell 1
      have p2 := x1.cell 2
      have g0 := x1.free 0
      have g1 := x1.free 1
      have g2 := x1.free 2
      clear x1 x9 xa ho hb
      go_wp2_with fail
      refine bodyPost_ret (v := .agg #[.int .i64 (W : Int), .int .i64 (H : Int), .slice (some ⟨g, 0, none⟩) n c3]) (by simp [results, Try.results29, go_sem, p0, p1, p2]) rfl (ansT HOL.out ?_ ?_)
      · exact (((HOw.out.setBox (w.heap.size + 1) 0 _ (by omega)).setBox (w.heap.size + 1) 1 _ (by omega)).setBox (w.heap.size + 1) 2 _ (by omega)).more (by omega)
      · exact ((HBw.out.setCell (by simp) _).setCell (by simp) _).setCell (by simp) _

set_option maxRecDepth 100000 in
set_option maxHeartbeats 6400000 in
theorem spec_GridShift_lo (W H : Nat) (b o n c : Nat) (cs : List CellD) (x y : Nat) (d : Int) (w : World) (hr : RdC w w.heap.size (some ⟨b, o, none⟩) cs) (hl : cs.length = n) (hn : n ≤ 1048576) (ho : okG (W : Int) (H : Int) cs = true) (hx : x < W) (hy : y < H) (hW : W ≤ 120) (hH : H ≤ 120) (hWH : n = W * H) (hd1 : d < -(W : Int)) :
    Calls Try.prog 29 #[.agg #[.int .i64 (W : Int), .int .i64 (H : Int), .slice (some ⟨b, o, none⟩) n c], .int .i64 (x : Int), .int .i64 (y : Int), .int .i64 d] w (AnsT w ((W : Int), (H : Int), over cs (y * W + x) (shiftL cs (y * W + x) (W - x) (-(W : Int))))) := by
  have hb0 := Lib.hid (((Below.refl w.heap.size w).alloc (Nat.le_refl _) (.cells #[.int .i64 (W : Int), .int .i64 (H : Int), .slice (some ⟨b, o, none⟩) n c] 29)).alloc (by simp) (.cells #[.int .i64 0, .int .i64 0, .slice none 0 0] 29))
  have HK := Lib.hid (spec_GridOk_any (W : Int) (H : Int) (some ⟨b, o, none⟩) n c cs _ ((hr.below (Nat.le_refl _) hb0.out).more (by simp; omega)) hl (by omega))
  have X0 := Lib.hid ((BoxG.new w #[.int .i64 (W : Int), .int .i64 (H : Int), .slice (some ⟨b, o, none⟩) n c]).below ((Below.refl _ _).alloc (Nat.le_refl _) (.cells #[.int .i64 0, .int .i64 0, .slice none 0 0] 29)) (by simp))
  have x1 := BoxG.new (w.alloc (.cells #[.int .i64 (W : Int), .int .i64 (H : Int), .slice (some ⟨b, o, none⟩) n c] 29)) #[.int .i64 0, .int .i64 0, .slice none 0 0]
  simp only [World.size_alloc] at x1
  have X1 := Lib.hid x1
  have HO := Lib.hid ho
  have hylt : y * W + W ≤ n := by
    have h1 : (y + 1) * W ≤ H * W := Nat.mul_le_mul_right W hy
    rw [Nat.add_mul, Nat.mul_comm H W] at h1; omega
  have HR := Lib.hid hr
  have HL := Lib.hid hl
  have HCP := Lib.hid (fun V (h : Below w.heap.size w V) => l07Copy_any (W : Int) (H : Int) (some ⟨b, o, none⟩) n c cs V (fun h => by cases h) ((HR.out.below (Nat.le_refl _) h).more h.size) HL.out (by omega))
  have hbB : b < w.heap.size := by
    obtain ⟨_, _, h1, h2, _⟩ := hr.at_ (i := 0) (by omega)
    injection h1 with h1; injection h1 with h1; omega
  obtain ⟨yw, hyw⟩ : ∃ yw, yw = y * W := ⟨_, rfl⟩
  have E1 := Lib.hid (show IntKind.i64.wrap ((y : Int) * (W : Int)) = (yw : Int) by rw [← Int.natCast_mul, ← hyw]; exact IntWalk.i64_in _ (by omega))
  rw [← hyw] at hylt ⊢
  obtain ⟨l, hll⟩ : ∃ l, l = shiftL cs (yw + x) (W - x) (-(W : Int)) := ⟨_, rfl⟩
  have hlen : l.length = W - x := by rw [hll, shiftL_len]
  have HG := Lib.hid (fun (i : Nat) (h : i < W - x) => hll ▸ shiftL_get (cs := cs) (lo := yw + x) (m := W - x) (d := -(W : Int)) h)
  rw [← hll]
  have HOL := Lib.hid (show (over cs (yw + x) l).length = n by rw [over_len (by omega)]; exact hl)
  have HLL := Lib.hid hlen
  clear ho hr hl x1 hWH hll hyw hlen
  go_enter Try.func29, Try.ntmps29
  go_wp2_with fail
  refine HK.out.mono ?_
  rintro e v1 ⟨rfl, hb1⟩
  rw [HO.out]
  have x0 := X0.out.below hb1 (by simp; omega)
  have X1a := Lib.hid (X1.out.below hb1 (by simp))
  have X0a := Lib.hid x0
  have HB1 := Lib.hid (hb0.out.trans (hb1.mono (by simp; omega)))
  have q0 := x0.cell 0
  have q1 := x0.cell 1
  have q2 := x0.cell 2
  have hz : w.heap.size + 1 < v1.heap.size := by have := hb1.size; simp at this; omega
  clear hb1 x0 X0 X1
  go_wp2_with fail
  refine (HCP.out _ HB1.out).mono ?_
  rintro e v3 ⟨A3, c3, rfl, ho3, hb3⟩
  obtain ⟨g, rfl⟩ := ho3.addr (by omega)
  have hcap := ho3.cap
  clear q0 q1 q2
  have hg := ho3.blk g rfl
  have HB3 := Lib.hid (HB1.out.trans (hb3.mono (by omega)))
  have hz3 : w.heap.size + 1 < v3.heap.size := by have := hb3.size; omega
  have hal := (Below.refl v3.heap.size v3).alloc (Nat.le_refl _) (.cells #[.int .i64 (W : Int), .int .i64 (H : Int), .slice (some ⟨g, 0, none⟩) n c3] 29)
  have X1c := Lib.hid ((X1a.out.below hb3 (by omega)).below hal (by omega))
  have X0c := Lib.hid ((X0a.out.below hb3 (by omega)).below hal (by omega))
  have X9 := Lib.hid (BoxG.new v3 #[.int .i64 (W : Int), .int .i64 (H : Int), .slice (some ⟨g, 0, none⟩) n c3])
  have HO3 := Lib.hid ((ho3.below (Nat.le_refl _) hal).more (base' := w.heap.size + 2) (by omega))
  have HB3a := Lib.hid (HB3.out.trans (hal.mono (by omega)))
  have hgn : g ≠ w.heap.size := by omega
  have hgn1 : g ≠ w.heap.size + 1 := by omega
  have hgn9 : g ≠ v3.heap.size := by omega
  have hgb : g ≠ b := by omega
  have hgw : w.heap.size ≤ g := by omega
  obtain ⟨b9, hb9⟩ : ∃ b9, b9 = v3.heap.size := ⟨_, rfl⟩
  have hb9w : w.heap.size + 1 < b9 := by omega
  have HB9 := Lib.hid hb9.symm
  clear hal hb3 ho3 X1a X0a HB3 hg hb9
  go_wp2_with fail
  go_loopw [10] (fun s wr => ∃ k : Nat, x ≤ k ∧ k ≤ W ∧ s = .int .i64 (k : Int) ∧ BoxG wr w.heap.size #[.int .i64 (W : Int), .int .i64 (H : Int), .slice (some ⟨b, o, none⟩) n c] ∧ BoxG wr (w.heap.size + 1) #[.int .i64 0, .int .i64 0, .slice none 0 0] ∧ BoxG wr v3.heap.size #[.int .i64 (W : Int), .int .i64 (H : Int), .slice (some ⟨g, 0, none⟩) n c3] ∧ OwnC wr (w.heap.size + 2) (some ⟨g, 0, none⟩) n c3 (over cs (yw + x) (l.take (k - x))) ∧ Below w.heap.size w wr) (fun s _ => W - (intOf s).toNat)
  case atStart => exact ⟨x, Nat.le_refl _, by omega, rfl, X0c.out, X1c.out, X9.out, by rw [Nat.sub_self, List.take_zero, over_nil]; exact HO3.out, HB3a.out⟩
  case round =>
    clear X0c X1c X9 HO3 HB3a
    obtain ⟨k, hxk, hkW, rfl, xa, x1, x9, ho, hb⟩ := hrel
    have la := xa.lt
    have l9 := x9.lt
    by_cases hlt : k < W
    · have a0 : wr.cell? ⟨w.heap.size, 0, none⟩ = some (.int .i64 (W : Int)) := xa.cell 0
      have q9 : wr.cell? ⟨v3.heap.size, 2, none⟩ = some (.slice (some ⟨g, 0, none⟩) n c3) := x9.cell 2
      obtain ⟨p, hp⟩ : ∃ p, p = yw + k := ⟨_, rfl⟩
      have E2 := Lib.hid (show IntKind.i64.wrap ((yw : Int) + (k : Int)) = (p : Int) by rw [hp, Int.natCast_add]; exact IntWalk.i64_in _ (by omega))
      have T0 := Lib.hid (show p * 6 < n * 6 by omega)
      have T1 := Lib.hid (show p * 6 + 1 < n * 6 by omega)
      have T2 := Lib.hid (show p * 6 + 2 < n * 6 by omega)
      have T3 := Lib.hid (show p * 6 + 3 < n * 6 by omega)
      have T4 := Lib.hid (show p * 6 + 4 < n * 6 by omega)
      have T5 := Lib.hid (show p * 6 + 5 < n * 6 by omega)
      have hpn : p < n := by omega
      have hp0 : (0 : Int) ≤ (p : Int) := by omega
      have hp1 : (p : Int) < (n : Int) := by omega
      have hll : (over cs (yw + x) (l.take (k - x))).length = n := by rw [over_len (by rw [List.length_take, HLL.out, HL.out]; omega)]; exact HL.out
      have HP := Lib.hid (show p = yw + x + (k - x) by omega)
      have XA := Lib.hid xa
      have XB := Lib.hid x1
      have X9 := Lib.hid x9
      have HOw := Lib.hid ho
      have HBw := Lib.hid hb
      have HLn := Lib.hid hll
      clear xa x1 x9 ho hb hll hp
      have e1 := E1.out
      have e2 := E2.out
      go_wp2_with fail
      go_region_held3 (fun w' => w'.cell? ⟨w.heap.size, 0, none⟩ = some (.int .i64 (W : Int)) ∧ w'.cell? ⟨v3.heap.size, 2, none⟩ = some (.slice (some ⟨g, 0, none⟩) n c3)) (go_keep)
        ((go_at_call 63; (with_reducible refine (blank_any _).mono ?_); rintro e v ⟨rfl, hv'⟩; have hv : Below wr.heap.size wr v := undrew hv'; have a0' := (hv.cell (p := ⟨w.heap.size, 0, none⟩) la).trans a0; have q9' := (hv.cell (p := ⟨v3.heap.size, 2, none⟩) l9).trans q9; have HOv := Lib.hid (HOw.out.below (Nat.le_refl _) hv); obtain ⟨u0, hu0⟩ := own_there HOv.out (p * 6) T0.out; obtain ⟨u1, hu1⟩ := own_there HOv.out (p * 6 + 1) T1.out; obtain ⟨u2, hu2⟩ := own_there HOv.out (p * 6 + 2) T2.out; obtain ⟨u3, hu3⟩ := own_there HOv.out (p * 6 + 3) T3.out; obtain ⟨u4, hu4⟩ := own_there HOv.out (p * 6 + 4) T4.out; obtain ⟨u5, hu5⟩ := own_there HOv.out (p * 6 + 5) T5.out; have f0 := World.ownsRow.frozenAt (h := HOv.out) (p * 6); have f1 := World.ownsRow.frozenAt (h := HOv.out) (p * 6 + 1); have f2 := World.ownsRow.frozenAt (h := HOv.out) (p * 6 + 2); have f3 := World.ownsRow.frozenAt (h := HOv.out) (p * 6 + 3); have f4 := World.ownsRow.frozenAt (h := HOv.out) (p * 6 + 4); have f5 := World.ownsRow.frozenAt (h := HOv.out) (p * 6 + 5); have HV := Lib.hid hv; clear hv hv'))
      clear e1 e2
      obtain ⟨V, hV⟩ : ∃ V, V = ((((((v.setCell ⟨g, p * 6, none⟩ (.int .i64 32)).setCell ⟨g, p * 6 + 1, none⟩ (.int .i64 0)).setCell ⟨g, p * 6 + 2, none⟩ (.int .i64 0)).setCell ⟨g, p * 6 + 3, none⟩ (.bool false)).setCell ⟨g, p * 6 + 4, none⟩ (.bool false)).setCell ⟨g, p * 6 + 5, none⟩ (.bool false)) := ⟨_, rfl⟩
      have XAV := Lib.hid (show BoxG V w.heap.size #[.int .i64 (W : Int), .int .i64 (H : Int), .slice (some ⟨b, o, none⟩) n c] by rw [hV]; exact (XA.out.below HV.out la).only6 (Ne.symm hgn) _ _ _ _ _ _ _ _ _ _ _ _)
      have XBV := Lib.hid (show BoxG V (w.heap.size + 1) #[.int .i64 0, .int .i64 0, .slice none 0 0] by rw [hV]; exact (XB.out.below HV.out XB.out.lt).only6 (Ne.symm hgn1) _ _ _ _ _ _ _ _ _ _ _ _)
      have X9V := Lib.hid (show BoxG V v3.heap.size #[.int .i64 (W : Int), .int .i64 (H : Int), .slice (some ⟨g, 0, none⟩) n c3] by rw [hV]; exact (X9.out.below HV.out l9).only6 (Ne.symm hgn9) _ _ _ _ _ _ _ _ _ _ _ _)
      have HOV := Lib.hid (show OwnC V (w.heap.size + 2) (some ⟨g, 0, none⟩) n c3 ((over cs (yw + x) (l.take (k - x))).set p blankC) by rw [hV]; exact own_setC HOv.out p (by rw [HLn.out]; exact hpn) blankC)
      have HBV := Lib.hid (show Below w.heap.size w V by rw [hV]; exact below6 (HBw.out.trans (HV.out.mono (by omega))) hgw _ _ _ _ _ _ _ _ _ _ _ _)
      have HVV := Lib.hid hV.symm
      rw [HVV.out]
      clear hV a0 q9 a0' q9' hu0 hu1 hu2 hu3 hu4 hu5 f0 f1 f2 f3 f4 f5
      have a0 : V.cell? ⟨w.heap.size, 0, none⟩ = some (.int .i64 (W : Int)) := XAV.out.cell 0
      have HZ := Lib.hid (show l[k - x]? = some blankC by rw [HG.out (k - x) (by omega), if_neg (by omega)])
      have t1 : decide ((x : Int) ≤ (k : Int) + (W : Int)) = true := decide_eq_true (by omega)
      have t2 : decide ((k : Int) + (W : Int) < (W : Int)) = false := decide_eq_false (by omega)
      have t3 : (x : Int) ≤ (k : Int) + (W : Int) := by omega
      have t4 : decide ((k : Int) - -(W : Int) < (W : Int)) = false := decide_eq_false (by omega)
      have t5 : decide ((x : Int) ≤ (k : Int) - -(W : Int)) = true := decide_eq_true (by omega)
      go_wp2_with fail
      refine ⟨⟨k + 1, by omega, by omega, by go_num, XAV.out, XBV.out, X9V.out, ?_, HBV.out⟩, by simp [intOf]; omega⟩
      have h := HOV.out
      rw [HP.out, over_next (by rw [HLL.out, HL.out]; omega) HZ.out, show k - x + 1 = k + 1 - x by omega] at h
      exact h
    · obtain rfl : W = k := by omega
      have HOw := Lib.hid (show OwnC wr (w.heap.size + 2) (some ⟨g, 0, none⟩) n c3 (over cs (yw + x) l) by rw [List.take_of_length_le (by rw [HLL.out]; exact Nat.le_refl _)] at ho; exact ho)
      have HBw := Lib.hid hb
      have a0 : wr.cell? ⟨w.heap.size, 0, none⟩ = some (.int .i64 (W : Int)) := xa.cell 0
      have q0 := x9.cell 0
      have q1 := x9.cell 1
      have q2 := x9.cell 2
      have p0 := x1.cell 0
      have p1 := x1.cell 1
      have p2 := x1.cell 2
      have g0 := x1.free 0
      have g1 := x1.free 1
      have g2 := x1.free 2
      clear x1 x9 xa ho hb
      go_wp2_with fail
      refine bodyPost_ret (v := .agg #[.int .i64 (W : Int), .int .i64 (H : Int), .slice (some ⟨g, 0, none⟩) n c3]) (by simp [results, Try.results29, go_sem, p0, p1, p2]) rfl (ansT HOL.out ?_ ?_)
      · exact (((HOw.out.setBox (w.heap.size + 1) 0 _ (by omega)).setBox (w.heap.size + 1) 1 _ (by omega)).setBox (w.heap.size + 1) 2 _ (by omega)).more (by omega)
      · exact ((HBw.out.setCell (by simp) _).setCell (by simp) _).setCell (by simp) _

end Go.Proofs.Ytgejjdkgeoojmaa.Gr

