/- Words and lemmas, merged (once: GrRollS, GrRollP, ScShow, ScPut) -/
import Derived.Test.YthlpchojlddnbaaGrRollB
import Derived.Test.YthlpchojlddnbaaKiF
import Derived.Deep.RegionHeld3
import Derived.Deep.DrawnRows
import Derived.Test.YthlpchojlddnbaaKiO
import Derived.Test.YthlpchojlddnbaaScEq
import Derived.Test.YthlpchojlddnbaaGrCopy
import Derived.Test.YthlpchojlddnbaaScGoS
import Derived.Test.YthlpchojlddnbaaGrOk
namespace Go.Proofs.Ythlpchojlddnbaa.Gr
open Go.RowKit Go.Proofs.Ythlpchojlddnbaa.Bytes Go.Proofs.Ythlpchojlddnbaa.Rows_ Go.Proofs.Ythlpchojlddnbaa.RowK
set_option linter.unusedVariables false
theorem mulW {a b W : Int} (h : a ≤ b) (hW : 0 ≤ W) : a * W ≤ b * W := Int.mul_le_mul_of_nonneg_right h hW

set_option maxRecDepth 100000 in
set_option maxHeartbeats 6400000 in
theorem spec_GridRoll_mid (W H : Nat) (b o n c : Nat) (cs : List CellD) (top bot : Nat) (d : Int) (w : World) (hr : RdC w w.heap.size (some ⟨b, o, none⟩) cs) (hl : cs.length = n) (hn : n ≤ 1048576) (ho : okG (W : Int) (H : Int) cs = true) (htb : top ≤ bot) (hy : bot < H) (hW1 : 1 ≤ W) (hW : W ≤ 120) (hH : H ≤ 120) (hWH : n = W * H) (hd1 : -(H : Int) ≤ d) (hd2 : d ≤ (H : Int)) :
    Calls Try.prog 123 #[.agg #[.int .i64 (W : Int), .int .i64 (H : Int), .slice (some ⟨b, o, none⟩) n c], .int .i64 (top : Int), .int .i64 (bot : Int), .int .i64 d] w (AnsT w ((W : Int), (H : Int), over cs (top * W) (shiftL cs (top * W) ((bot + 1 - top) * W) (-((W : Int) * (d)))))) := by
  have hb0 := Lib.hid (((Below.refl w.heap.size w).alloc (Nat.le_refl _) (.cells #[.int .i64 (W : Int), .int .i64 (H : Int), .slice (some ⟨b, o, none⟩) n c] 32)).alloc (by simp) (.cells #[.int .i64 0, .int .i64 0, .slice none 0 0] 32))
  have HK := Lib.hid (spec_GridOk_any (W : Int) (H : Int) (some ⟨b, o, none⟩) n c cs _ ((hr.below (Nat.le_refl _) hb0.out).more (by simp; omega)) hl (by omega))
  have X0 := Lib.hid ((BoxG.new w #[.int .i64 (W : Int), .int .i64 (H : Int), .slice (some ⟨b, o, none⟩) n c]).below ((Below.refl _ _).alloc (Nat.le_refl _) (.cells #[.int .i64 0, .int .i64 0, .slice none 0 0] 32)) (by simp))
  have x1 := BoxG.new (w.alloc (.cells #[.int .i64 (W : Int), .int .i64 (H : Int), .slice (some ⟨b, o, none⟩) n c] 32)) #[.int .i64 0, .int .i64 0, .slice none 0 0]
  simp only [World.size_alloc] at x1
  have X1 := Lib.hid x1
  have HO := Lib.hid ho
  have hbot : (bot + 1) * W ≤ n := by
    have h1 : (bot + 1) * W ≤ H * W := Nat.mul_le_mul_right W hy
    rw [Nat.mul_comm H W] at h1; omega
  have htw : top * W ≤ (bot + 1) * W := Nat.mul_le_mul_right W (by omega)
  have hmm : (bot + 1 - top) * W = (bot + 1) * W - top * W := Nat.sub_mul _ _ _
  have HR := Lib.hid hr
  have HL := Lib.hid hl
  have HCP := Lib.hid (fun V (h : Below w.heap.size w V) => l07Copy_any (W : Int) (H : Int) (some ⟨b, o, none⟩) n c cs V (fun h => by cases h) ((HR.out.below (Nat.le_refl _) h).more h.size) HL.out (by omega))
  have hn0 : 0 < n := by have : 1 * W ≤ (bot + 1) * W := Nat.mul_le_mul_right W (by omega); omega
  have hbB : b < w.heap.size := by
    have hpos : 0 < cs.length := by rw [hl]; have : 1 * W ≤ (bot + 1) * W := Nat.mul_le_mul_right W (by omega); omega
    obtain ⟨_, _, h1, h2, _⟩ := hr.at_ (i := 0) hpos
    injection h1 with h1; injection h1 with h1; omega
  obtain ⟨lo, hlo⟩ : ∃ lo, lo = top * W := ⟨_, rfl⟩
  obtain ⟨m, hm⟩ : ∃ m, m = (bot + 1 - top) * W := ⟨_, rfl⟩
  obtain ⟨tw, htwe⟩ : ∃ tw, tw = (W : Int) * (d) := ⟨_, rfl⟩
  have HLO := Lib.hid (show (top : Int) * (W : Int) = (lo : Int) by rw [hlo, Int.natCast_mul])
  have HLM := Lib.hid (show ((bot : Int) + 1) * (W : Int) = (lo : Int) + (m : Int) by
    have h1 : lo + m = (bot + 1) * W := by omega
    rw [← Int.natCast_add, h1, Int.natCast_mul]; rfl)
  have HTW := Lib.hid htwe
  have hlm : lo + m ≤ n := by omega
  rw [← hlo, ← hm, ← htwe]
  obtain ⟨l, hll⟩ : ∃ l, l = shiftL cs lo m (-tw) := ⟨_, rfl⟩
  have hlen : l.length = m := by rw [hll, shiftL_len]
  have HG := Lib.hid (fun (i : Nat) (h : i < m) => hll ▸ shiftL_get (cs := cs) (lo := lo) (m := m) (d := -tw) h)
  rw [← hll]
  have HOL := Lib.hid (show (over cs lo l).length = n by rw [over_len (by omega)]; exact hl)
  have HLL := Lib.hid hlen
  have HROW := Lib.hid (fun (yy : Nat) (h1 : top ≤ yy) (h2 : yy ≤ bot) => (show (yy - top) * W + W ≤ m ∧ yy * W = lo + (yy - top) * W ∧ (yy + 1 - top) * W = (yy - top) * W + W by
    have a1 : (yy + 1 - top) * W ≤ (bot + 1 - top) * W := Nat.mul_le_mul_right W (by omega)
    have a2 : (yy + 1 - top) * W = (yy - top) * W + W := by rw [show yy + 1 - top = (yy - top) + 1 by omega, Nat.add_mul, Nat.one_mul]
    have a3 : yy * W = top * W + (yy - top) * W := by rw [← Nat.add_mul, show top + (yy - top) = yy by omega]
    exact ⟨by omega, by omega, a2⟩))
  have HEND := Lib.hid (show (bot + 1 - top) * W = m from hm.symm)
  clear ho hr hl x1 hWH hll hlen hlo hm htwe hmm htw hbot
  go_enter Try.func123, Try.ntmps123
  go_wp2_with fail
  refine HK.out.mono ?_
  rintro e v1 ⟨rfl, hb1⟩
  rw [HO.out]
  have x0 := X0.out.below hb1 (by simp; omega)
  have X1a := Lib.hid (X1.out.below hb1 (by simp))
  have X0a := Lib.hid x0
  have HB1 := Lib.hid (hb0.out.trans (hb1.mono (by simp; omega)))
  have q0 := x0.cell 0
  have q1 := x0.cell 1
  have q2 := x0.cell 2
  have hz : w.heap.size + 1 < v1.heap.size := by have := hb1.size; simp at this; omega
  clear hb1 x0 X0 X1
  go_wp2_with fail
  refine (HCP.out _ HB1.out).mono ?_
  rintro e v3 ⟨A3, c3, rfl, ho3, hb3⟩
  obtain ⟨g, rfl⟩ := ho3.addr (by omega)
  have hcap := ho3.cap
  clear q0 q1 q2
  have hg := ho3.blk g rfl
  have HB3 := Lib.hid (HB1.out.trans (hb3.mono (by omega)))
  have hz3 : w.heap.size + 1 < v3.heap.size := by have := hb3.size; omega
  have hal := (Below.refl v3.heap.size v3).alloc (Nat.le_refl _) (.cells #[.int .i64 (W : Int), .int .i64 (H : Int), .slice (some ⟨g, 0, none⟩) n c3] 32)
  have X1c := Lib.hid ((X1a.out.below hb3 (by omega)).below hal (by omega))
  have X0c := Lib.hid ((X0a.out.below hb3 (by omega)).below hal (by omega))
  have X9 := Lib.hid (BoxG.new v3 #[.int .i64 (W : Int), .int .i64 (H : Int), .slice (some ⟨g, 0, none⟩) n c3])
  have HO3 := Lib.hid ((ho3.below (Nat.le_refl _) hal).more (base' := w.heap.size + 2) (by omega))
  have HB3a := Lib.hid (HB3.out.trans (hal.mono (by omega)))
  have hgn : g ≠ w.heap.size := by omega
  have hgn1 : g ≠ w.heap.size + 1 := by omega
  have hgn9 : g ≠ v3.heap.size := by omega
  have hgb : g ≠ b := by omega
  have hgw : w.heap.size ≤ g := by omega
  obtain ⟨b9, hb9⟩ : ∃ b9, b9 = v3.heap.size := ⟨_, rfl⟩
  have hb9w : w.heap.size + 1 < b9 := by omega
  have HB9 := Lib.hid hb9.symm
  clear hal hb3 ho3 X1a X0a HB3 hg hb9
  go_wp2_with fail
  go_loopw [10] (fun s wr => ∃ yy : Nat, top ≤ yy ∧ yy ≤ bot + 1 ∧ s = .int .i64 (yy : Int) ∧ BoxG wr w.heap.size #[.int .i64 (W : Int), .int .i64 (H : Int), .slice (some ⟨b, o, none⟩) n c] ∧ BoxG wr (w.heap.size + 1) #[.int .i64 0, .int .i64 0, .slice none 0 0] ∧ BoxG wr v3.heap.size #[.int .i64 (W : Int), .int .i64 (H : Int), .slice (some ⟨g, 0, none⟩) n c3] ∧ OwnC wr (w.heap.size + 2) (some ⟨g, 0, none⟩) n c3 (over cs lo (l.take ((yy - top) * W))) ∧ Below w.heap.size w wr) (fun s _ => bot + 1 - (intOf s).toNat)
  case atStart => exact ⟨top, Nat.le_refl _, by omega, rfl, X0c.out, X1c.out, X9.out, by rw [Nat.sub_self, Nat.zero_mul, List.take_zero, over_nil]; exact HO3.out, HB3a.out⟩
  case round =>
    clear X0c X1c X9 HO3 HB3a
    obtain ⟨yy, hty, hyb1, rfl, xa, x1, x9, ho, hb⟩ := hrel
    by_cases hlt : yy ≤ bot
    · obtain ⟨w1, w2, w3⟩ := HROW.out yy hty hlt
      have HW3 := Lib.hid w3
      obtain ⟨rw_, hrw⟩ : ∃ r, r = (yy - top) * W := ⟨_, rfl⟩
      obtain ⟨yw, hyw⟩ : ∃ r, r = yy * W := ⟨_, rfl⟩
      have HYW := Lib.hid (show (yy : Int) * (W : Int) = (yw : Int) by rw [hyw, Int.natCast_mul])
      have E1 := Lib.hid (show IntKind.i64.wrap ((yy : Int) * (W : Int)) = (yw : Int) by rw [← Int.natCast_mul, ← hyw]; exact IntWalk.i64_in _ (by omega))
      have hyl : yw = lo + rw_ := by omega
      have HRW := Lib.hid hrw
      rw [← hrw] at ho w1
      have HYL := Lib.hid hyl
      have hyl1 : yw ≤ lo + rw_ := by omega
      have hyl2 : lo + rw_ ≤ yw := by omega
      clear hrw hyw w2 w3 hyl
      obtain ⟨wo, rfl⟩ : ∃ wo : World, wo = wr := ⟨_, rfl⟩
      have XAo := Lib.hid xa
      have XBo := Lib.hid x1
      have X9o := Lib.hid x9
      have HOo := Lib.hid ho
      have HBo := Lib.hid hb
      clear xa x1 x9 ho hb
      go_wp2_with fail
      go_loopw [11] (fun s wr => ∃ xx : Nat, xx ≤ W ∧ s = .int .i64 (xx : Int) ∧ BoxG wr w.heap.size #[.int .i64 (W : Int), .int .i64 (H : Int), .slice (some ⟨b, o, none⟩) n c] ∧ BoxG wr (w.heap.size + 1) #[.int .i64 0, .int .i64 0, .slice none 0 0] ∧ BoxG wr v3.heap.size #[.int .i64 (W : Int), .int .i64 (H : Int), .slice (some ⟨g, 0, none⟩) n c3] ∧ OwnC wr (w.heap.size + 2) (some ⟨g, 0, none⟩) n c3 (over cs lo (l.take (rw_ + xx))) ∧ Below w.heap.size w wr) (fun s _ => W - (intOf s).toNat)
      case atStart => exact ⟨0, Nat.zero_le _, rfl, XAo.out, XBo.out, X9o.out, HOo.out, HBo.out⟩
      case round =>
        clear XAo XBo X9o HOo HBo
        obtain ⟨xx, hxW, rfl, xa, x1, x9, ho, hb⟩ := hrel
        have la := xa.lt
        have l9 := x9.lt
        have a0 : wr.cell? ⟨w.heap.size, 0, none⟩ = some (.int .i64 (W : Int)) := xa.cell 0
        by_cases hxl : xx < W
        · have q9 : wr.cell? ⟨v3.heap.size, 2, none⟩ = some (.slice (some ⟨g, 0, none⟩) n c3) := x9.cell 2
          obtain ⟨p, hp⟩ : ∃ p, p = yw + xx := ⟨_, rfl⟩
          have E2 := Lib.hid (show IntKind.i64.wrap ((yw : Int) + (xx : Int)) = (p : Int) by rw [hp, Int.natCast_add]; exact IntWalk.i64_in _ (by omega))
          have hpn : p < n := by omega
          have hp0 : (0 : Int) ≤ (p : Int) := by omega
          have hp1 : (p : Int) < (n : Int) := by omega
          have T0 := Lib.hid (show p * 6 < n * 6 by omega)
          have T1 := Lib.hid (show p * 6 + 1 < n * 6 by omega)
          have T2 := Lib.hid (show p * 6 + 2 < n * 6 by omega)
          have T3 := Lib.hid (show p * 6 + 3 < n * 6 by omega)
          have T4 := Lib.hid (show p * 6 + 4 < n * 6 by omega)
          have T5 := Lib.hid (show p * 6 + 5 < n * 6 by omega)
          have hll : (over cs lo (l.take (rw_ + xx))).length = n := by rw [over_len (by rw [List.length_take, HLL.out, HL.out]; omega)]; exact HL.out
          have HP := Lib.hid (show p = lo + (rw_ + xx) by omega)
          have XA := Lib.hid xa
          have XB := Lib.hid x1
          have X9 := Lib.hid x9
          have HOw := Lib.hid ho
          have HBw := Lib.hid hb
          have HLn := Lib.hid hll
          clear xa x1 x9 ho hb hll hp
          have e1 := E1.out
          have e2 := E2.out
          go_wp2_with fail
          go_region_held3 (fun w' => w'.cell? ⟨w.heap.size, 0, none⟩ = some (.int .i64 (W : Int)) ∧ w'.cell? ⟨v3.heap.size, 2, none⟩ = some (.slice (some ⟨g, 0, none⟩) n c3)) (go_keep)
            ((go_at_call 108; (with_reducible refine (blank_any _).mono ?_); rintro e v ⟨rfl, hv'⟩; have hv : Below wr.heap.size wr v := undrew hv'; have a0' := (hv.cell (p := ⟨w.heap.size, 0, none⟩) la).trans a0; have q9' := (hv.cell (p := ⟨v3.heap.size, 2, none⟩) l9).trans q9; have HOv := Lib.hid (HOw.out.below (Nat.le_refl _) hv); obtain ⟨u0, hu0⟩ := own_there HOv.out (p * 6) T0.out; have f0 := World.ownsRow.frozenAt (h := HOv.out) (p * 6); obtain ⟨u1, hu1⟩ := own_there HOv.out (p * 6 + 1) T1.out; have f1 := World.ownsRow.frozenAt (h := HOv.out) (p * 6 + 1); obtain ⟨u2, hu2⟩ := own_there HOv.out (p * 6 + 2) T2.out; have f2 := World.ownsRow.frozenAt (h := HOv.out) (p * 6 + 2); obtain ⟨u3, hu3⟩ := own_there HOv.out (p * 6 + 3) T3.out; have f3 := World.ownsRow.frozenAt (h := HOv.out) (p * 6 + 3); obtain ⟨u4, hu4⟩ := own_there HOv.out (p * 6 + 4) T4.out; have f4 := World.ownsRow.frozenAt (h := HOv.out) (p * 6 + 4); obtain ⟨u5, hu5⟩ := own_there HOv.out (p * 6 + 5) T5.out; have f5 := World.ownsRow.frozenAt (h := HOv.out) (p * 6 + 5); have HV := Lib.hid hv; clear hv hv'))
          clear e1 e2
          obtain ⟨V, hV⟩ : ∃ V, V = ((((((v.setCell ⟨g, p * 6, none⟩ (.int .i64 32)).setCell ⟨g, p * 6 + 1, none⟩ (.int .i64 0)).setCell ⟨g, p * 6 + 2, none⟩ (.int .i64 0)).setCell ⟨g, p * 6 + 3, none⟩ (.bool false)).setCell ⟨g, p * 6 + 4, none⟩ (.bool false)).setCell ⟨g, p * 6 + 5, none⟩ (.bool false)) := ⟨_, rfl⟩
          have XAV := Lib.hid (show BoxG V w.heap.size #[.int .i64 (W : Int), .int .i64 (H : Int), .slice (some ⟨b, o, none⟩) n c] by rw [hV]; exact (XA.out.below HV.out la).only6 (Ne.symm hgn) _ _ _ _ _ _ _ _ _ _ _ _)
          have XBV := Lib.hid (show BoxG V (w.heap.size + 1) #[.int .i64 0, .int .i64 0, .slice none 0 0] by rw [hV]; exact (XB.out.below HV.out XB.out.lt).only6 (Ne.symm hgn1) _ _ _ _ _ _ _ _ _ _ _ _)
          have X9V := Lib.hid (show BoxG V v3.heap.size #[.int .i64 (W : Int), .int .i64 (H : Int), .slice (some ⟨g, 0, none⟩) n c3] by rw [hV]; exact (X9.out.below HV.out l9).only6 (Ne.symm hgn9) _ _ _ _ _ _ _ _ _ _ _ _)
          have HOV := Lib.hid (show OwnC V (w.heap.size + 2) (some ⟨g, 0, none⟩) n c3 ((over cs lo (l.take (rw_ + xx))).set p blankC) by rw [hV]; exact own_setC HOv.out p (by rw [HLn.out]; exact hpn) blankC)
          have HBV := Lib.hid (show Below w.heap.size w V by rw [hV]; exact below6 (HBw.out.trans (HV.out.mono (by omega))) hgw _ _ _ _ _ _ _ _ _ _ _ _)
          have HVV := Lib.hid hV.symm
          rw [HVV.out]
          clear hV a0 q9 a0' q9' hu0 hu1 hu2 hu3 hu4 hu5 f0 f1 f2 f3 f4 f5
          have a0 : V.cell? ⟨w.heap.size, 0, none⟩ = some (.int .i64 (W : Int)) := XAV.out.cell 0
          by_cases c1 : (top : Int) ≤ (yy : Int) + d
          · by_cases c2 : (yy : Int) + d ≤ (bot : Int)
            · skip
              obtain ⟨yq, hyq⟩ := Int.eq_ofNat_of_zero_le (show 0 ≤ (yy : Int) + d by omega)
              obtain ⟨qw, hqw⟩ : ∃ qw, qw = yq * W := ⟨_, rfl⟩
              have hqi : (yq : Int) * (W : Int) = (qw : Int) := by rw [hqw, Int.natCast_mul]
              have hq1 : (qw : Int) = (yw : Int) + tw := by rw [hqw, Int.natCast_mul, ← hyq, Int.add_mul, HYW.out, HTW.out, Int.mul_comm (W : Int) d]
              have hq2 : lo ≤ qw := by
                have h1 := mulW (W := (W : Int)) c1 (by omega)
                rw [hyq, HLO.out, hqi] at h1; omega
              have hq3 : qw + W ≤ lo + m := by
                have h1 := mulW (W := (W : Int)) (show (yy : Int) + d + 1 ≤ (bot : Int) + 1 by omega) (by omega)
                rw [hyq, Int.add_mul, Int.one_mul, hqi, HLM.out] at h1; omega
              obtain ⟨q, hq⟩ : ∃ q, q = qw + xx := ⟨_, rfl⟩
              have hqn : q < n := by omega
              have E4 := Lib.hid (show IntKind.i64.wrap ((yy : Int) + d) = (yq : Int) by rw [hyq]; exact IntWalk.i64_in _ (by omega))
              have E5 := Lib.hid (show IntKind.i64.wrap ((yq : Int) * (W : Int)) = (qw : Int) by rw [← Int.natCast_mul, ← hqw]; exact IntWalk.i64_in _ (by omega))
              have E6 := Lib.hid (show IntKind.i64.wrap ((qw : Int) + (xx : Int)) = (q : Int) by rw [hq, Int.natCast_add]; exact IntWalk.i64_in _ (by omega))
              have hqa : (0 : Int) ≤ (q : Int) := by omega
              have hqb : (q : Int) < (n : Int) := by omega
              have hqc : q < cs.length := by rw [HL.out]; exact hqn
              have hya : top ≤ yq := by omega
              have hyb : yq ≤ bot := by omega
              obtain ⟨b', o', hA, hB, r0, r1, r2, r3, r4, r5⟩ := HR.out.at_ hqc
              injection hA with hA
              injection hA with hA1 hA2
              subst hA1 hA2
              have HZ := Lib.hid (show l[rw_ + xx]? = some cs[q] by
                rw [HG.out (rw_ + xx) (by omega), if_pos (by omega), show lo + (((rw_ + xx : Nat) : Int) - (-tw)).toNat = q by omega]
                simp [List.getD, hqc])
              have HZE := Lib.hid (show cs[q] = ⟨cs[q].r, cs[q].fg, cs[q].bg, cs[q].b, cs[q].u, cs[q].t⟩ from rfl)
              generalize cs[q] = zz at *
              obtain ⟨z0, z1, z2, z3, z4, z5⟩ := zz
              have s0 : V.cell? ⟨b, o + q * 6, none⟩ = some (.int .i64 z0) := (HBV.out.cell (p := ⟨b, o + q * 6, none⟩) hbB).trans r0
              have s1 : V.cell? ⟨b, o + q * 6 + 1, none⟩ = some (.int .i64 z1) := (HBV.out.cell (p := ⟨b, o + q * 6 + 1, none⟩) hbB).trans r1
              have s2 : V.cell? ⟨b, o + q * 6 + 2, none⟩ = some (.int .i64 z2) := (HBV.out.cell (p := ⟨b, o + q * 6 + 2, none⟩) hbB).trans r2
              have s3 : V.cell? ⟨b, o + q * 6 + 3, none⟩ = some (.bool z3) := (HBV.out.cell (p := ⟨b, o + q * 6 + 3, none⟩) hbB).trans r3
              have s4 : V.cell? ⟨b, o + q * 6 + 4, none⟩ = some (.bool z4) := (HBV.out.cell (p := ⟨b, o + q * 6 + 4, none⟩) hbB).trans r4
              have s5 : V.cell? ⟨b, o + q * 6 + 5, none⟩ = some (.bool z5) := (HBV.out.cell (p := ⟨b, o + q * 6 + 5, none⟩) hbB).trans r5
              have a2 : V.cell? ⟨w.heap.size, 2, none⟩ = some (.slice (some ⟨b, o, none⟩) n c) := XAV.out.cell 2
              have q9 : V.cell? ⟨v3.heap.size, 2, none⟩ = some (.slice (some ⟨g, 0, none⟩) n c3) := X9V.out.cell 2
              clear hq hqw hyq hq1 hqi r0 r1 r2 r3 r4 r5 hB hqc
              obtain ⟨t0, ht0⟩ := own_there HOV.out (p * 6) T0.out
              have f0 := World.ownsRow.frozenAt (h := HOV.out) (p * 6)
              obtain ⟨t1, ht1⟩ := own_there HOV.out (p * 6 + 1) T1.out
              have f1 := World.ownsRow.frozenAt (h := HOV.out) (p * 6 + 1)
              obtain ⟨t2, ht2⟩ := own_there HOV.out (p * 6 + 2) T2.out
              have f2 := World.ownsRow.frozenAt (h := HOV.out) (p * 6 + 2)
              obtain ⟨t3, ht3⟩ := own_there HOV.out (p * 6 + 3) T3.out
              have f3 := World.ownsRow.frozenAt (h := HOV.out) (p * 6 + 3)
              obtain ⟨t4, ht4⟩ := own_there HOV.out (p * 6 + 4) T4.out
              have f4 := World.ownsRow.frozenAt (h := HOV.out) (p * 6 + 4)
              obtain ⟨t5, ht5⟩ := own_there HOV.out (p * 6 + 5) T5.out
              have f5 := World.ownsRow.frozenAt (h := HOV.out) (p * 6 + 5)
              have e1 := E1.out
              have e2 := E2.out
              have e4 := E4.out
              have e5 := E5.out
              have e6 := E6.out
              go_wp2_with fail
              go_region_held3 (fun w' => w'.cell? ⟨w.heap.size, 0, none⟩ = some (.int .i64 (W : Int)) ∧ w'.cell? ⟨w.heap.size, 2, none⟩ = some (.slice (some ⟨b, o, none⟩) n c) ∧ w'.cell? ⟨v3.heap.size, 2, none⟩ = some (.slice (some ⟨g, 0, none⟩) n c3) ∧ w'.cell? ⟨b, o + q * 6, none⟩ = some (.int .i64 z0) ∧ w'.cell? ⟨b, o + q * 6 + 1, none⟩ = some (.int .i64 z1) ∧ w'.cell? ⟨b, o + q * 6 + 2, none⟩ = some (.int .i64 z2) ∧ w'.cell? ⟨b, o + q * 6 + 3, none⟩ = some (.bool z3) ∧ w'.cell? ⟨b, o + q * 6 + 4, none⟩ = some (.bool z4) ∧ w'.cell? ⟨b, o + q * 6 + 5, none⟩ = some (.bool z5)) (go_keep) (fail)
              clear e1 e2 e4 e5 e6
              obtain ⟨V2, hV2⟩ : ∃ V2, V2 = ((((((V.setCell ⟨g, p * 6, none⟩ (.int .i64 z0)).setCell ⟨g, p * 6 + 1, none⟩ (.int .i64 z1)).setCell ⟨g, p * 6 + 2, none⟩ (.int .i64 z2)).setCell ⟨g, p * 6 + 3, none⟩ (.bool z3)).setCell ⟨g, p * 6 + 4, none⟩ (.bool z4)).setCell ⟨g, p * 6 + 5, none⟩ (.bool z5)) := ⟨_, rfl⟩
              have HA2 := Lib.hid (show BoxG V2 w.heap.size #[.int .i64 (W : Int), .int .i64 (H : Int), .slice (some ⟨b, o, none⟩) n c] by rw [hV2]; exact XAV.out.only6 (Ne.symm hgn) _ _ _ _ _ _ _ _ _ _ _ _)
              have HB2 := Lib.hid (show BoxG V2 (w.heap.size + 1) #[.int .i64 0, .int .i64 0, .slice none 0 0] by rw [hV2]; exact XBV.out.only6 (Ne.symm hgn1) _ _ _ _ _ _ _ _ _ _ _ _)
              have HC2 := Lib.hid (show BoxG V2 v3.heap.size #[.int .i64 (W : Int), .int .i64 (H : Int), .slice (some ⟨g, 0, none⟩) n c3] by rw [hV2]; exact X9V.out.only6 (Ne.symm hgn9) _ _ _ _ _ _ _ _ _ _ _ _)
              have HO2 := Lib.hid (show OwnC V2 (w.heap.size + 2) (some ⟨g, 0, none⟩) n c3 (over cs lo (l.take (rw_ + (xx + 1)))) by
                have h := own_setC HOV.out p (by rw [List.length_set, HLn.out]; exact hpn) ⟨z0, z1, z2, z3, z4, z5⟩
                rw [← hV2] at h
                have h2 : ((over cs lo (l.take (rw_ + xx))).set p blankC).set p ⟨z0, z1, z2, z3, z4, z5⟩ = over cs lo (l.take (rw_ + (xx + 1))) := by
                  rw [List.set_set, HP.out, over_next (by rw [HLL.out, HL.out]; omega) HZ.out, show rw_ + xx + 1 = rw_ + (xx + 1) by omega]
                rw [h2] at h
                exact h)
              have HD2 := Lib.hid (show Below w.heap.size w V2 by rw [hV2]; exact below6 HBV.out hgw _ _ _ _ _ _ _ _ _ _ _ _)
              have HV2 := Lib.hid hV2.symm
              rw [HV2.out]
              clear hV2 a0 a2 q9 s0 s1 s2 s3 s4 s5 ht0 ht1 ht2 ht3 ht4 ht5 f0 f1 f2 f3 f4 f5
              go_wp2_with fail
              exact ⟨⟨xx + 1, by omega, by go_num, HA2.out.drew, HB2.out.drew, HC2.out.drew, ownC_drew HO2.out, HD2.out.drew⟩, by simp [intOf]; omega⟩
            · have c2' : (bot : Int) < (yy : Int) + d := by omega
              have hk : (lo : Int) + (m : Int) ≤ (yw : Int) + tw := by
                have h1 := mulW (W := (W : Int)) (show (bot : Int) + 1 ≤ (yy : Int) + (d) by omega) (by omega)
                rw [Int.add_mul (yy : Int), HYW.out, HLM.out, Int.mul_comm (d) (W : Int), ← HTW.out] at h1; omega
              have HZ := Lib.hid (show l[rw_ + xx]? = some blankC by rw [HG.out (rw_ + xx) (by omega), if_neg (by omega)])
              go_wp2_with fail
              refine ⟨⟨xx + 1, by omega, by go_num, XAV.out, XBV.out, X9V.out, ?_, HBV.out⟩, by simp [intOf]; omega⟩
              have h := HOV.out
              rw [HP.out, over_next (by rw [HLL.out, HL.out]; omega) HZ.out, show rw_ + xx + 1 = rw_ + (xx + 1) by omega] at h
              exact h
          · have c1' : (yy : Int) + d < (top : Int) := by omega
            have hk : (yw : Int) + tw ≤ (lo : Int) - (W : Int) := by
              have h1 := mulW (W := (W : Int)) (show (yy : Int) + (d) + 1 ≤ (top : Int) by omega) (by omega)
              rw [Int.add_mul, Int.add_mul, HYW.out, HLO.out, Int.mul_comm (d) (W : Int), ← HTW.out] at h1; omega
            have HZ := Lib.hid (show l[rw_ + xx]? = some blankC by rw [HG.out (rw_ + xx) (by omega), if_neg (by omega)])
            go_wp2_with fail
            refine ⟨⟨xx + 1, by omega, by go_num, XAV.out, XBV.out, X9V.out, ?_, HBV.out⟩, by simp [intOf]; omega⟩
            have h := HOV.out
            rw [HP.out, over_next (by rw [HLL.out, HL.out]; omega) HZ.out, show rw_ + xx + 1 = rw_ + (xx + 1) by omega] at h
            exact h
        · obtain rfl : W = xx := by omega
          have HXA := Lib.hid xa
          have HXB := Lib.hid x1
          have HX9 := Lib.hid x9
          have HOw := Lib.hid (show OwnC wr (w.heap.size + 2) (some ⟨g, 0, none⟩) n c3 (over cs lo (l.take ((yy + 1 - top) * W))) by rw [HW3.out, ← HRW.out]; exact ho)
          have HBw := Lib.hid hb
          clear xa x1 x9 ho hb
          go_wp2_with fail
          exact ⟨⟨yy + 1, by omega, by omega, by go_num, HXA.out, HXB.out, HX9.out, HOw.out, HBw.out⟩, by simp [intOf]; omega⟩
    · obtain rfl : yy = bot + 1 := by omega
      have HOw := Lib.hid (show OwnC wr (w.heap.size + 2) (some ⟨g, 0, none⟩) n c3 (over cs lo l) by rw [HEND.out, List.take_of_length_le (by rw [HLL.out]; exact Nat.le_refl _)] at ho; exact ho)
      have HBw := Lib.hid hb
      have q0 := x9.cell 0
      have q1 := x9.cell 1
      have q2 := x9.cell 2
      have p0 := x1.cell 0
      have p1 := x1.cell 1
      have p2 := x1.cell 2
      have g0 := x1.free 0
      have g1 := x1.free 1
      have g2 := x1.free 2
      clear x1 x9 xa ho hb
      go_wp2_with fail
      refine bodyPost_ret (v := .agg #[.int .i64 (W : Int), .int .i64 (H : Int), .slice (some ⟨g, 0, none⟩) n c3]) (by simp [results, Try.results123, go_sem, p0, p1, p2]) rfl (ansT HOL.out ?_ ?_)
      · exact (((HOw.out.setBox (w.heap.size + 1) 0 _ (by omega)).setBox (w.heap.size + 1) 1 _ (by omega)).setBox (w.heap.size + 1) 2 _ (by omega)).more (by omega)
      · exact ((HBw.out.setCell (by simp) _).setCell (by simp) _).setCell (by simp) _

set_option maxRecDepth 100000 in
set_option maxHeartbeats 6400000 in
theorem spec_GridRoll_hi (W H : Nat) (b o n c : Nat) (cs : List CellD) (top bot : Nat) (d : Int) (w : World) (hr : RdC w w.heap.size (some ⟨b, o, none⟩) cs) (hl : cs.length = n) (hn : n ≤ 1048576) (ho : okG (W : Int) (H : Int) cs = true) (htb : top ≤ bot) (hy : bot < H) (hW1 : 1 ≤ W) (hW : W ≤ 120) (hH : H ≤ 120) (hWH : n = W * H) (hd1 : (H : Int) < d) :
    Calls Try.prog 123 #[.agg #[.int .i64 (W : Int), .int .i64 (H : Int), .slice (some ⟨b, o, none⟩) n c], .int .i64 (top : Int), .int .i64 (bot : Int), .int .i64 d] w (AnsT w ((W : Int), (H : Int), over cs (top * W) (shiftL cs (top * W) ((bot + 1 - top) * W) (-((W : Int) * ((H : Int))))))) := by
  have hb0 := Lib.hid (((Below.refl w.heap.size w).alloc (Nat.le_refl _) (.cells #[.int .i64 (W : Int), .int .i64 (H : Int), .slice (some ⟨b, o, none⟩) n c] 32)).alloc (by simp) (.cells #[.int .i64 0, .int .i64 0, .slice none 0 0] 32))
  have HK := Lib.hid (spec_GridOk_any (W : Int) (H : Int) (some ⟨b, o, none⟩) n c cs _ ((hr.below (Nat.le_refl _) hb0.out).more (by simp; omega)) hl (by omega))
  have X0 := Lib.hid ((BoxG.new w #[.int .i64 (W : Int), .int .i64 (H : Int), .slice (some ⟨b, o, none⟩) n c]).below ((Below.refl _ _).alloc (Nat.le_refl _) (.cells #[.int .i64 0, .int .i64 0, .slice none 0 0] 32)) (by simp))
  have x1 := BoxG.new (w.alloc (.cells #[.int .i64 (W : Int), .int .i64 (H : Int), .slice (some ⟨b, o, none⟩) n c] 32)) #[.int .i64 0, .int .i64 0, .slice none 0 0]
  simp only [World.size_alloc] at x1
  have X1 := Lib.hid x1
  have HO := Lib.hid ho
  have hbot : (bot + 1) * W ≤ n := by
    have h1 : (bot + 1) * W ≤ H * W := Nat.mul_le_mul_right W hy
    rw [Nat.mul_comm H W] at h1; omega
  have htw : top * W ≤ (bot + 1) * W := Nat.mul_le_mul_right W (by omega)
  have hmm : (bot + 1 - top) * W = (bot + 1) * W - top * W := Nat.sub_mul _ _ _
  have HR := Lib.hid hr
  have HL := Lib.hid hl
  have HCP := Lib.hid (fun V (h : Below w.heap.size w V) => l07Copy_any (W : Int) (H : Int) (some ⟨b, o, none⟩) n c cs V (fun h => by cases h) ((HR.out.below (Nat.le_refl _) h).more h.size) HL.out (by omega))
  have hn0 : 0 < n := by have : 1 * W ≤ (bot + 1) * W := Nat.mul_le_mul_right W (by omega); omega
  have hbB : b < w.heap.size := by
    have hpos : 0 < cs.length := by rw [hl]; have : 1 * W ≤ (bot + 1) * W := Nat.mul_le_mul_right W (by omega); omega
    obtain ⟨_, _, h1, h2, _⟩ := hr.at_ (i := 0) hpos
    injection h1 with h1; injection h1 with h1; omega
  obtain ⟨lo, hlo⟩ : ∃ lo, lo = top * W := ⟨_, rfl⟩
  obtain ⟨m, hm⟩ : ∃ m, m = (bot + 1 - top) * W := ⟨_, rfl⟩
  obtain ⟨tw, htwe⟩ : ∃ tw, tw = (W : Int) * ((H : Int)) := ⟨_, rfl⟩
  have HLO := Lib.hid (show (top : Int) * (W : Int) = (lo : Int) by rw [hlo, Int.natCast_mul])
  have HLM := Lib.hid (show ((bot : Int) + 1) * (W : Int) = (lo : Int) + (m : Int) by
    have h1 : lo + m = (bot + 1) * W := by omega
    rw [← Int.natCast_add, h1, Int.natCast_mul]; rfl)
  have HTW := Lib.hid htwe
  have hlm : lo + m ≤ n := by omega
  rw [← hlo, ← hm, ← htwe]
  obtain ⟨l, hll⟩ : ∃ l, l = shiftL cs lo m (-tw) := ⟨_, rfl⟩
  have hlen : l.length = m := by rw [hll, shiftL_len]
  have HG := Lib.hid (fun (i : Nat) (h : i < m) => hll ▸ shiftL_get (cs := cs) (lo := lo) (m := m) (d := -tw) h)
  rw [← hll]
  have HOL := Lib.hid (show (over cs lo l).length = n by rw [over_len (by omega)]; exact hl)
  have HLL := Lib.hid hlen
  have HROW := Lib.hid (fun (yy : Nat) (h1 : top ≤ yy) (h2 : yy ≤ bot) => (show (yy - top) * W + W ≤ m ∧ yy * W = lo + (yy - top) * W ∧ (yy + 1 - top) * W = (yy - top) * W + W by
    have a1 : (yy + 1 - top) * W ≤ (bot + 1 - top) * W := Nat.mul_le_mul_right W (by omega)
    have a2 : (yy + 1 - top) * W = (yy - top) * W + W := by rw [show yy + 1 - top = (yy - top) + 1 by omega, Nat.add_mul, Nat.one_mul]
    have a3 : yy * W = top * W + (yy - top) * W := by rw [← Nat.add_mul, show top + (yy - top) = yy by omega]
    exact ⟨by omega, by omega, a2⟩))
  have HEND := Lib.hid (show (bot + 1 - top) * W = m from hm.symm)
  clear ho hr hl x1 hWH hll hlen hlo hm htwe hmm htw hbot
  go_enter Try.func123, Try.ntmps123
  go_wp2_with fail
  refine HK.out.mono ?_
  rintro e v1 ⟨rfl, hb1⟩
  rw [HO.out]
  have x0 := X0.out.below hb1 (by simp; omega)
  have X1a := Lib.hid (X1.out.below hb1 (by simp))
  have X0a := Lib.hid x0
  have HB1 := Lib.hid (hb0.out.trans (hb1.mono (by simp; omega)))
  have q0 := x0.cell 0
  have q1 := x0.cell 1
  have q2 := x0.cell 2
  have hz : w.heap.size + 1 < v1.heap.size := by have := hb1.size; simp at this; omega
  clear hb1 x0 X0 X1
  go_wp2_with fail
  refine (HCP.out _ HB1.out).mono ?_
  rintro e v3 ⟨A3, c3, rfl, ho3, hb3⟩
  obtain ⟨g, rfl⟩ := ho3.addr (by omega)
  have hcap := ho3.cap
  clear q0 q1 q2
  have hg := ho3.blk g rfl
  have HB3 := Lib.hid (HB1.out.trans (hb3.mono (by omega)))
  have hz3 : w.heap.size + 1 < v3.heap.size := by have := hb3.size; omega
  have hal := (Below.refl v3.heap.size v3).alloc (Nat.le_refl _) (.cells #[.int .i64 (W : Int), .int .i64 (H : Int), .slice (some ⟨g, 0, none⟩) n c3] 32)
  have X1c := Lib.hid ((X1a.out.below hb3 (by omega)).below hal (by omega))
  have X0c := Lib.hid ((X0a.out.below hb3 (by omega)).below hal (by omega))
  have X9 := Lib.hid (BoxG.new v3 #[.int .i64 (W : Int), .int .i64 (H : Int), .slice (some ⟨g, 0, none⟩) n c3])
  have HO3 := Lib.hid ((ho3.below (Nat.le_refl _) hal).more (base' := w.heap.size + 2) (by omega))
  have HB3a := Lib.hid (HB3.out.trans (hal.mono (by omega)))
  have hgn : g ≠ w.heap.size := by omega
  have hgn1 : g ≠ w.heap.size + 1 := by omega
  have hgn9 : g ≠ v3.heap.size := by omega
  have hgb : g ≠ b := by omega
  have hgw : w.heap.size ≤ g := by omega
  obtain ⟨b9, hb9⟩ : ∃ b9, b9 = v3.heap.size := ⟨_, rfl⟩
  have hb9w : w.heap.size + 1 < b9 := by omega
  have HB9 := Lib.hid hb9.symm
  clear hal hb3 ho3 X1a X0a HB3 hg hb9
  go_wp2_with fail
  go_loopw [10] (fun s wr => ∃ yy : Nat, top ≤ yy ∧ yy ≤ bot + 1 ∧ s = .int .i64 (yy : Int) ∧ BoxG wr w.heap.size #[.int .i64 (W : Int), .int .i64 (H : Int), .slice (some ⟨b, o, none⟩) n c] ∧ BoxG wr (w.heap.size + 1) #[.int .i64 0, .int .i64 0, .slice none 0 0] ∧ BoxG wr v3.heap.size #[.int .i64 (W : Int), .int .i64 (H : Int), .slice (some ⟨g, 0, none⟩) n c3] ∧ OwnC wr (w.heap.size + 2) (some ⟨g, 0, none⟩) n c3 (over cs lo (l.take ((yy - top) * W))) ∧ Below w.heap.size w wr) (fun s _ => bot + 1 - (intOf s).toNat)
  case atStart => exact ⟨top, Nat.le_refl _, by omega, rfl, X0c.out, X1c.out, X9.out, by rw [Nat.sub_self, Nat.zero_mul, List.take_zero, over_nil]; exact HO3.out, HB3a.out⟩
  case round =>
    clear X0c X1c X9 HO3 HB3a
    obtain ⟨yy, hty, hyb1, rfl, xa, x1, x9, ho, hb⟩ := hrel
    by_cases hlt : yy ≤ bot
    · obtain ⟨w1, w2, w3⟩ := HROW.out yy hty hlt
      have HW3 := Lib.hid w3
      obtain ⟨rw_, hrw⟩ : ∃ r, r = (yy - top) * W := ⟨_, rfl⟩
      obtain ⟨yw, hyw⟩ : ∃ r, r = yy * W := ⟨_, rfl⟩
      have HYW := Lib.hid (show (yy : Int) * (W : Int) = (yw : Int) by rw [hyw, Int.natCast_mul])
      have E1 := Lib.hid (show IntKind.i64.wrap ((yy : Int) * (W : Int)) = (yw : Int) by rw [← Int.natCast_mul, ← hyw]; exact IntWalk.i64_in _ (by omega))
      have hyl : yw = lo + rw_ := by omega
      have HRW := Lib.hid hrw
      rw [← hrw] at ho w1
      have HYL := Lib.hid hyl
      have hyl1 : yw ≤ lo + rw_ := by omega
      have hyl2 : lo + rw_ ≤ yw := by omega
      clear hrw hyw w2 w3 hyl
      obtain ⟨wo, rfl⟩ : ∃ wo : World, wo = wr := ⟨_, rfl⟩
      have XAo := Lib.hid xa
      have XBo := Lib.hid x1
      have X9o := Lib.hid x9
      have HOo := Lib.hid ho
      have HBo := Lib.hid hb
      clear xa x1 x9 ho hb
      go_wp2_with fail
      go_loopw [11] (fun s wr => ∃ xx : Nat, xx ≤ W ∧ s = .int .i64 (xx : Int) ∧ BoxG wr w.heap.size #[.int .i64 (W : Int), .int .i64 (H : Int), .slice (some ⟨b, o, none⟩) n c] ∧ BoxG wr (w.heap.size + 1) #[.int .i64 0, .int .i64 0, .slice none 0 0] ∧ BoxG wr v3.heap.size #[.int .i64 (W : Int), .int .i64 (H : Int), .slice (some ⟨g, 0, none⟩) n c3] ∧ OwnC wr (w.heap.size + 2) (some ⟨g, 0, none⟩) n c3 (over cs lo (l.take (rw_ + xx))) ∧ Below w.heap.size w wr) (fun s _ => W - (intOf s).toNat)
      case atStart => exact ⟨0, Nat.zero_le _, rfl, XAo.out, XBo.out, X9o.out, HOo.out, HBo.out⟩
      case round =>
        clear XAo XBo X9o HOo HBo
        obtain ⟨xx, hxW, rfl, xa, x1, x9, ho, hb⟩ := hrel
        have la := xa.lt
        have l9 := x9.lt
        have a0 : wr.cell? ⟨w.heap.size, 0, none⟩ = some (.int .i64 (W : Int)) := xa.cell 0
        by_cases hxl : xx < W
        · have q9 : wr.cell? ⟨v3.heap.size, 2, none⟩ = some (.slice (some ⟨g, 0, none⟩) n c3) := x9.cell 2
          obtain ⟨p, hp⟩ : ∃ p, p = yw + xx := ⟨_, rfl⟩
          have E2 := Lib.hid (show IntKind.i64.wrap ((yw : Int) + (xx : Int)) = (p : Int) by rw [hp, Int.natCast_add]; exact IntWalk.i64_in _ (by omega))
          have hpn : p < n := by omega
          have hp0 : (0 : Int) ≤ (p : Int) := by omega
          have hp1 : (p : Int) < (n : Int) := by omega
          have T0 := Lib.hid (show p * 6 < n * 6 by omega)
          have T1 := Lib.hid (show p * 6 + 1 < n * 6 by omega)
          have T2 := Lib.hid (show p * 6 + 2 < n * 6 by omega)
          have T3 := Lib.hid (show p * 6 + 3 < n * 6 by omega)
          have T4 := Lib.hid (show p * 6 + 4 < n * 6 by omega)
          have T5 := Lib.hid (show p * 6 + 5 < n * 6 by omega)
          have hll : (over cs lo (l.take (rw_ + xx))).length = n := by rw [over_len (by rw [List.length_take, HLL.out, HL.out]; omega)]; exact HL.out
          have HP := Lib.hid (show p = lo + (rw_ + xx) by omega)
          have XA := Lib.hid xa
          have XB := Lib.hid x1
          have X9 := Lib.hid x9
          have HOw := Lib.hid ho
          have HBw := Lib.hid hb
          have HLn := Lib.hid hll
          clear xa x1 x9 ho hb hll hp
          have e1 := E1.out
          have e2 := E2.out
          go_wp2_with fail
          go_region_held3 (fun w' => w'.cell? ⟨w.heap.size, 0, none⟩ = some (.int .i64 (W : Int)) ∧ w'.cell? ⟨v3.heap.size, 2, none⟩ = some (.slice (some ⟨g, 0, none⟩) n c3)) (go_keep)
            ((go_at_call 108; (with_reducible refine (blank_any _).mono ?_); rintro e v ⟨rfl, hv'⟩; have hv : Below wr.heap.size wr v := undrew hv'; have a0' := (hv.cell (p := ⟨w.heap.size, 0, none⟩) la).trans a0; have q9' := (hv.cell (p := ⟨v3.heap.size, 2, none⟩) l9).trans q9; have HOv := Lib.hid (HOw.out.below (Nat.le_refl _) hv); obtain ⟨u0, hu0⟩ := own_there HOv.out (p * 6) T0.out; have f0 := World.ownsRow.frozenAt (h := HOv.out) (p * 6); obtain ⟨u1, hu1⟩ := own_there HOv.out (p * 6 + 1) T1.out; have f1 := World.ownsRow.frozenAt (h := HOv.out) (p * 6 + 1); obtain ⟨u2, hu2⟩ := own_there HOv.out (p * 6 + 2) T2.out; have f2 := World.ownsRow.frozenAt (h := HOv.out) (p * 6 + 2); obtain ⟨u3, hu3⟩ := own_there HOv.out (p * 6 + 3) T3.out; have f3 := World.ownsRow.frozenAt (h := HOv.out) (p * 6 + 3); obtain ⟨u4, hu4⟩ := own_there HOv.out (p * 6 + 4) T4.out; have f4 := World.ownsRow.frozenAt (h := HOv.out) (p * 6 + 4); obtain ⟨u5, hu5⟩ := own_there HOv.out (p * 6 + 5) T5.out; have f5 := World.ownsRow.frozenAt (h := HOv.out) (p * 6 + 5); have HV := Lib.hid hv; clear hv hv'))
          clear e1 e2
          obtain ⟨V, hV⟩ : ∃ V, V = ((((((v.setCell ⟨g, p * 6, none⟩ (.int .i64 32)).setCell ⟨g, p * 6 + 1, none⟩ (.int .i64 0)).setCell ⟨g, p * 6 + 2, none⟩ (.int .i64 0)).setCell ⟨g, p * 6 + 3, none⟩ (.bool false)).setCell ⟨g, p * 6 + 4, none⟩ (.bool false)).setCell ⟨g, p * 6 + 5, none⟩ (.bool false)) := ⟨_, rfl⟩
          have XAV := Lib.hid (show BoxG V w.heap.size #[.int .i64 (W : Int), .int .i64 (H : Int), .slice (some ⟨b, o, none⟩) n c] by rw [hV]; exact (XA.out.below HV.out la).only6 (Ne.symm hgn) _ _ _ _ _ _ _ _ _ _ _ _)
          have XBV := Lib.hid (show BoxG V (w.heap.size + 1) #[.int .i64 0, .int .i64 0, .slice none 0 0] by rw [hV]; exact (XB.out.below HV.out XB.out.lt).only6 (Ne.symm hgn1) _ _ _ _ _ _ _ _ _ _ _ _)
          have X9V := Lib.hid (show BoxG V v3.heap.size #[.int .i64 (W : Int), .int .i64 (H : Int), .slice (some ⟨g, 0, none⟩) n c3] by rw [hV]; exact (X9.out.below HV.out l9).only6 (Ne.symm hgn9) _ _ _ _ _ _ _ _ _ _ _ _)
          have HOV := Lib.hid (show OwnC V (w.heap.size + 2) (some ⟨g, 0, none⟩) n c3 ((over cs lo (l.take (rw_ + xx))).set p blankC) by rw [hV]; exact own_setC HOv.out p (by rw [HLn.out]; exact hpn) blankC)
          have HBV := Lib.hid (show Below w.heap.size w V by rw [hV]; exact below6 (HBw.out.trans (HV.out.mono (by omega))) hgw _ _ _ _ _ _ _ _ _ _ _ _)
          have HVV := Lib.hid hV.symm
          rw [HVV.out]
          clear hV a0 q9 a0' q9' hu0 hu1 hu2 hu3 hu4 hu5 f0 f1 f2 f3 f4 f5
          have a0 : V.cell? ⟨w.heap.size, 0, none⟩ = some (.int .i64 (W : Int)) := XAV.out.cell 0
          have hk : (lo : Int) + (m : Int) ≤ (yw : Int) + tw := by
            have h1 := mulW (W := (W : Int)) (show (bot : Int) + 1 ≤ (yy : Int) + ((H : Int)) by omega) (by omega)
            rw [Int.add_mul (yy : Int), HYW.out, HLM.out, Int.mul_comm ((H : Int)) (W : Int), ← HTW.out] at h1; omega
          have HZ := Lib.hid (show l[rw_ + xx]? = some blankC by rw [HG.out (rw_ + xx) (by omega), if_neg (by omega)])
          have t1 : decide ((top : Int) ≤ (yy : Int) + (H : Int)) = true := decide_eq_true (by omega)
          have t2 : decide ((yy : Int) + (H : Int) ≤ (bot : Int)) = false := decide_eq_false (by omega)
          have t3 : top ≤ yy + H := by omega
          have t4 : bot < yy + H := by omega
          have t5 : (bot : Int) < (yy : Int) + (H : Int) := by omega
          have t6 : (top : Int) ≤ (yy : Int) + (H : Int) := by omega
          go_wp2_with fail
          refine ⟨⟨xx + 1, by omega, by go_num, XAV.out, XBV.out, X9V.out, ?_, HBV.out⟩, by simp [intOf]; omega⟩
          have h := HOV.out
          rw [HP.out, over_next (by rw [HLL.out, HL.out]; omega) HZ.out, show rw_ + xx + 1 = rw_ + (xx + 1) by omega] at h
          exact h
        · obtain rfl : W = xx := by omega
          have HXA := Lib.hid xa
          have HXB := Lib.hid x1
          have HX9 := Lib.hid x9
          have HOw := Lib.hid (show OwnC wr (w.heap.size + 2) (some ⟨g, 0, none⟩) n c3 (over cs lo (l.take ((yy + 1 - top) * W))) by rw [HW3.out, ← HRW.out]; exact ho)
          have HBw := Lib.hid hb
          clear xa x1 x9 ho hb
          go_wp2_with fail
          exact ⟨⟨yy + 1, by omega, by omega, by go_num, HXA.out, HXB.out, HX9.out, HOw.out, HBw.out⟩, by simp [intOf]; omega⟩
    · obtain rfl : yy = bot + 1 := by omega
      have HOw := Lib.hid (show OwnC wr (w.heap.size + 2) (some ⟨g, 0, none⟩) n c3 (over cs lo l) by rw [HEND.out, List.take_of_length_le (by rw [HLL.out]; exact Nat.le_refl _)] at ho; exact ho)
      have HBw := Lib.hid hb
      have q0 := x9.cell 0
      have q1 := x9.cell 1
      have q2 := x9.cell 2
      have p0 := x1.cell 0
      have p1 := x1.cell 1
      have p2 := x1.cell 2
      have g0 := x1.free 0
      have g1 := x1.free 1
      have g2 := x1.free 2
      clear x1 x9 xa ho hb
      go_wp2_with fail
      refine bodyPost_ret (v := .agg #[.int .i64 (W : Int), .int .i64 (H : Int), .slice (some ⟨g, 0, none⟩) n c3]) (by simp [results, Try.results123, go_sem, p0, p1, p2]) rfl (ansT HOL.out ?_ ?_)
      · exact (((HOw.out.setBox (w.heap.size + 1) 0 _ (by omega)).setBox (w.heap.size + 1) 1 _ (by omega)).setBox (w.heap.size + 1) 2 _ (by omega)).more (by omega)
      · exact ((HBw.out.setCell (by simp) _).setCell (by simp) _).setCell (by simp) _

set_option maxRecDepth 100000 in
set_option maxHeartbeats 6400000 in
theorem spec_GridRoll_lo (W H : Nat) (b o n c : Nat) (cs : List CellD) (top bot : Nat) (d : Int) (w : World) (hr : RdC w w.heap.size (some ⟨b, o, none⟩) cs) (hl : cs.length = n) (hn : n ≤ 1048576) (ho : okG (W : Int) (H : Int) cs = true) (htb : top ≤ bot) (hy : bot < H) (hW1 : 1 ≤ W) (hW : W ≤ 120) (hH : H ≤ 120) (hWH : n = W * H) (hd1 : d < -(H : Int)) :
    Calls Try.prog 123 #[.agg #[.int .i64 (W : Int), .int .i64 (H : Int), .slice (some ⟨b, o, none⟩) n c], .int .i64 (top : Int), .int .i64 (bot : Int), .int .i64 d] w (AnsT w ((W : Int), (H : Int), over cs (top * W) (shiftL cs (top * W) ((bot + 1 - top) * W) (-((W : Int) * (-(H : Int))))))) := by
  have hb0 := Lib.hid (((Below.refl w.heap.size w).alloc (Nat.le_refl _) (.cells #[.int .i64 (W : Int), .int .i64 (H : Int), .slice (some ⟨b, o, none⟩) n c] 32)).alloc (by simp) (.cells #[.int .i64 0, .int .i64 0, .slice none 0 0] 32))
  have HK := Lib.hid (spec_GridOk_any (W : Int) (H : Int) (some ⟨b, o, none⟩) n c cs _ ((hr.below (Nat.le_refl _) hb0.out).more (by simp; omega)) hl (by omega))
  have X0 := Lib.hid ((BoxG.new w #[.int .i64 (W : Int), .int .i64 (H : Int), .slice (some ⟨b, o, none⟩) n c]).below ((Below.refl _ _).alloc (Nat.le_refl _) (.cells #[.int .i64 0, .int .i64 0, .slice none 0 0] 32)) (by simp))
  have x1 := BoxG.new (w.alloc (.cells #[.int .i64 (W : Int), .int .i64 (H : Int), .slice (some ⟨b, o, none⟩) n c] 32)) #[.int .i64 0, .int .i64 0, .slice none 0 0]
  simp only [World.size_alloc] at x1
  have X1 := Lib.hid x1
  have HO := Lib.hid ho
  have hbot : (bot + 1) * W ≤ n := by
    have h1 : (bot + 1) * W ≤ H * W := Nat.mul_le_mul_right W hy
    rw [Nat.mul_comm H W] at h1; omega
  have htw : top * W ≤ (bot + 1) * W := Nat.mul_le_mul_right W (by omega)
  have hmm : (bot + 1 - top) * W = (bot + 1) * W - top * W := Nat.sub_mul _ _ _
  have HR := Lib.hid hr
  have HL := Lib.hid hl
  have HCP := Lib.hid (fun V (h : Below w.heap.size w V) => l07Copy_any (W : Int) (H : Int) (some ⟨b, o, none⟩) n c cs V (fun h => by cases h) ((HR.out.below (Nat.le_refl _) h).more h.size) HL.out (by omega))
  have hn0 : 0 < n := by have : 1 * W ≤ (bot + 1) * W := Nat.mul_le_mul_right W (by omega); omega
  have hbB : b < w.heap.size := by
    have hpos : 0 < cs.length := by rw [hl]; have : 1 * W ≤ (bot + 1) * W := Nat.mul_le_mul_right W (by omega); omega
    obtain ⟨_, _, h1, h2, _⟩ := hr.at_ (i := 0) hpos
    injection h1 with h1; injection h1 with h1; omega
  obtain ⟨lo, hlo⟩ : ∃ lo, lo = top * W := ⟨_, rfl⟩
  obtain ⟨m, hm⟩ : ∃ m, m = (bot + 1 - top) * W := ⟨_, rfl⟩
  obtain ⟨tw, htwe⟩ : ∃ tw, tw = (W : Int) * (-(H : Int)) := ⟨_, rfl⟩
  have HLO := Lib.hid (show (top : Int) * (W : Int) = (lo : Int) by rw [hlo, Int.natCast_mul])
  have HLM := Lib.hid (show ((bot : Int) + 1) * (W : Int) = (lo : Int) + (m : Int) by
    have h1 : lo + m = (bot + 1) * W := by omega
    rw [← Int.natCast_add, h1, Int.natCast_mul]; rfl)
  have HTW := Lib.hid htwe
  have hlm : lo + m ≤ n := by omega
  rw [← hlo, ← hm, ← htwe]
  obtain ⟨l, hll⟩ : ∃ l, l = shiftL cs lo m (-tw) := ⟨_, rfl⟩
  have hlen : l.length = m := by rw [hll, shiftL_len]
  have HG := Lib.hid (fun (i : Nat) (h : i < m) => hll ▸ shiftL_get (cs := cs) (lo := lo) (m := m) (d := -tw) h)
  rw [← hll]
  have HOL := Lib.hid (show (over cs lo l).length = n by rw [over_len (by omega)]; exact hl)
  have HLL := Lib.hid hlen
  have HROW := Lib.hid (fun (yy : Nat) (h1 : top ≤ yy) (h2 : yy ≤ bot) => (show (yy - top) * W + W ≤ m ∧ yy * W = lo + (yy - top) * W ∧ (yy + 1 - top) * W = (yy - top) * W + W by
    have a1 : (yy + 1 - top) * W ≤ (bot + 1 - top) * W := Nat.mul_le_mul_right W (by omega)
    have a2 : (yy + 1 - top) * W = (yy - top) * W + W := by rw [show yy + 1 - top = (yy - top) + 1 by omega, Nat.add_mul, Nat.one_mul]
    have a3 : yy * W = top * W + (yy - top) * W := by rw [← Nat.add_mul, show top + (yy - top) = yy by omega]
    exact ⟨by omega, by omega, a2⟩))
  have HEND := Lib.hid (show (bot + 1 - top) * W = m from hm.symm)
  clear ho hr hl x1 hWH hll hlen hlo hm htwe hmm htw hbot
  go_enter Try.func123, Try.ntmps123
  go_wp2_with fail
  refine HK.out.mono ?_
  rintro e v1 ⟨rfl, hb1⟩
  rw [HO.out]
  have x0 := X0.out.below hb1 (by simp; omega)
  have X1a := Lib.hid (X1.out.below hb1 (by simp))
  have X0a := Lib.hid x0
  have HB1 := Lib.hid (hb0.out.trans (hb1.mono (by simp; omega)))
  have q0 := x0.cell 0
  have q1 := x0.cell 1
  have q2 := x0.cell 2
  have hz : w.heap.size + 1 < v1.heap.size := by have := hb1.size; simp at this; omega
  clear hb1 x0 X0 X1
  go_wp2_with fail
  refine (HCP.out _ HB1.out).mono ?_
  rintro e v3 ⟨A3, c3, rfl, ho3, hb3⟩
  obtain ⟨g, rfl⟩ := ho3.addr (by omega)
  have hcap := ho3.cap
  clear q0 q1 q2
  have hg := ho3.blk g rfl
  have HB3 := Lib.hid (HB1.out.trans (hb3.mono (by omega)))
  have hz3 : w.heap.size + 1 < v3.heap.size := by have := hb3.size; omega
  have hal := (Below.refl v3.heap.size v3).alloc (Nat.le_refl _) (.cells #[.int .i64 (W : Int), .int .i64 (H : Int), .slice (some ⟨g, 0, none⟩) n c3] 32)
  have X1c := Lib.hid ((X1a.out.below hb3 (by omega)).below hal (by omega))
  have X0c := Lib.hid ((X0a.out.below hb3 (by omega)).below hal (by omega))
  have X9 := Lib.hid (BoxG.new v3 #[.int .i64 (W : Int), .int .i64 (H : Int), .slice (some ⟨g, 0, none⟩) n c3])
  have HO3 := Lib.hid ((ho3.below (Nat.le_refl _) hal).more (base' := w.heap.size + 2) (by omega))
  have HB3a := Lib.hid (HB3.out.trans (hal.mono (by omega)))
  have hgn : g ≠ w.heap.size := by omega
  have hgn1 : g ≠ w.heap.size + 1 := by omega
  have hgn9 : g ≠ v3.heap.size := by omega
  have hgb : g ≠ b := by omega
  have hgw : w.heap.size ≤ g := by omega
  obtain ⟨b9, hb9⟩ : ∃ b9, b9 = v3.heap.size := ⟨_, rfl⟩
  have hb9w : w.heap.size + 1 < b9 := by omega
  have HB9 := Lib.hid hb9.symm
  clear hal hb3 ho3 X1a X0a HB3 hg hb9
  go_wp2_with fail
  go_loopw [10] (fun s wr => ∃ yy : Nat, top ≤ yy ∧ yy ≤ bot + 1 ∧ s = .int .i64 (yy : Int) ∧ BoxG wr w.heap.size #[.int .i64 (W : Int), .int .i64 (H : Int), .slice (some ⟨b, o, none⟩) n c] ∧ BoxG wr (w.heap.size + 1) #[.int .i64 0, .int .i64 0, .slice none 0 0] ∧ BoxG wr v3.heap.size #[.int .i64 (W : Int), .int .i64 (H : Int), .slice (some ⟨g, 0, none⟩) n c3] ∧ OwnC wr (w.heap.size + 2) (some ⟨g, 0, none⟩) n c3 (over cs lo (l.take ((yy - top) * W))) ∧ Below w.heap.size w wr) (fun s _ => bot + 1 - (intOf s).toNat)
  case atStart => exact ⟨top, Nat.le_refl _, by omega, rfl, X0c.out, X1c.out, X9.out, by rw [Nat.sub_self, Nat.zero_mul, List.take_zero, over_nil]; exact HO3.out, HB3a.out⟩
  case round =>
    clear X0c X1c X9 HO3 HB3a
    obtain ⟨yy, hty, hyb1, rfl, xa, x1, x9, ho, hb⟩ := hrel
    by_cases hlt : yy ≤ bot
    · obtain ⟨w1, w2, w3⟩ := HROW.out yy hty hlt
      have HW3 := Lib.hid w3
      obtain ⟨rw_, hrw⟩ : ∃ r, r = (yy - top) * W := ⟨_, rfl⟩
      obtain ⟨yw, hyw⟩ : ∃ r, r = yy * W := ⟨_, rfl⟩
      have HYW := Lib.hid (show (yy : Int) * (W : Int) = (yw : Int) by rw [hyw, Int.natCast_mul])
      have E1 := Lib.hid (show IntKind.i64.wrap ((yy : Int) * (W : Int)) = (yw : Int) by rw [← Int.natCast_mul, ← hyw]; exact IntWalk.i64_in _ (by omega))
      have hyl : yw = lo + rw_ := by omega
      have HRW := Lib.hid hrw
      rw [← hrw] at ho w1
      have HYL := Lib.hid hyl
      have hyl1 : yw ≤ lo + rw_ := by omega
      have hyl2 : lo + rw_ ≤ yw := by omega
      clear hrw hyw w2 w3 hyl
      obtain ⟨wo, rfl⟩ : ∃ wo : World, wo = wr := ⟨_, rfl⟩
      have XAo := Lib.hid xa
      have XBo := Lib.hid x1
      have X9o := Lib.hid x9
      have HOo := Lib.hid ho
      have HBo := Lib.hid hb
      clear xa x1 x9 ho hb
      go_wp2_with fail
      go_loopw [11] (fun s wr => ∃ xx : Nat, xx ≤ W ∧ s = .int .i64 (xx : Int) ∧ BoxG wr w.heap.size #[.int .i64 (W : Int), .int .i64 (H : Int), .slice (some ⟨b, o, none⟩) n c] ∧ BoxG wr (w.heap.size + 1) #[.int .i64 0, .int .i64 0, .slice none 0 0] ∧ BoxG wr v3.heap.size #[.int .i64 (W : Int), .int .i64 (H : Int), .slice (some ⟨g, 0, none⟩) n c3] ∧ OwnC wr (w.heap.size + 2) (some ⟨g, 0, none⟩) n c3 (over cs lo (l.take (rw_ + xx))) ∧ Below w.heap.size w wr) (fun s _ => W - (intOf s).toNat)
      case atStart => exact ⟨0, Nat.zero_le _, rfl, XAo.out, XBo.out, X9o.out, HOo.out, HBo.out⟩
      case round =>
        clear XAo XBo X9o HOo HBo
        obtain ⟨xx, hxW, rfl, xa, x1, x9, ho, hb⟩ := hrel
        have la := xa.lt
        have l9 := x9.lt
        have a0 : wr.cell? ⟨w.heap.size, 0, none⟩ = some (.int .i64 (W : Int)) := xa.cell 0
        by_cases hxl : xx < W
        · have q9 : wr.cell? ⟨v3.heap.size, 2, none⟩ = some (.slice (some ⟨g, 0, none⟩) n c3) := x9.cell 2
          obtain ⟨p, hp⟩ : ∃ p, p = yw + xx := ⟨_, rfl⟩
          have E2 := Lib.hid (show IntKind.i64.wrap ((yw : Int) + (xx : Int)) = (p : Int) by rw [hp, Int.natCast_add]; exact IntWalk.i64_in _ (by omega))
          have hpn : p < n := by omega
          have hp0 : (0 : Int) ≤ (p : Int) := by omega
          have hp1 : (p : Int) < (n : Int) := by omega
          have T0 := Lib.hid (show p * 6 < n * 6 by omega)
          have T1 := Lib.hid (show p * 6 + 1 < n * 6 by omega)
          have T2 := Lib.hid (show p * 6 + 2 < n * 6 by omega)
          have T3 := Lib.hid (show p * 6 + 3 < n * 6 by omega)
          have T4 := Lib.hid (show p * 6 + 4 < n * 6 by omega)
          have T5 := Lib.hid (show p * 6 + 5 < n * 6 by omega)
          have hll : (over cs lo (l.take (rw_ + xx))).length = n := by rw [over_len (by rw [List.length_take, HLL.out, HL.out]; omega)]; exact HL.out
          have HP := Lib.hid (show p = lo + (rw_ + xx) by omega)
          have XA := Lib.hid xa
          have XB := Lib.hid x1
          have X9 := Lib.hid x9
          have HOw := Lib.hid ho
          have HBw := Lib.hid hb
          have HLn := Lib.hid hll
          clear xa x1 x9 ho hb hll hp
          have e1 := E1.out
          have e2 := E2.out
          go_wp2_with fail
          go_region_held3 (fun w' => w'.cell? ⟨w.heap.size, 0, none⟩ = some (.int .i64 (W : Int)) ∧ w'.cell? ⟨v3.heap.size, 2, none⟩ = some (.slice (some ⟨g, 0, none⟩) n c3)) (go_keep)
            ((go_at_call 108; (with_reducible refine (blank_any _).mono ?_); rintro e v ⟨rfl, hv'⟩; have hv : Below wr.heap.size wr v := undrew hv'; have a0' := (hv.cell (p := ⟨w.heap.size, 0, none⟩) la).trans a0; have q9' := (hv.cell (p := ⟨v3.heap.size, 2, none⟩) l9).trans q9; have HOv := Lib.hid (HOw.out.below (Nat.le_refl _) hv); obtain ⟨u0, hu0⟩ := own_there HOv.out (p * 6) T0.out; have f0 := World.ownsRow.frozenAt (h := HOv.out) (p * 6); obtain ⟨u1, hu1⟩ := own_there HOv.out (p * 6 + 1) T1.out; have f1 := World.ownsRow.frozenAt (h := HOv.out) (p * 6 + 1); obtain ⟨u2, hu2⟩ := own_there HOv.out (p * 6 + 2) T2.out; have f2 := World.ownsRow.frozenAt (h := HOv.out) (p * 6 + 2); obtain ⟨u3, hu3⟩ := own_there HOv.out (p * 6 + 3) T3.out; have f3 := World.ownsRow.frozenAt (h := HOv.out) (p * 6 + 3); obtain ⟨u4, hu4⟩ := own_there HOv.out (p * 6 + 4) T4.out; have f4 := World.ownsRow.frozenAt (h := HOv.out) (p * 6 + 4); obtain ⟨u5, hu5⟩ := own_there HOv.out (p * 6 + 5) T5.out; have f5 := World.ownsRow.frozenAt (h := HOv.out) (p * 6 + 5); have HV := Lib.hid hv; clear hv hv'))
          clear e1 e2
          obtain ⟨V, hV⟩ : ∃ V, V = ((((((v.setCell ⟨g, p * 6, none⟩ (.int .i64 32)).setCell ⟨g, p * 6 + 1, none⟩ (.int .i64 0)).setCell ⟨g, p * 6 + 2, none⟩ (.int .i64 0)).setCell ⟨g, p * 6 + 3, none⟩ (.bool false)).setCell ⟨g, p * 6 + 4, none⟩ (.bool false)).setCell ⟨g, p * 6 + 5, none⟩ (.bool false)) := ⟨_, rfl⟩
          have XAV := Lib.hid (show BoxG V w.heap.size #[.int .i64 (W : Int), .int .i64 (H : Int), .slice (some ⟨b, o, none⟩) n c] by rw [hV]; exact (XA.out.below HV.out la).only6 (Ne.symm hgn) _ _ _ _ _ _ _ _ _ _ _ _)
          have XBV := Lib.hid (show BoxG V (w.heap.size + 1) #[.int .i64 0, .int .i64 0, .slice none 0 0] by rw [hV]; exact (XB.out.below HV.out XB.out.lt).only6 (Ne.symm hgn1) _ _ _ _ _ _ _ _ _ _ _ _)
          have X9V := Lib.hid (show BoxG V v3.heap.size #[.int .i64 (W : Int), .int .i64 (H : Int), .slice (some ⟨g, 0, none⟩) n c3] by rw [hV]; exact (X9.out.below HV.out l9).only6 (Ne.symm hgn9) _ _ _ _ _ _ _ _ _ _ _ _)
          have HOV := Lib.hid (show OwnC V (w.heap.size + 2) (some ⟨g, 0, none⟩) n c3 ((over cs lo (l.take (rw_ + xx))).set p blankC) by rw [hV]; exact own_setC HOv.out p (by rw [HLn.out]; exact hpn) blankC)
          have HBV := Lib.hid (show Below w.heap.size w V by rw [hV]; exact below6 (HBw.out.trans (HV.out.mono (by omega))) hgw _ _ _ _ _ _ _ _ _ _ _ _)
          have HVV := Lib.hid hV.symm
          rw [HVV.out]
          clear hV a0 q9 a0' q9' hu0 hu1 hu2 hu3 hu4 hu5 f0 f1 f2 f3 f4 f5
          have a0 : V.cell? ⟨w.heap.size, 0, none⟩ = some (.int .i64 (W : Int)) := XAV.out.cell 0
          have hk : (yw : Int) + tw ≤ (lo : Int) - (W : Int) := by
            have h1 := mulW (W := (W : Int)) (show (yy : Int) + (-(H : Int)) + 1 ≤ (top : Int) by omega) (by omega)
            rw [Int.add_mul, Int.add_mul, HYW.out, HLO.out, Int.mul_comm (-(H : Int)) (W : Int), ← HTW.out] at h1; omega
          have HZ := Lib.hid (show l[rw_ + xx]? = some blankC by rw [HG.out (rw_ + xx) (by omega), if_neg (by omega)])
          have t1 : decide ((top : Int) ≤ (yy : Int) + -(H : Int)) = false := decide_eq_false (by omega)
          have t2 : (yy : Int) + -(H : Int) < (top : Int) := by omega
          have t3 : decide ((top : Int) ≤ (yy : Int) - (H : Int)) = false := decide_eq_false (by omega)
          go_wp2_with fail
          refine ⟨⟨xx + 1, by omega, by go_num, XAV.out, XBV.out, X9V.out, ?_, HBV.out⟩, by simp [intOf]; omega⟩
          have h := HOV.out
          rw [HP.out, over_next (by rw [HLL.out, HL.out]; omega) HZ.out, show rw_ + xx + 1 = rw_ + (xx + 1) by omega] at h
          exact h
        · obtain rfl : W = xx := by omega
          have HXA := Lib.hid xa
          have HXB := Lib.hid x1
          have HX9 := Lib.hid x9
          have HOw := Lib.hid (show OwnC wr (w.heap.size + 2) (some ⟨g, 0, none⟩) n c3 (over cs lo (l.take ((yy + 1 - top) * W))) by rw [HW3.out, ← HRW.out]; exact ho)
          have HBw := Lib.hid hb
          clear xa x1 x9 ho hb
          go_wp2_with fail
          exact ⟨⟨yy + 1, by omega, by omega, by go_num, HXA.out, HXB.out, HX9.out, HOw.out, HBw.out⟩, by simp [intOf]; omega⟩
    · obtain rfl : yy = bot + 1 := by omega
      have HOw := Lib.hid (show OwnC wr (w.heap.size + 2) (some ⟨g, 0, none⟩) n c3 (over cs lo l) by rw [HEND.out, List.take_of_length_le (by rw [HLL.out]; exact Nat.le_refl _)] at ho; exact ho)
      have HBw := Lib.hid hb
      have q0 := x9.cell 0
      have q1 := x9.cell 1
      have q2 := x9.cell 2
      have p0 := x1.cell 0
      have p1 := x1.cell 1
      have p2 := x1.cell 2
      have g0 := x1.free 0
      have g1 := x1.free 1
      have g2 := x1.free 2
      clear x1 x9 xa ho hb
      go_wp2_with fail
      refine bodyPost_ret (v := .agg #[.int .i64 (W : Int), .int .i64 (H : Int), .slice (some ⟨g, 0, none⟩) n c3]) (by simp [results, Try.results123, go_sem, p0, p1, p2]) rfl (ansT HOL.out ?_ ?_)
      · exact (((HOw.out.setBox (w.heap.size + 1) 0 _ (by omega)).setBox (w.heap.size + 1) 1 _ (by omega)).setBox (w.heap.size + 1) 2 _ (by omega)).more (by omega)
      · exact ((HBw.out.setCell (by simp) _).setCell (by simp) _).setCell (by simp) _
end Go.Proofs.Ythlpchojlddnbaa.Gr
namespace Go.Proofs.Ythlpchojlddnbaa.Gr
open Go.RowKit Go.Proofs.Ythlpchojlddnbaa.Bytes Go.Proofs.Ythlpchojlddnbaa.Rows_ Go.Proofs.Ythlpchojlddnbaa.RowK
set_option linter.unusedVariables false
set_option maxRecDepth 100000 in
set_option maxHeartbeats 1600000 in
theorem spec_GridRoll_no (gw gh : Int) (A : Option Addr) (n c : Nat) (cs : List CellD) (top bot d : Int) (w : World) (hr : RdC w w.heap.size A cs) (hl : cs.length = n) (hn : n ≤ 1099511627776) (hno : (okG gw gh cs && inR gh top bot) = false) :
    Calls Try.prog 123 #[.agg #[.int .i64 gw, .int .i64 gh, .slice A n c], .int .i64 top, .int .i64 bot, .int .i64 d] w (AnsT w zeroT) := by
  have hb0 := Lib.hid (((Below.refl w.heap.size w).alloc (Nat.le_refl _) (.cells #[.int .i64 gw, .int .i64 gh, .slice A n c] 32)).alloc (by simp) (.cells #[.int .i64 0, .int .i64 0, .slice none 0 0] 32))
  have HK := Lib.hid (spec_GridOk_any gw gh A n c cs _ ((hr.below (Nat.le_refl _) hb0.out).more (by simp; omega)) hl hn)
  clear hr hl
  have s1 : w.heap.size < w.heap.size + 1 + 1 := by omega
  have s2 : w.heap.size + 1 < w.heap.size + 1 + 1 := by omega
  cases ho : okG gw gh cs
  · have HO := Lib.hid ho
    clear ho hno
    go_enter Try.func123, Try.ntmps123
    go_wp2_with fail
    refine HK.out.mono ?_
    rintro e v1 ⟨rfl, hb1⟩
    rw [HO.out]
    obtain ⟨hc, hf⟩ := Rows_.bcell hb1
    have HB1 := Lib.hid (hb0.out.trans (hb1.mono (by simp; omega)))
    have hz : w.heap.size + 1 < v1.heap.size := by have := hb1.size; simp at this; omega
    have hz0 : w.heap.size < v1.heap.size := by omega
    clear hb1
    go_wp2_with fail
    refine bodyPost_ret (v := .agg #[.int .i64 0, .int .i64 0, .slice none 0 0]) (by simp [results, Try.results123, go_sem, hc]) rfl (ansZero ?_)
    exact ((HB1.out.setCell (by simp) _).setCell (by simp) _).setCell (by simp) _
  · rw [ho, Bool.true_and] at hno
    have HO := Lib.hid ho
    have hno' : ¬ (0 ≤ top ∧ top ≤ bot ∧ bot < gh) := of_decide_eq_false hno
    clear ho hno
    by_cases h1 : 0 ≤ top
    · by_cases h2 : top ≤ bot
      · have h3 : gh ≤ bot := by omega
        clear hno'
        go_enter Try.func123, Try.ntmps123
        go_wp2_with fail
        refine HK.out.mono ?_
        rintro e v1 ⟨rfl, hb1⟩
        rw [HO.out]
        obtain ⟨hc, hf⟩ := Rows_.bcell hb1
        have HB1 := Lib.hid (hb0.out.trans (hb1.mono (by simp; omega)))
        have hz : w.heap.size + 1 < v1.heap.size := by have := hb1.size; simp at this; omega
        have hz0 : w.heap.size < v1.heap.size := by omega
        clear hb1
        go_wp2_with fail
        refine bodyPost_ret (v := .agg #[.int .i64 0, .int .i64 0, .slice none 0 0]) (by simp [results, Try.results123, go_sem, hc]) rfl (ansZero ?_)
        exact ((HB1.out.setCell (by simp) _).setCell (by simp) _).setCell (by simp) _
      · clear hno'
        go_enter Try.func123, Try.ntmps123
        go_wp2_with fail
        refine HK.out.mono ?_
        rintro e v1 ⟨rfl, hb1⟩
        rw [HO.out]
        obtain ⟨hc, hf⟩ := Rows_.bcell hb1
        have HB1 := Lib.hid (hb0.out.trans (hb1.mono (by simp; omega)))
        have hz : w.heap.size + 1 < v1.heap.size := by have := hb1.size; simp at this; omega
        have hz0 : w.heap.size < v1.heap.size := by omega
        clear hb1
        go_wp2_with fail
        refine bodyPost_ret (v := .agg #[.int .i64 0, .int .i64 0, .slice none 0 0]) (by simp [results, Try.results123, go_sem, hc]) rfl (ansZero ?_)
        exact ((HB1.out.setCell (by simp) _).setCell (by simp) _).setCell (by simp) _
    · clear hno'
      go_enter Try.func123, Try.ntmps123
      go_wp2_with fail
      refine HK.out.mono ?_
      rintro e v1 ⟨rfl, hb1⟩
      rw [HO.out]
      obtain ⟨hc, hf⟩ := Rows_.bcell hb1
      have HB1 := Lib.hid (hb0.out.trans (hb1.mono (by simp; omega)))
      have hz : w.heap.size + 1 < v1.heap.size := by have := hb1.size; simp at this; omega
      have hz0 : w.heap.size < v1.heap.size := by omega
      clear hb1
      go_wp2_with fail
      refine bodyPost_ret (v := .agg #[.int .i64 0, .int .i64 0, .slice none 0 0]) (by simp [results, Try.results123, go_sem, hc]) rfl (ansZero ?_)
      exact ((HB1.out.setCell (by simp) _).setCell (by simp) _).setCell (by simp) _

theorem inR_t {gh top bot : Int} (h : inR gh top bot = true) : 0 ≤ top ∧ top ≤ bot ∧ bot < gh := of_decide_eq_true h
theorem clampV_hi {x : Int} {H : Nat} (h : (H : Int) < x) : clampV x (-(H : Int)) (H : Int) = (H : Int) := by unfold clampV; rw [if_neg (by omega), if_pos h]
theorem clampV_lo {x : Int} {H : Nat} (h : x < -(H : Int)) : clampV x (-(H : Int)) (H : Int) = -(H : Int) := by unfold clampV; rw [if_pos h]
theorem clampV_mid {x : Int} {H : Nat} (h1 : -(H : Int) ≤ x) (h2 : x ≤ (H : Int)) : clampV x (-(H : Int)) (H : Int) = x := by unfold clampV; rw [if_neg (by omega), if_neg (by omega)]

theorem spec_GridRoll_own (gw gh : Int) {A : Option Addr} {n c : Nat} {cs : List CellD} (x y d : Int) {W : World} {B : Nat} (h : OwnC W B A n c cs) (hn : n ≤ 1048576) :
    Calls Try.prog 123 #[.agg #[.int .i64 gw, .int .i64 gh, .slice A n c], .int .i64 x, .int .i64 y, .int .i64 d] W (AnsT W (rollT gw gh cs x y d)) := by
  cases ho : (okG gw gh cs && inR gh x y)
  · rw [rollT_no ho]
    exact spec_GridRoll_no gw gh A n c cs x y d W h.rd h.len (by omega) ho
  · have ho' := ho
    rw [Bool.and_eq_true] at ho
    obtain ⟨h1, h2⟩ := ho
    obtain ⟨hx0, hx1, hx2⟩ := inR_t h2
    obtain ⟨Wn, Hn, rfl, rfl, w1, w2, w3, w4, w5, hl⟩ := sides h1
    obtain ⟨xn, rfl⟩ := Int.eq_ofNat_of_zero_le hx0
    obtain ⟨yn, rfl⟩ := Int.eq_ofNat_of_zero_le (show 0 ≤ y by omega)
    have hlen := h.len
    have hpos : 1 * 1 ≤ Wn * Hn := Nat.mul_le_mul w1 w3
    obtain ⟨g, rfl⟩ := h.addr (by omega)
    rw [rollT_yes ho' (by omega)]
    by_cases a : (Hn : Int) < d
    · rw [clampV_hi a]
      exact spec_GridRoll_hi Wn Hn g 0 n c cs xn yn d W h.rd h.len hn h1 (by omega) (by omega) w1 w2 w4 (by omega) a
    · by_cases a2 : d < -(Hn : Int)
      · rw [clampV_lo a2]
        exact spec_GridRoll_lo Wn Hn g 0 n c cs xn yn d W h.rd h.len hn h1 (by omega) (by omega) w1 w2 w4 (by omega) a2
      · rw [clampV_mid (by omega) (by omega)]
        exact spec_GridRoll_mid Wn Hn g 0 n c cs xn yn d W h.rd h.len hn h1 (by omega) (by omega) w1 w2 w4 (by omega) (by omega) (by omega)
end Go.Proofs.Ythlpchojlddnbaa.Gr
namespace Go.Proofs.Ythlpchojlddnbaa.Sc
open Go.RowKit Go.Proofs.Ythlpchojlddnbaa.Bytes Go.Proofs.Ythlpchojlddnbaa.Rows_ Go.Proofs.Ythlpchojlddnbaa.RowK Go.Proofs.Ythlpchojlddnbaa.Gr Go.Proofs.Ythlpchojlddnbaa.DOk Go.Proofs.Ythlpchojlddnbaa.Opq Go.Proofs.Ythlpchojlddnbaa.Attr
set_option linter.unusedVariables false
attribute [local go_sem ↓] Sc.exec_storeS Sc.exec_loadS
attribute [local go_sem] blkOf_ptr isHead_ptr aggN_agg setRow_alloc rowZ_at rowZ_past scrA_size one_scr rowOf_alloc_at rowOf_alloc_past
attribute [local go_sem] scr_at0 scr_at1 scr_at2 scr_at3 scr_at4 scr_at5 scr_at6 scr_at7 scr_at8 scr_at9 scr_at10 scr_at11 scr_at12 scr_at13 scr_at14 scr_at15 scr_at16 scr_at17 scr_at18 scr_at19 scr_at20 scr_at21 scr_at22 scr_at23 scr_at24 scr_at25 scr_at26 scr_at27 scr_at28 scr_at29 scr_at30
/-- the grid that a screen shows -/
def shW (s : ScrS) : Int := if s.onAlt then s.aw else s.mw
def shH (s : ScrS) : Int := if s.onAlt then s.ah else s.mh
def shC (s : ScrS) : SlC := if s.onAlt then s.A else s.M
set_option maxRecDepth 100000 in
set_option maxHeartbeats 1600000 in
theorem l09Shown_any (s : ScrS) (w : World) : Calls Try.prog 74 #[.agg (scrA s)] w fun e w' => e = .returned (.agg #[.int .i64 (shW s), .int .i64 (shH s), .slice (shC s).A (shC s).cs.length (shC s).c]) ∧ Below w.heap.size w w' := by
  have H0 := Lib.hid ((Below.refl w.heap.size w).alloc (Nat.le_refl _) (.cells (scrA s) 53))
  have B0 := Lib.hid (RowB.new w (scrA s) 53)
  have hx0 := B0.out.cell
  have row0 := B0.out.row
  cases ho : s.onAlt
  · have e1 : shW s = s.mw := by unfold shW; rw [ho]; rfl
    have e2 : shH s = s.mh := by unfold shH; rw [ho]; rfl
    have e3 : shC s = s.M := by unfold shC; rw [ho]; rfl
    rw [e1, e2, e3]
    go_enter Try.func74, Try.ntmps74
    go_wp2_with fail
    refine bodyPost_ret (v := .agg #[.int .i64 s.mw, .int .i64 s.mh, .slice s.M.A s.M.cs.length s.M.c]) (by simp [results, Try.results74, go_sem]) rfl ⟨rfl, H0.out.alloc (by simp) _⟩
  · have e1 : shW s = s.aw := by unfold shW; rw [ho]; rfl
    have e2 : shH s = s.ah := by unfold shH; rw [ho]; rfl
    have e3 : shC s = s.A := by unfold shC; rw [ho]; rfl
    rw [e1, e2, e3]
    go_enter Try.func74, Try.ntmps74
    go_wp2_with fail
    refine bodyPost_ret (v := .agg #[.int .i64 s.aw, .int .i64 s.ah, .slice s.A.A s.A.cs.length s.A.c]) (by simp [results, Try.results74, go_sem]) rfl ⟨rfl, H0.out.alloc (by simp) _⟩
end Go.Proofs.Ythlpchojlddnbaa.Sc
namespace Go.Proofs.Ythlpchojlddnbaa.Sc
open Go.RowKit Go.Proofs.Ythlpchojlddnbaa.Bytes Go.Proofs.Ythlpchojlddnbaa.Rows_ Go.Proofs.Ythlpchojlddnbaa.RowK Go.Proofs.Ythlpchojlddnbaa.Gr Go.Proofs.Ythlpchojlddnbaa.DOk Go.Proofs.Ythlpchojlddnbaa.Opq Go.Proofs.Ythlpchojlddnbaa.Attr
set_option linter.unusedVariables false
attribute [local go_sem ↓] Sc.exec_storeS Sc.exec_loadS
attribute [local go_sem] blkOf_ptr isHead_ptr aggN_agg setRow_alloc rowZ_at rowZ_past scrA_size one_scr rowOf_alloc_at rowOf_alloc_past
attribute [local go_sem] scr_at0 scr_at1 scr_at2 scr_at3 scr_at4 scr_at5 scr_at6 scr_at7 scr_at8 scr_at9 scr_at10 scr_at11 scr_at12 scr_at13 scr_at14 scr_at15 scr_at16 scr_at17 scr_at18 scr_at19 scr_at20 scr_at21 scr_at22 scr_at23 scr_at24 scr_at25 scr_at26 scr_at27 scr_at28 scr_at29 scr_at30
def putS (s : ScrS) (gw gh : Int) (x : SlC) : ScrS := if s.onAlt then { s with aw := gw, ah := gh, A := x } else { s with mw := gw, mh := gh, M := x }
theorem putS_t {s : ScrS} {gw gh : Int} {x : SlC} (h : s.onAlt = true) : putS s gw gh x = { s with aw := gw, ah := gh, A := x } := by unfold putS; rw [h]; rfl
theorem putS_f {s : ScrS} {gw gh : Int} {x : SlC} (h : s.onAlt = false) : putS s gw gh x = { s with mw := gw, mh := gh, M := x } := by unfold putS; rw [h]; rfl
theorem own_put {w0 w' : World} {B c : Nat} {t : ScrS} {gw gh : Int} {A : Option Addr} {cs : List CellD} (h : OwnS w0 B t) (hb : Below w0.heap.size w0 w') (ho : OwnC w' w0.heap.size A cs.length c cs) (hB : B ≤ w0.heap.size) : OwnS w' B (putS t gw gh ⟨A, c, cs⟩) := by
  have h' := h.below (Nat.le_refl _) hb
  have hm : OwnC w' B A cs.length c cs := ho.more hB
  have hap : ∀ r ∈ t.M :: t.A :: t.rows, Apart r ⟨A, c, cs⟩ := fun r hr => apart_of (y := ⟨A, c, cs⟩) (h.c.1 r hr) ho (Nat.le_refl _)
  obtain ⟨p1, p2⟩ := List.pairwise_cons.1 h'.c.2
  obtain ⟨p3, p4⟩ := List.pairwise_cons.1 p2
  cases e : t.onAlt
  · rw [putS_f e]
    refine ⟨⟨fun r hr => ?_, List.pairwise_cons.2 ⟨fun y hy => (hap y (List.mem_cons_of_mem _ hy)).symm, p2⟩⟩, h'.t, h'.r⟩
    rcases List.mem_cons.1 hr with rfl | hr
    · exact hm
    · exact h'.c.1 r (List.mem_cons_of_mem _ hr)
  · rw [putS_t e]
    refine ⟨⟨fun r hr => ?_, List.pairwise_cons.2 ⟨fun y hy => ?_, List.pairwise_cons.2 ⟨fun y hy => (hap y (List.mem_cons_of_mem _ (List.mem_cons_of_mem _ hy))).symm, p4⟩⟩⟩, h'.t, h'.r⟩
    · rcases List.mem_cons.1 hr with rfl | hr
      · exact h'.m
      · rcases List.mem_cons.1 hr with rfl | hr
        · exact hm
        · exact h'.rows.1 r hr
    · rcases List.mem_cons.1 hy with rfl | hy
      · exact hap _ List.mem_cons_self
      · exact p1 y (List.mem_cons_of_mem _ hy)
theorem put_data {t : ScrS} {A : Option Addr} {c : Nat} {cs : List CellD} : (putS t (shW t) (shH t) ⟨A, c, cs⟩).data = putD t.data cs := by
  unfold shW shH putD
  cases e : t.onAlt
  · rw [putS_f e]; simp [ScrS.data, e]
  · rw [putS_t e]; simp [ScrS.data, e]
theorem sh_data (s : ScrS) : (shC s).cs = shD s.data := by
  unfold shC shD
  show _ = if s.onAlt then s.A.cs else s.M.cs
  cases s.onAlt <;> rfl
theorem sh_ok {s : ScrS} (h : okD s.data = true) : shW s = s.w ∧ shH s = s.h ∧ okG (shW s) (shH s) (shC s).cs = true := by
  obtain ⟨⟨g1, g2, e1, e2, e3, e4⟩, _⟩ := okD_iff.1 h
  unfold shW shH shC
  cases s.onAlt
  · exact ⟨e1, e2, g1⟩
  · exact ⟨e3, e4, g2⟩
theorem roll_ok {s : ScrS} (h : okD s.data = true) (n : Int) : rollT (shW s) (shH s) (shC s).cs s.top s.bot n = (shW s, shH s, rollC s.data s.top s.bot n) := by
  obtain ⟨e1, e2, g⟩ := sh_ok h
  obtain ⟨r1, r2, r3, _⟩ := (okD_iff.1 h).2.2.1
  have hi : inR (shH s) s.top s.bot = true := decide_eq_true ⟨r1, r3, by rw [e2]; exact r2⟩
  unfold rollT
  rw [g, hi, Bool.and_self, if_pos rfl, e1, e2, sh_data]; rfl
set_option maxRecDepth 100000 in
set_option maxHeartbeats 3200000 in
theorem l09Put_any (s : ScrS) (gw gh : Int) (A : Option Addr) (c : Nat) (cs : List CellD) (w : World) : Calls Try.prog 73 #[.agg (scrA s), .agg #[.int .i64 gw, .int .i64 gh, .slice A cs.length c]] w fun e w' => e = .returned (.agg (scrA (putS s gw gh ⟨A, c, cs⟩))) ∧ Below w.heap.size w w' := by
  obtain ⟨W, hW⟩ : ∃ W, W = ((w.alloc (.cells (scrA s) 53)).alloc (.cells #[.int .i64 gw, .int .i64 gh, .slice A cs.length c] 32)).alloc (.cells #[.int .i64 0, .int .i64 0, .int .i64 0, .int .i64 0, .slice none 0 0, .int .i64 0, .int .i64 0, .slice none 0 0, .bool false, .int .i64 0, .int .i64 0, .bool false, .int .i64 0, .int .i64 0, .bool false, .bool false, .bool false, .int .i64 0, .int .i64 0, .bool false, .bool false, .int .i64 0, .int .i64 0, .int .i64 0, .int .i64 0, .bool false, .bool false, .bool false, .slice none 0 0, .int .i64 0, .slice none 0 0] 53) := ⟨_, rfl⟩
  have H0 := Lib.hid (show Below w.heap.size w W from by rw [hW]; exact ((((Below.refl w.heap.size w).alloc (Nat.le_refl _) _).alloc (by simp) _).alloc (by simp; omega) _))
  have B0 := Lib.hid (show RowS W w.heap.size s from by rw [hW]; exact ((RowS.new w s).alloc _).alloc _)
  have G0 := Lib.hid (show RowB W (w.heap.size + 1) #[.int .i64 gw, .int .i64 gh, .slice A cs.length c] from by
    rw [hW]
    have h := (RowB.new (w.alloc (.cells (scrA s) 53)) #[.int .i64 gw, .int .i64 gh, .slice A cs.length c] 32).alloc (.cells #[.int .i64 0, .int .i64 0, .int .i64 0, .int .i64 0, .slice none 0 0, .int .i64 0, .int .i64 0, .slice none 0 0, .bool false, .int .i64 0, .int .i64 0, .bool false, .int .i64 0, .int .i64 0, .bool false, .bool false, .bool false, .int .i64 0, .int .i64 0, .bool false, .bool false, .int .i64 0, .int .i64 0, .int .i64 0, .int .i64 0, .bool false, .bool false, .bool false, .slice none 0 0, .int .i64 0, .slice none 0 0] 53)
    rw [World.size_alloc] at h; exact h)
  have Z0 := Lib.hid (show RowS W (w.heap.size + 1 + 1) zeroS from by
    rw [hW]
    have h := RowS.new ((w.alloc (.cells (scrA s) 53)).alloc (.cells #[.int .i64 gw, .int .i64 gh, .slice A cs.length c] 32)) zeroS
    rw [World.size_alloc, World.size_alloc] at h; exact h)
  have a8 : W.cell? ⟨w.heap.size, 8, none⟩ = some (.bool s.onAlt) := B0.out.cell 8
  have g0 : W.cell? ⟨w.heap.size + 1, 0, none⟩ = some (.int .i64 gw) := G0.out.cell 0
  have g1 : W.cell? ⟨w.heap.size + 1, 1, none⟩ = some (.int .i64 gh) := G0.out.cell 1
  have g2 : W.cell? ⟨w.heap.size + 1, 2, none⟩ = some (.slice A cs.length c) := G0.out.cell 2
  have a2 : W.cell? ⟨w.heap.size, 2, none⟩ = some (.int .i64 s.mw) := B0.out.cell 2
  have a3 : W.cell? ⟨w.heap.size, 3, none⟩ = some (.int .i64 s.mh) := B0.out.cell 3
  have a4 : W.cell? ⟨w.heap.size, 4, none⟩ = some (.slice s.M.A s.M.cs.length s.M.c) := B0.out.cell 4
  have a5 : W.cell? ⟨w.heap.size, 5, none⟩ = some (.int .i64 s.aw) := B0.out.cell 5
  have a6 : W.cell? ⟨w.heap.size, 6, none⟩ = some (.int .i64 s.ah) := B0.out.cell 6
  have a7 : W.cell? ⟨w.heap.size, 7, none⟩ = some (.slice s.A.A s.A.cs.length s.A.c) := B0.out.cell 7
  have hf := B0.out.free
  have hz1 : w.heap.size < W.heap.size := B0.out.lt
  cases ho : s.onAlt
  · rw [putS_f ho]
    rw [ho] at a8
    have R4 : RowS (((W.setCell ⟨w.heap.size, 2, none⟩ (.int .i64 gw)).setCell ⟨w.heap.size, 3, none⟩ (.int .i64 gh)).setCell ⟨w.heap.size, 4, none⟩ (.slice A cs.length c)) w.heap.size { s with mw := gw, mh := gh, M := ⟨A, c, cs⟩ } := ((B0.out.s_mw (z := gw)).s_mh (z := gh)).s_M (z := ⟨A, c, cs⟩)
    have row4 := R4.of
    have Z4 : RowS (((W.setCell ⟨w.heap.size, 2, none⟩ (.int .i64 gw)).setCell ⟨w.heap.size, 3, none⟩ (.int .i64 gh)).setCell ⟨w.heap.size, 4, none⟩ (.slice A cs.length c)) (w.heap.size + 1 + 1) zeroS := ((Z0.out.other (by simp; omega)).other (by simp; omega)).other (by simp; omega)
    have HZ4 := Lib.hid Z4
    have rz4 : RowZ (((W.setCell ⟨w.heap.size, 2, none⟩ (.int .i64 gw)).setCell ⟨w.heap.size, 3, none⟩ (.int .i64 gh)).setCell ⟨w.heap.size, 4, none⟩ (.slice A cs.length c)) (w.heap.size + 1 + 1) 31 := RowZ.of Z4.row 31 rfl
    clear R4 Z4 ho
    go_enter Try.func73, Try.ntmps73
    go_upto_region 1 with fail
    rw [← hW]
    clear hW
    go_wp2_with fail
    refine bodyPost_ret (v := .agg (scrA { s with mw := gw, mh := gh, M := ⟨A, c, cs⟩ })) (res55 Try.results73 _ _ (w.heap.size + 1 + 1) _ (by simp) (HZ4.out.row.setRow) rfl) rfl ⟨rfl, ?_⟩
    exact below_setRow (((H0.out.setCell (by simp) _).setCell (by simp) _).setCell (by simp) _) (by omega) _
  · rw [putS_t ho]
    rw [ho] at a8
    have R4 : RowS (((W.setCell ⟨w.heap.size, 5, none⟩ (.int .i64 gw)).setCell ⟨w.heap.size, 6, none⟩ (.int .i64 gh)).setCell ⟨w.heap.size, 7, none⟩ (.slice A cs.length c)) w.heap.size { s with aw := gw, ah := gh, A := ⟨A, c, cs⟩ } := ((B0.out.s_aw (z := gw)).s_ah (z := gh)).s_A (z := ⟨A, c, cs⟩)
    have row4 := R4.of
    have Z4 : RowS (((W.setCell ⟨w.heap.size, 5, none⟩ (.int .i64 gw)).setCell ⟨w.heap.size, 6, none⟩ (.int .i64 gh)).setCell ⟨w.heap.size, 7, none⟩ (.slice A cs.length c)) (w.heap.size + 1 + 1) zeroS := ((Z0.out.other (by simp; omega)).other (by simp; omega)).other (by simp; omega)
    have HZ4 := Lib.hid Z4
    have rz4 : RowZ (((W.setCell ⟨w.heap.size, 5, none⟩ (.int .i64 gw)).setCell ⟨w.heap.size, 6, none⟩ (.int .i64 gh)).setCell ⟨w.heap.size, 7, none⟩ (.slice A cs.length c)) (w.heap.size + 1 + 1) 31 := RowZ.of Z4.row 31 rfl
    clear R4 Z4 ho
    go_enter Try.func73, Try.ntmps73
    go_upto_region 1 with fail
    rw [← hW]
    clear hW
    go_wp2_with fail
    refine bodyPost_ret (v := .agg (scrA { s with aw := gw, ah := gh, A := ⟨A, c, cs⟩ })) (res55 Try.results73 _ _ (w.heap.size + 1 + 1) _ (by simp) (HZ4.out.row.setRow) rfl) rfl ⟨rfl, ?_⟩
    exact below_setRow (((H0.out.setCell (by simp) _).setCell (by simp) _).setCell (by simp) _) (by omega) _
end Go.Proofs.Ythlpchojlddnbaa.Sc

