/- GridText in the program: row after row without its spaces at the end, at good grids. -/
import Derived.Test.YtgdjbpgfplcjpaaGrTextM
import Derived.Test.YtgdjbpgfplcjpaaRuneB
import Derived.Test.YtgdjbpgfplcjpaaGrCopy
namespace Go.Proofs.Ytgdjbpgfplcjpaa.Gr
open Go.RowKit Go.Proofs.Ytgdjbpgfplcjpaa.Bytes Go.Proofs.Ytgdjbpgfplcjpaa.Rows_ Go.Proofs.Ytgdjbpgfplcjpaa.RowK
set_option linter.unusedVariables false
set_option maxRecDepth 100000 in
set_option maxHeartbeats 800000 in
theorem withoutTail_any (b o m c : Nat) (l : List CellD) (w : World) (hl : l.length = m) (hcell : ∀ k (h : k < l.length), w.cell? ⟨b, o + k * 6, none⟩ = some (.int .i64 l[k].r)) (hm : m ≤ 1048576) (hmc : m ≤ c) (hc0 : 0 < c) (hc : c ≤ 9223372036854775807) :
    Calls Try.prog 47 #[.slice (some ⟨b, o, none⟩) m c] w fun e w' => e = .returned (.slice (some ⟨b, o, none⟩) (endC l m) c) ∧ w = w' := by
  have HC := Lib.hid hcell
  have HL := Lib.hid hl
  have hc1 : c ≠ 0 := by omega
  have hc2 : 0 ≠ c := by omega
  clear hcell hl
  go_enter Try.func47, Try.ntmps47
  go_wp2_with fail
  go_loop [3] (fun e => ∃ k : Nat, k ≤ m ∧ e = .int .i64 (k : Int) ∧ endC l k = endC l m) (fun e => (intOf e).toNat)
  case atStart => exact ⟨m, Nat.le_refl _, rfl, rfl⟩
  case round =>
    obtain ⟨k, hk, rfl, hend⟩ := hrel
    have HE := Lib.hid hend
    clear hend
    by_cases h0 : k = 0
    · subst h0
      have HZ := Lib.hid (show endC l m = 0 by rw [← HE.out]; rfl)
      go_wp2_with fail
      go_ret
      exact ⟨by rw [HZ.out]; rfl, rfl⟩
    · obtain ⟨j, hj⟩ : ∃ j, j = k - 1 := ⟨_, rfl⟩
      have hjl : j < l.length := by rw [HL.out]; omega
      have hp : (0 : Int) < (k : Int) := by omega
      have e1 : IntKind.i64.wrap ((k : Int) - 1) = (j : Int) := by rw [IntWalk.i64_in _ (by omega)]; omega
      have i0 : (0 : Int) ≤ (j : Int) := by omega
      have i1 : (j : Int) < (m : Int) := by omega
      have i2 : j < m := by omega
      have hcl := HC.out j hjl
      have HJ := Lib.hid (show j + 1 = k by omega)
      by_cases hr : l[j].r = 32
      · have HN := Lib.hid (show endC l j = endC l m by rw [← HE.out, ← HJ.out, endC_skip hjl hr])
        rw [hr] at hcl
        clear hj
        go_wp2_with fail
        go_round
        case rel => exact ⟨j, by have := HJ.out; omega, by first | rfl | go_num, HN.out⟩
        case measure => simp [intOf]; have := HJ.out; omega
      · have HN := Lib.hid (show endC l m = k by rw [← HE.out, ← HJ.out, endC_stop hjl hr])
        have hrb : (l[j].r == 32) = false := by simpa using hr
        have hki : (k : Int) ≤ (c : Int) := by omega
        have hkc : k ≤ c := by omega
        generalize l[j].r = z at *
        clear hj
        go_wp2_with fail
        go_ret
        exact ⟨by rw [HN.out]; rfl, rfl⟩
theorem rdC_row {w : World} {B b o : Nat} {cs : List CellD} (h : RdC w B (some ⟨b, o, none⟩) cs) {i : Nat} (hi : i < cs.length) :
    w.cell? ⟨b, o + i * 6, none⟩ = some (.int .i64 cs[i].r) ∧ w.cell? ⟨b, o + i * 6 + 1, none⟩ = some (.int .i64 cs[i].fg) ∧ w.cell? ⟨b, o + i * 6 + 2, none⟩ = some (.int .i64 cs[i].bg) ∧ w.cell? ⟨b, o + i * 6 + 3, none⟩ = some (.bool cs[i].b) ∧ w.cell? ⟨b, o + i * 6 + 4, none⟩ = some (.bool cs[i].u) ∧ w.cell? ⟨b, o + i * 6 + 5, none⟩ = some (.bool cs[i].t) := by
  obtain ⟨b', o', e, _, d0, d1, d2, d3, d4, d5⟩ := h.at_ hi
  injection e with e
  injection e with e1 e2
  subst e1 e2
  exact ⟨d0, d1, d2, d3, d4, d5⟩

set_option maxRecDepth 100000 in
set_option maxHeartbeats 6400000 in
theorem impl_GridText_yes (W H : Nat) (b o n c : Nat) (cs : List CellD) (w : World) (hr : RdC w w.heap.size (some ⟨b, o, none⟩) cs) (hl : cs.length = n) (hn : n ≤ 1048576) (hnc : n ≤ c) (hc : c ≤ 9223372036854775807) (ho : okG (W : Int) (H : Int) cs = true) (hW1 : 1 ≤ W) (hW : W ≤ 120) (hH1 : 1 ≤ H) (hH : H ≤ 120) (hWH : n = W * H) :
    Calls Try.prog 21 #[.agg #[.int .i64 (W : Int), .int .i64 (H : Int), .slice (some ⟨b, o, none⟩) n c]] w fun e w' => e = .returned (.string (strOfNums (textN cs W H))) ∧ Below w.heap.size w w' := by
  have hb0 := Lib.hid ((Below.refl w.heap.size w).alloc (Nat.le_refl _) (.cells #[.int .i64 (W : Int), .int .i64 (H : Int), .slice (some ⟨b, o, none⟩) n c] 25))
  have X0 := Lib.hid (BoxG.new w #[.int .i64 (W : Int), .int .i64 (H : Int), .slice (some ⟨b, o, none⟩) n c])
  have HO := Lib.hid ho
  have HR := Lib.hid hr
  have HL := Lib.hid hl
  have HK := Lib.hid (fun V (h : Below w.heap.size w V) => impl_GridOk_any (W : Int) (H : Int) (some ⟨b, o, none⟩) n c cs V ((HR.out.below (Nat.le_refl _) h).more h.size) HL.out (by omega))
  have HRB := Lib.hid (fun (r : Nat) (h2 : r < H) => (show r * W + W ≤ n by
    have h1 : (r + 1) * W ≤ H * W := Nat.mul_le_mul_right W h2
    rw [Nat.add_mul, Nat.mul_comm H W] at h1; omega))
  clear ho hr hl hWH
  go_enter Try.func21, Try.ntmps21
  go_wp2_with fail
  refine (HK.out _ hb0.out).mono ?_
  rintro e v1 ⟨rfl, hb1⟩
  rw [HO.out]
  have x0 := X0.out.below hb1 (by simp)
  have X1 := Lib.hid x0
  have HB1 := Lib.hid (hb0.out.trans (hb1.mono (by simp)))
  have q1 := x0.cell 1
  have hz1 : w.heap.size < v1.heap.size := x0.lt
  clear hb1 x0 X0
  go_wp2_with fail
  clear q1
  go_loopw [3, 12] (fun t y wr => ∃ (k : Nat) (A : Option Addr) (tn tc : Nat), k ≤ H ∧ y = .int .i64 (k : Int) ∧ t = .slice A tn tc ∧ Own wr (w.heap.size + 1) A tn tc (textN cs W k) ∧ BoxG wr w.heap.size #[.int .i64 (W : Int), .int .i64 (H : Int), .slice (some ⟨b, o, none⟩) n c] ∧ Below w.heap.size w wr) (fun _ y _ => H - (intOf y).toNat)
  case atStart => exact ⟨0, none, 0, 0, Nat.zero_le _, rfl, rfl, own_nil _ _, X1.out, HB1.out⟩
  case round =>
    clear X1 HB1 HK
    obtain ⟨y, A, tn, tc, hy, rfl, rfl, ho, x0, hb⟩ := hrel
    by_cases hlt : y < H
    · obtain ⟨rw_, hrw⟩ : ∃ k, k = y * W := ⟨_, rfl⟩
      have hrb := HRB.out y hlt
      have HRO := Lib.hid (fun V => rowOf_any W (H : Int) b o n c y V hW1 hrb (by omega) hnc (by omega) hc)
      have hrl : (rowL cs W y).length = W := rowL_len (by rw [HL.out]; exact hrb)
      have HTC := Lib.hid (fun (V : World) (h : Below w.heap.size w V) (j : Nat) (hj : j < (rowL cs W y).length) => (show V.cell? ⟨b, o + rw_ * 6 + j * 6, none⟩ = some (.int .i64 (rowL cs W y)[j].r) ∧ V.cell? ⟨b, o + rw_ * 6 + j * 6 + 1, none⟩ = some (.int .i64 (rowL cs W y)[j].fg) ∧ V.cell? ⟨b, o + rw_ * 6 + j * 6 + 2, none⟩ = some (.int .i64 (rowL cs W y)[j].bg) ∧ V.cell? ⟨b, o + rw_ * 6 + j * 6 + 3, none⟩ = some (.bool (rowL cs W y)[j].b) ∧ V.cell? ⟨b, o + rw_ * 6 + j * 6 + 4, none⟩ = some (.bool (rowL cs W y)[j].u) ∧ V.cell? ⟨b, o + rw_ * 6 + j * 6 + 5, none⟩ = some (.bool (rowL cs W y)[j].t) by
        have h1 := rdC_row (HR.out.below (Nat.le_refl _) h) (i := y * W + j) (by rw [HL.out]; omega)
        rw [rowL_get (by rw [HL.out]; exact hrb) (by omega)]
        rw [show o + (y * W + j) * 6 = o + rw_ * 6 + j * 6 by rw [hrw, Nat.add_mul, ← Nat.add_assoc]] at h1
        exact h1))
      have HTN := Lib.hid (textN_len (cs := cs) hW y)
      have HTN1 := Lib.hid (show textN cs W (y + 1) = textN cs W y ++ (runC (rowL cs W y) (endC (rowL cs W y) W) ++ [10]) by rw [textN, lineC, hrl])
      rw [← hrw] at HRO hrb
      obtain ⟨l, hll⟩ : ∃ l, l = rowL cs W y := ⟨_, rfl⟩
      rw [← hll] at HTC HTN1 hrl
      clear hll hrw
      obtain ⟨en, hen⟩ : ∃ m, m = endC l W := ⟨_, rfl⟩
      have hle : en ≤ W := by rw [hen]; exact endC_le l W
      have HWT := Lib.hid (fun (V : World) (h : Below w.heap.size w V) => (show Calls Try.prog 47 #[.slice (some ⟨b, o + rw_ * 6, none⟩) W (c - rw_)] V (fun e w' => e = .returned (.slice (some ⟨b, o + rw_ * 6, none⟩) en (c - rw_)) ∧ V = w') by
        rw [hen]; exact withoutTail_any b (o + rw_ * 6) W (c - rw_) l V hrl (fun k hk => (HTC.out V h k hk).1) (by omega) (by omega) (by omega) (by omega)))
      rw [← hen] at HTN1
      clear hen
      have hol := ho.len
      have htb : tn ≤ 43320 := by have := HTN.out; omega
      have HRL := Lib.hid hrl
      have HRN := Lib.hid (fun j => runC_len l j)
      have HTX := Lib.hid (show (textN cs W y).length = tn from hol)
      have q0 := x0.cell 0
      have q1 := x0.cell 1
      have q2 := x0.cell 2
      have HOw := Lib.hid ho
      have HBw := Lib.hid hb
      have X0w := Lib.hid x0
      have lx := x0.lt
      clear ho hb x0 hol hrl
      go_wp2_with fail
      (with_reducible refine (HRO.out _).mono ?_)
      rintro e v2 ⟨rfl, hb2⟩
      have HB2 := Lib.hid (HBw.out.trans (hb2.mono HBw.out.size))
      have HO2 := Lib.hid (HOw.out.below (Nat.le_refl _) hb2)
      have X2 := Lib.hid (X0w.out.below hb2 lx)
      clear hb2 q0 q1 q2
      go_wp2_with fail
      (with_reducible refine (HWT.out _ HB2.out).mono ?_)
      rintro e v ⟨rfl, rfl⟩
      go_wp2_with fail
      go_loopw [3, 20] (fun t i wx => ∃ (j : Nat) (A : Option Addr) (sn sc : Nat), j ≤ en ∧ i = .int .i64 (j : Int) ∧ t = .slice A sn sc ∧ Own wx (w.heap.size + 1) A sn sc (textN cs W y ++ runC l j) ∧ BoxG wx w.heap.size #[.int .i64 (W : Int), .int .i64 (H : Int), .slice (some ⟨b, o, none⟩) n c] ∧ Below w.heap.size w wx) (fun _ i _ => en - (intOf i).toNat)
      case atStart => exact ⟨0, A, tn, tc, Nat.zero_le _, rfl, rfl, by rw [show textN cs W y ++ runC l 0 = textN cs W y by simp [runC]]; exact HO2.out, X2.out, HB2.out⟩
      case round =>
        clear HO2 X2 HB2 HOw HBw X0w
        obtain ⟨j, A3, sn, sc, hj, rfl, rfl, ho, x0, hb⟩ := hrel
        have hsl := ho.len
        have hsn : sn ≤ 44000 := by have h1 := HRN.out j; have h2 := HTX.out; rw [List.length_append] at hsl; omega
        by_cases hje : j < en
        · have hjl : j < l.length := by rw [HRL.out]; omega
          obtain ⟨d0, d1, d2, d3, d4, d5⟩ := HTC.out _ hb j hjl
          have HN := Lib.hid (runC_next hjl)
          generalize l[j].r = z0 at *
          generalize l[j].fg = z1 at *
          generalize l[j].bg = z2 at *
          generalize l[j].b = z3 at *
          generalize l[j].u = z4 at *
          generalize l[j].t = z5 at *
          have hal := (Below.refl wr.heap.size wr).alloc (Nat.le_refl _) (.cells #[.int .i64 z0, .int .i64 z1, .int .i64 z2, .bool z3, .bool z4, .bool z5] 37)
          have HOa := Lib.hid (ho.below (Nat.le_refl _) hal)
          have X0a := Lib.hid (x0.below hal x0.lt)
          have HBa := Lib.hid (hb.trans (hal.mono hb.size))
          have hcs1 : j < c - rw_ := by omega
          clear ho x0 hb hal hsl
          go_wp2_with fail
          (with_reducible refine (Rune.impl_RuneBytes_any _ _).mono ?_)
          rintro e v3 ⟨A4, rn, rc, rfl, ho4, hb4⟩
          have HO3 := Lib.hid (HOa.out.below (Nat.le_refl _) hb4)
          have X3 := Lib.hid (X0a.out.below hb4 (by have := X0a.out.lt; omega))
          have HB3 := Lib.hid (HBa.out.trans (hb4.mono HBa.out.size))
          have HO4 := Lib.hid ho4
          have HRN4 := Lib.hid (show rn ≤ 3 by rw [← ho4.len]; exact Rune.rb_len z0)
          clear ho4 hb4
          go_wp2_with (at_builtin; refine append_src rfl _ _ rfl rfl rfl HO3.out HO4.out.rd (own_none HO4.out) HO4.out.len (by omega) (by have := HRN4.out; omega) (by have := X3.out.lt; omega) ?_)
          intro A5 c5 v5 ho5 hb5
          have HO5 := Lib.hid (show Own v5 (w.heap.size + 1) A5 (sn + rn) c5 (textN cs W y ++ runC l (j + 1)) by rw [HN.out]; first | exact ho5 | (rw [← List.append_assoc]; exact ho5))
          have X5 := Lib.hid (X3.out.below hb5 (by omega))
          have HB5 := Lib.hid (HB3.out.trans (hb5.mono (by omega)))
          clear ho5 hb5 HO3 X3 HB3 HO4
          go_wp2_with fail
          exact ⟨⟨j + 1, A5, sn + rn, c5, by omega, by go_num, rfl, HO5.out, X5.out, HB5.out⟩, by simp [intOf]; omega⟩
        · obtain rfl : en = j := by omega
          have hox := Lib.hid ho
          have X6 := Lib.hid x0
          have HB6 := Lib.hid hb
          clear ho x0 hb
          go_wp2_with (at_builtin; refine append_byte rfl _ _ rfl rfl rfl hox.out (by omega) (by have := X6.out.lt; omega) ?_)
          intro A7 c7 v7 ho7 hb7
          have HO7 := Lib.hid (show Own v7 (w.heap.size + 1) A7 (sn + 1) c7 (textN cs W (y + 1)) by rw [HTN1.out]; first | exact ho7 | (rw [← List.append_assoc]; exact ho7))
          have X7 := Lib.hid (X6.out.below hb7 (by omega))
          have HB7 := Lib.hid (HB6.out.trans (hb7.mono (by omega)))
          clear ho7 hb7 hox X6 HB6
          go_wp2_with fail
          exact ⟨⟨y + 1, A7, sn + 1, c7, by omega, by go_num, rfl, HO7.out, X7.out, HB7.out⟩, by simp [intOf]; omega⟩
    · obtain rfl : H = y := by omega
      have hcv := own_str ho
      have HB := Lib.hid hb
      clear ho x0 hb
      go_wp2_with fail
      go_ret
      exact ⟨rfl, HB.out⟩
end Go.Proofs.Ytgdjbpgfplcjpaa.Gr
