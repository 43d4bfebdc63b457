/- GridText in the model: row after row without its spaces at the end, at good grids. -/
import Derived.Test.YtgdjbpgfplcjpaaGrTextI
namespace Go.Proofs.Ytgdjbpgfplcjpaa.Gr
open Go.RowKit Go.Proofs.Ytgdjbpgfplcjpaa.Bytes Go.Proofs.Ytgdjbpgfplcjpaa.Rows_ Go.Proofs.Ytgdjbpgfplcjpaa.RowK
set_option linter.unusedVariables false
set_option maxRecDepth 100000 in
set_option maxHeartbeats 6400000 in
theorem spec_GridText_yes (W H : Nat) (b o n c : Nat) (cs : List CellD) (w : World) (hr : RdC w w.heap.size (some ⟨b, o, none⟩) cs) (hl : cs.length = n) (hn : n ≤ 1048576) (ho : okG (W : Int) (H : Int) cs = true) (hW1 : 1 ≤ W) (hW : W ≤ 120) (hH1 : 1 ≤ H) (hH : H ≤ 120) (hWH : n = W * H) :
    Calls Try.prog 20 #[.agg #[.int .i64 (W : Int), .int .i64 (H : Int), .slice (some ⟨b, o, none⟩) n c]] w fun e w' => e = .returned (.string (strOfNums (textN cs W H))) ∧ Below w.heap.size w w' := by
  have hb0 := Lib.hid (((Below.refl w.heap.size w).alloc (Nat.le_refl _) (.cells #[.int .i64 (W : Int), .int .i64 (H : Int), .slice (some ⟨b, o, none⟩) n c] 25)).alloc (by simp) (.cells #[] 5))
  have X0 := Lib.hid ((BoxG.new w #[.int .i64 (W : Int), .int .i64 (H : Int), .slice (some ⟨b, o, none⟩) n c]).below ((Below.refl _ _).alloc (Nat.le_refl _) (.cells #[] 5)) (by simp))
  have ho0 := Rune.own_lit (w.alloc (.cells #[.int .i64 (W : Int), .int .i64 (H : Int), .slice (some ⟨b, o, none⟩) n c] 25)) [] #[] rfl (by simp)
  simp only [World.size_alloc, List.length_nil] at ho0
  have HO0 := Lib.hid ho0
  have HO := Lib.hid ho
  have HR := Lib.hid hr
  have HL := Lib.hid hl
  have HK := Lib.hid (fun V (h : Below w.heap.size w V) => spec_GridOk_any (W : Int) (H : Int) (some ⟨b, o, none⟩) n c cs V ((HR.out.below (Nat.le_refl _) h).more h.size) HL.out (by omega))
  have HRB := Lib.hid (fun (r : Nat) (h2 : r < H) => (show r * W + W ≤ n by
    have h1 : (r + 1) * W ≤ H * W := Nat.mul_le_mul_right W h2
    rw [Nat.add_mul, Nat.mul_comm H W] at h1; omega))
  clear ho hr hl hWH ho0
  go_enter Try.func20, Try.ntmps20
  go_wp2_with fail
  go_loopw [3, 4] (fun t y wr => ∃ (k : Nat) (A : Option Addr) (tn tc : Nat), k ≤ H ∧ y = .int .i64 (k : Int) ∧ t = .slice A tn tc ∧ Own wr (w.heap.size + 1) A tn tc (textN cs W k) ∧ BoxG wr w.heap.size #[.int .i64 (W : Int), .int .i64 (H : Int), .slice (some ⟨b, o, none⟩) n c] ∧ Below w.heap.size w wr) (fun _ y _ => H - (intOf y).toNat)
  case atStart => exact ⟨0, some ⟨w.heap.size + 1, 0, none⟩, 0, 0, Nat.zero_le _, rfl, rfl, HO0.out, X0.out, hb0.out⟩
  case round =>
    clear X0 hb0 HO0
    obtain ⟨y, A, tn, tc, hy, rfl, rfl, ho, x0, hb⟩ := hrel
    by_cases hlt : y < H
    · obtain ⟨rw_, hrw⟩ : ∃ k, k = y * W := ⟨_, rfl⟩
      have hrb := HRB.out y hlt
      have hrl : (rowL cs W y).length = W := rowL_len (by rw [HL.out]; exact hrb)
      have HTC := Lib.hid (fun (V : World) (h : Below w.heap.size w V) (j : Nat) (hj : j < (rowL cs W y).length) => (show V.cell? ⟨b, o + (rw_ + j) * 6, none⟩ = some (.int .i64 (rowL cs W y)[j].r) by
        have h1 := rdC_row (HR.out.below (Nat.le_refl _) h) (i := y * W + j) (by rw [HL.out]; omega)
        rw [rowL_get (by rw [HL.out]; exact hrb) (by omega)]
        rw [show o + (y * W + j) * 6 = o + (rw_ + j) * 6 by rw [hrw]] at h1
        exact h1.1))
      have HTN := Lib.hid (textN_len (cs := cs) hW y)
      have HTN1 := Lib.hid (show textN cs W (y + 1) = textN cs W y ++ (runC (rowL cs W y) (endC (rowL cs W y) W) ++ [10]) by rw [textN, lineC, hrl])
      have E1 := Lib.hid (show IntKind.i64.wrap ((y : Int) * (W : Int)) = (rw_ : Int) by rw [← Int.natCast_mul, ← hrw]; exact IntWalk.i64_in _ (by omega))
      rw [← hrw] at hrb
      obtain ⟨l, hll⟩ : ∃ l, l = rowL cs W y := ⟨_, rfl⟩
      rw [← hll] at HTC HTN1 hrl
      clear hll hrw
      have hol := ho.len
      have htb : tn ≤ 43320 := by have := HTN.out; omega
      have HRL := Lib.hid hrl
      have HRN := Lib.hid (fun j => runC_len l j)
      have HTX := Lib.hid (show (textN cs W y).length = tn from hol)
      have q0 := x0.cell 0
      have q1 := x0.cell 1
      have q2 := x0.cell 2
      have HOw := Lib.hid ho
      have HBw := Lib.hid hb
      have X0w := Lib.hid x0
      have lx := x0.lt
      clear ho hb x0 hol hrl
      go_wp2_with fail
      (with_reducible refine (HK.out _ HBw.out).mono ?_)
      rintro e v2 ⟨rfl, hb2⟩
      rw [HO.out]
      have HB2 := Lib.hid (HBw.out.trans (hb2.mono HBw.out.size))
      have HO2 := Lib.hid (HOw.out.below (Nat.le_refl _) hb2)
      have x2 := X0w.out.below hb2 lx
      have X2 := Lib.hid x2
      clear hb2 q0 q1 q2
      have q0 := x2.cell 0
      have q1 := x2.cell 1
      have q2 := x2.cell 2
      clear x2 HOw HBw X0w
      go_wp2_with fail
      go_loop [5] (fun e => ∃ k : Nat, k ≤ W ∧ e = .int .i64 (k : Int) ∧ endC l k = endC l W) (fun e => (intOf e).toNat)
      case atStart => exact ⟨W, Nat.le_refl _, rfl, rfl⟩
      case round =>
        obtain ⟨k, hk, rfl, hend⟩ := hrel
        have HE := Lib.hid hend
        clear hend
        have HGO : ∀ en : Nat, en ≤ W → endC l W = en → True := fun _ _ _ => trivial
        clear HGO
        by_cases hstop : k = 0 ∨ ∃ j, j + 1 = k ∧ ∃ h : j < l.length, l[j].r ≠ 32
        · have HEN := Lib.hid (show endC l W = k by
            rcases hstop with h | ⟨j, h1, h2, h3⟩
            · rw [← HE.out, h]; rfl
            · rw [← HE.out, ← h1, endC_stop h2 h3])
          have HTN2 := Lib.hid (show textN cs W (y + 1) = textN cs W y ++ (runC l k ++ [10]) by rw [HTN1.out, HEN.out])
          rcases hstop with h0 | ⟨j, h1, hjl, hr⟩
          · have HK0 := Lib.hid h0
            subst h0
            go_wp2_with fail
            go_loopw [3, 6] (fun t i wx => ∃ (j : Nat) (A : Option Addr) (sn sc : Nat), j ≤ 0 ∧ i = .int .i64 (j : Int) ∧ t = .slice A sn sc ∧ Own wx (w.heap.size + 1) A sn sc (textN cs W y ++ runC l j) ∧ BoxG wx w.heap.size #[.int .i64 (W : Int), .int .i64 (H : Int), .slice (some ⟨b, o, none⟩) n c] ∧ Below w.heap.size w wx) (fun _ i _ => 0 - (intOf i).toNat)
            case atStart => exact ⟨0, A, tn, tc, Nat.zero_le _, rfl, rfl, by rw [show textN cs W y ++ runC l 0 = textN cs W y by simp [runC]]; exact HO2.out, X2.out, HB2.out⟩
            case round =>
              clear HO2 X2 HB2 q0 q1 q2
              obtain ⟨j, A3, sn, sc, hj, rfl, rfl, ho, x0, hb⟩ := hrel
              have hsl := ho.len
              have hsn : sn ≤ 44000 := by have h1 := HRN.out j; have h2 := HTX.out; rw [List.length_append] at hsl; omega
              by_cases hje : j < 0
              · exact absurd hje (Nat.not_lt_zero _)
              · obtain rfl : 0 = j := by omega
                have hox := Lib.hid ho
                have X6 := Lib.hid x0
                have HB6 := Lib.hid hb
                clear ho x0 hb
                go_wp2_with (at_builtin; refine append_byte rfl _ _ rfl rfl rfl hox.out (by omega) (by have := X6.out.lt; omega) ?_)
                intro A7 c7 v7 ho7 hb7
                have HO7 := Lib.hid (show Own v7 (w.heap.size + 1) A7 (sn + 1) c7 (textN cs W (y + 1)) by rw [HTN2.out]; first | exact ho7 | (rw [← List.append_assoc]; exact ho7))
                have X7 := Lib.hid (X6.out.below hb7 (by omega))
                have HB7 := Lib.hid (HB6.out.trans (hb7.mono (by omega)))
                clear ho7 hb7 hox X6 HB6
                go_wp2_with fail
                exact ⟨⟨y + 1, A7, sn + 1, c7, by omega, by go_num, rfl, HO7.out, X7.out, HB7.out⟩, by simp [intOf]; omega⟩
          · have hp : (0 : Int) < (k : Int) := by omega
            have e1 := E1.out
            have e2 : IntKind.i64.wrap ((rw_ : Int) + (k : Int)) = ((rw_ + k : Nat) : Int) := by rw [Int.natCast_add]; exact IntWalk.i64_in _ (by omega)
            obtain ⟨rk, hrk⟩ : ∃ m, m = rw_ + k := ⟨_, rfl⟩
            rw [← hrk] at e2
            obtain ⟨q, hq⟩ : ∃ m, m = rw_ + j := ⟨_, rfl⟩
            have e3 : IntKind.i64.wrap ((rk : Int) - 1) = (q : Int) := by rw [IntWalk.i64_in _ (by omega)]; omega
            have i0 : (0 : Int) ≤ (q : Int) := by omega
            have i1 : (q : Int) < (n : Int) := by omega
            have i2 : q < n := by omega
            have hcl := HTC.out _ HB2.out j hjl
            rw [← hq] at hcl
            have hrb_ : (l[j].r == 32) = false := by simpa using hr
            generalize l[j].r = z at *
            clear hq hrk h1
            go_wp2_with fail
            clear e1 e2 e3 hcl
            go_loopw [3, 6] (fun t i wx => ∃ (j : Nat) (A : Option Addr) (sn sc : Nat), j ≤ k ∧ i = .int .i64 (j : Int) ∧ t = .slice A sn sc ∧ Own wx (w.heap.size + 1) A sn sc (textN cs W y ++ runC l j) ∧ BoxG wx w.heap.size #[.int .i64 (W : Int), .int .i64 (H : Int), .slice (some ⟨b, o, none⟩) n c] ∧ Below w.heap.size w wx) (fun _ i _ => k - (intOf i).toNat)
            case atStart => exact ⟨0, A, tn, tc, Nat.zero_le _, rfl, rfl, by rw [show textN cs W y ++ runC l 0 = textN cs W y by simp [runC]]; exact HO2.out, X2.out, HB2.out⟩
            case round =>
              clear HO2 X2 HB2 q0 q1 q2
              obtain ⟨j, A3, sn, sc, hj, rfl, rfl, ho, x0, hb⟩ := hrel
              have hsl := ho.len
              have hsn : sn ≤ 44000 := by have h1 := HRN.out j; have h2 := HTX.out; rw [List.length_append] at hsl; omega
              by_cases hje : j < k
              · have hjl : j < l.length := by rw [HRL.out]; omega
                have d0 := HTC.out _ hb j hjl
                have HN := Lib.hid (runC_next hjl)
                generalize l[j].r = z0 at *
                obtain ⟨p, hp⟩ : ∃ m, m = rw_ + j := ⟨_, rfl⟩
                rw [← hp] at d0
                have e1 := E1.out
                have e2 : IntKind.i64.wrap ((rw_ : Int) + (j : Int)) = (p : Int) := by rw [hp, Int.natCast_add]; exact IntWalk.i64_in _ (by omega)
                have i0 : (0 : Int) ≤ (p : Int) := by omega
                have i1 : (p : Int) < (n : Int) := by omega
                have i2 : p < n := by omega
                have q0 := x0.cell 0
                have q1 := x0.cell 1
                have q2 := x0.cell 2
                have HOa := Lib.hid ho
                have X0a := Lib.hid x0
                have HBa := Lib.hid hb
                clear ho x0 hb hsl hp
                go_wp2_with fail
                (with_reducible refine (Rune.spec_RuneBytes_any _ _).mono ?_)
                rintro e v3 ⟨A4, rn, rc, rfl, ho4, hb4⟩
                have HO3 := Lib.hid (HOa.out.below (Nat.le_refl _) hb4)
                have X3 := Lib.hid (X0a.out.below hb4 (by have := X0a.out.lt; omega))
                have HB3 := Lib.hid (HBa.out.trans (hb4.mono HBa.out.size))
                have HO4 := Lib.hid ho4
                have HRN4 := Lib.hid (show rn ≤ 3 by rw [← ho4.len]; exact Rune.rb_len z0)
                clear ho4 hb4 e1 e2 d0 q0 q1 q2
                go_wp2_with (at_builtin; refine append_src rfl _ _ rfl rfl rfl HO3.out HO4.out.rd (own_none HO4.out) HO4.out.len (by omega) (by have := HRN4.out; omega) (by have := X3.out.lt; omega) ?_)
                intro A5 c5 v5 ho5 hb5
                have HO5 := Lib.hid (show Own v5 (w.heap.size + 1) A5 (sn + rn) c5 (textN cs W y ++ runC l (j + 1)) by rw [HN.out]; first | exact ho5 | (rw [← List.append_assoc]; exact ho5))
                have X5 := Lib.hid (X3.out.below hb5 (by omega))
                have HB5 := Lib.hid (HB3.out.trans (hb5.mono (by omega)))
                clear ho5 hb5 HO3 X3 HB3 HO4
                go_wp2_with fail
                exact ⟨⟨j + 1, A5, sn + rn, c5, by omega, by go_num, rfl, HO5.out, X5.out, HB5.out⟩, by simp [intOf]; omega⟩
              · obtain rfl : k = j := by omega
                have hox := Lib.hid ho
                have X6 := Lib.hid x0
                have HB6 := Lib.hid hb
                clear ho x0 hb
                go_wp2_with (at_builtin; refine append_byte rfl _ _ rfl rfl rfl hox.out (by omega) (by have := X6.out.lt; omega) ?_)
                intro A7 c7 v7 ho7 hb7
                have HO7 := Lib.hid (show Own v7 (w.heap.size + 1) A7 (sn + 1) c7 (textN cs W (y + 1)) by rw [HTN2.out]; first | exact ho7 | (rw [← List.append_assoc]; exact ho7))
                have X7 := Lib.hid (X6.out.below hb7 (by omega))
                have HB7 := Lib.hid (HB6.out.trans (hb7.mono (by omega)))
                clear ho7 hb7 hox X6 HB6
                go_wp2_with fail
                exact ⟨⟨y + 1, A7, sn + 1, c7, by omega, by go_num, rfl, HO7.out, X7.out, HB7.out⟩, by simp [intOf]; omega⟩
        · have hk0 : k ≠ 0 := fun h => hstop (.inl h)
          obtain ⟨j, hj⟩ : ∃ j, j + 1 = k := ⟨k - 1, by omega⟩
          have hjl : j < l.length := by rw [HRL.out]; omega
          have hr : l[j].r = 32 := by
            by_cases h : l[j].r = 32
            · exact h
            · exact absurd (.inr ⟨j, hj, hjl, h⟩) hstop
          have HN := Lib.hid (show endC l j = endC l W by rw [← HE.out, ← hj, endC_skip hjl hr])
          have hp : (0 : Int) < (k : Int) := by omega
          have e1 := E1.out
          have e2 : IntKind.i64.wrap ((rw_ : Int) + (k : Int)) = ((rw_ + k : Nat) : Int) := by rw [Int.natCast_add]; exact IntWalk.i64_in _ (by omega)
          obtain ⟨rk, hrk⟩ : ∃ m, m = rw_ + k := ⟨_, rfl⟩
          rw [← hrk] at e2
          obtain ⟨q, hq⟩ : ∃ m, m = rw_ + j := ⟨_, rfl⟩
          have e3 : IntKind.i64.wrap ((rk : Int) - 1) = (q : Int) := by rw [IntWalk.i64_in _ (by omega)]; omega
          have e4 : IntKind.i64.wrap ((k : Int) - 1) = (j : Int) := by rw [IntWalk.i64_in _ (by omega)]; omega
          have i0 : (0 : Int) ≤ (q : Int) := by omega
          have i1 : (q : Int) < (n : Int) := by omega
          have i2 : q < n := by omega
          have hcl := HTC.out _ HB2.out j hjl
          rw [hr, ← hq] at hcl
          have HJ := Lib.hid hj
          clear hstop hq hrk hj
          go_wp2_with fail
          go_round
          case rel => exact ⟨j, by have := HJ.out; omega, by first | rfl | go_num, HN.out⟩
          case measure => simp [intOf]; have := HJ.out; omega
    · obtain rfl : H = y := by omega
      have hcv := own_str ho
      have HB := Lib.hid hb
      have q1 := x0.cell 1
      clear ho x0 hb
      go_wp2_with fail
      go_ret
      exact ⟨rfl, HB.out⟩
end Go.Proofs.Ytgdjbpgfplcjpaa.Gr
