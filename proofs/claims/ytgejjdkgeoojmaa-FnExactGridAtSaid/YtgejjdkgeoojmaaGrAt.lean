/- GridAt in the program and in the model: both answer the cell, or the zero value; at every grid and place. -/
import Derived.Test.YtgejjdkgeoojmaaKiE
import Derived.Test.YtgejjdkgeoojmaaGrOk
namespace Go.Proofs.Ytgejjdkgeoojmaa.Gr
open Go.RowKit Go.Proofs.Ytgejjdkgeoojmaa.Bytes Go.Proofs.Ytgejjdkgeoojmaa.Rows_ Go.Proofs.Ytgejjdkgeoojmaa.RowK
set_option linter.unusedVariables false
set_option maxRecDepth 100000 in
set_option maxHeartbeats 3200000 in
theorem spec_GridAt_no (gw gh : Int) (A : Option Addr) (n c : Nat) (cs : List CellD) (x y : Int) (w : World) (hr : RdC w w.heap.size A cs) (hl : cs.length = n) (hn : n ≤ 1099511627776) (hno : (okG gw gh cs && inB gw gh x y) = false) :
    Calls Try.prog 24 #[.agg #[.int .i64 gw, .int .i64 gh, .slice A n c], .int .i64 x, .int .i64 y] w fun e w' => e = .returned (.agg #[.int .i64 0, .int .i64 0, .int .i64 0, .bool false, .bool false, .bool false]) ∧ Below w.heap.size w w' := by
  have hb0 := Lib.hid (((Below.refl w.heap.size w).alloc (Nat.le_refl _) (.cells #[.int .i64 gw, .int .i64 gh, .slice A n c] 29)).alloc (by simp) (.cells #[.int .i64 0, .int .i64 0, .int .i64 0, .bool false, .bool false, .bool false] 40))
  have HK := Lib.hid (spec_GridOk_any gw gh A n c cs _ ((hr.below (Nat.le_refl _) hb0.out).more (by simp; omega)) hl hn)
  clear hr hl
  have s1 : w.heap.size < w.heap.size + 1 + 1 := by omega
  have s2 : w.heap.size + 1 < w.heap.size + 1 + 1 := by omega
  cases ho : okG gw gh cs
  · have HO := Lib.hid ho
    clear ho hno
    go_enter Try.func24, Try.ntmps24
    go_wp2_with fail
    refine HK.out.mono ?_
    rintro e v1 ⟨rfl, hb1⟩
    rw [HO.out]
    obtain ⟨hc, hf⟩ := Rows_.bcell hb1
    have HB1 := Lib.hid (hb0.out.trans (hb1.mono (by simp; omega)))
    have hz : w.heap.size + 1 < v1.heap.size := by have := hb1.size; simp at this; omega
    clear hb1
    go_wp2_with fail
    refine bodyPost_ret (v := .agg #[.int .i64 0, .int .i64 0, .int .i64 0, .bool false, .bool false, .bool false]) (by simp [results, Try.results24, go_sem, hc]) rfl ⟨rfl, ?_⟩
    exact (((((HB1.out.setCell (by simp) _).setCell (by simp) _).setCell (by simp) _).setCell (by simp) _).setCell (by simp) _).setCell (by simp) _
  · rw [ho, Bool.true_and] at hno
    have HO := Lib.hid ho
    clear ho
    have hno' : ¬ (0 ≤ x ∧ x < gw ∧ 0 ≤ y ∧ y < gh) := of_decide_eq_false hno
    clear hno
    by_cases h1 : 0 ≤ x
    · by_cases h2 : x < gw
      · by_cases h3 : 0 ≤ y
        · have h4 : gh ≤ y := by omega
          clear hno'
          go_enter Try.func24, Try.ntmps24
          go_wp2_with fail
          refine HK.out.mono ?_
          rintro e v1 ⟨rfl, hb1⟩
          rw [HO.out]
          obtain ⟨hc, hf⟩ := Rows_.bcell hb1
          have HB1 := Lib.hid (hb0.out.trans (hb1.mono (by simp; omega)))
          have hz : w.heap.size + 1 < v1.heap.size := by have := hb1.size; simp at this; omega
          clear hb1
          go_wp2_with fail
          refine bodyPost_ret (v := .agg #[.int .i64 0, .int .i64 0, .int .i64 0, .bool false, .bool false, .bool false]) (by simp [results, Try.results24, go_sem, hc]) rfl ⟨rfl, ?_⟩
          exact (((((HB1.out.setCell (by simp) _).setCell (by simp) _).setCell (by simp) _).setCell (by simp) _).setCell (by simp) _).setCell (by simp) _
        · clear hno'
          go_enter Try.func24, Try.ntmps24
          go_wp2_with fail
          refine HK.out.mono ?_
          rintro e v1 ⟨rfl, hb1⟩
          rw [HO.out]
          obtain ⟨hc, hf⟩ := Rows_.bcell hb1
          have HB1 := Lib.hid (hb0.out.trans (hb1.mono (by simp; omega)))
          have hz : w.heap.size + 1 < v1.heap.size := by have := hb1.size; simp at this; omega
          clear hb1
          go_wp2_with fail
          refine bodyPost_ret (v := .agg #[.int .i64 0, .int .i64 0, .int .i64 0, .bool false, .bool false, .bool false]) (by simp [results, Try.results24, go_sem, hc]) rfl ⟨rfl, ?_⟩
          exact (((((HB1.out.setCell (by simp) _).setCell (by simp) _).setCell (by simp) _).setCell (by simp) _).setCell (by simp) _).setCell (by simp) _
      · clear hno'
        go_enter Try.func24, Try.ntmps24
        go_wp2_with fail
        refine HK.out.mono ?_
        rintro e v1 ⟨rfl, hb1⟩
        rw [HO.out]
        obtain ⟨hc, hf⟩ := Rows_.bcell hb1
        have HB1 := Lib.hid (hb0.out.trans (hb1.mono (by simp; omega)))
        have hz : w.heap.size + 1 < v1.heap.size := by have := hb1.size; simp at this; omega
        clear hb1
        go_wp2_with fail
        refine bodyPost_ret (v := .agg #[.int .i64 0, .int .i64 0, .int .i64 0, .bool false, .bool false, .bool false]) (by simp [results, Try.results24, go_sem, hc]) rfl ⟨rfl, ?_⟩
        exact (((((HB1.out.setCell (by simp) _).setCell (by simp) _).setCell (by simp) _).setCell (by simp) _).setCell (by simp) _).setCell (by simp) _
    · clear hno'
      go_enter Try.func24, Try.ntmps24
      go_wp2_with fail
      refine HK.out.mono ?_
      rintro e v1 ⟨rfl, hb1⟩
      rw [HO.out]
      obtain ⟨hc, hf⟩ := Rows_.bcell hb1
      have HB1 := Lib.hid (hb0.out.trans (hb1.mono (by simp; omega)))
      have hz : w.heap.size + 1 < v1.heap.size := by have := hb1.size; simp at this; omega
      clear hb1
      go_wp2_with fail
      refine bodyPost_ret (v := .agg #[.int .i64 0, .int .i64 0, .int .i64 0, .bool false, .bool false, .bool false]) (by simp [results, Try.results24, go_sem, hc]) rfl ⟨rfl, ?_⟩
      exact (((((HB1.out.setCell (by simp) _).setCell (by simp) _).setCell (by simp) _).setCell (by simp) _).setCell (by simp) _).setCell (by simp) _

set_option maxRecDepth 100000 in
set_option maxHeartbeats 3200000 in
theorem impl_GridAt_no (gw gh : Int) (A : Option Addr) (n c : Nat) (cs : List CellD) (x y : Int) (w : World) (hr : RdC w w.heap.size A cs) (hl : cs.length = n) (hn : n ≤ 1099511627776) (hno : (okG gw gh cs && inB gw gh x y) = false) :
    Calls Try.prog 25 #[.agg #[.int .i64 gw, .int .i64 gh, .slice A n c], .int .i64 x, .int .i64 y] w fun e w' => e = .returned (.agg #[.int .i64 0, .int .i64 0, .int .i64 0, .bool false, .bool false, .bool false]) ∧ Below w.heap.size w w' := by
  have hb0 := Lib.hid (((Below.refl w.heap.size w).alloc (Nat.le_refl _) (.cells #[.int .i64 gw, .int .i64 gh, .slice A n c] 29)).alloc (by simp) (.cells #[.int .i64 0, .int .i64 0, .int .i64 0, .bool false, .bool false, .bool false] 40))
  have HK := Lib.hid (impl_GridOk_any gw gh A n c cs _ ((hr.below (Nat.le_refl _) hb0.out).more (by simp; omega)) hl hn)
  clear hr hl
  have s1 : w.heap.size < w.heap.size + 1 + 1 := by omega
  have s2 : w.heap.size + 1 < w.heap.size + 1 + 1 := by omega
  cases ho : okG gw gh cs
  · have HO := Lib.hid ho
    clear ho hno
    go_enter Try.func25, Try.ntmps25
    go_wp2_with fail
    refine HK.out.mono ?_
    rintro e v1 ⟨rfl, hb1⟩
    rw [HO.out]
    obtain ⟨hc, hf⟩ := Rows_.bcell hb1
    have HB1 := Lib.hid (hb0.out.trans (hb1.mono (by simp; omega)))
    have hz : w.heap.size + 1 < v1.heap.size := by have := hb1.size; simp at this; omega
    clear hb1
    go_wp2_with fail
    refine bodyPost_ret (v := .agg #[.int .i64 0, .int .i64 0, .int .i64 0, .bool false, .bool false, .bool false]) (by simp [results, Try.results25, go_sem, hc]) rfl ⟨rfl, ?_⟩
    exact (((((HB1.out.setCell (by simp) _).setCell (by simp) _).setCell (by simp) _).setCell (by simp) _).setCell (by simp) _).setCell (by simp) _
  · rw [ho, Bool.true_and] at hno
    have HO := Lib.hid ho
    clear ho
    have HI := Lib.hid hno
    clear hno
    go_enter Try.func25, Try.ntmps25
    go_wp2_with fail
    refine HK.out.mono ?_
    rintro e v1 ⟨rfl, hb1⟩
    rw [HO.out]
    obtain ⟨hc, hf⟩ := Rows_.bcell hb1
    have HB1 := Lib.hid (hb0.out.trans (hb1.mono (by simp; omega)))
    have hz : w.heap.size + 1 < v1.heap.size := by have := hb1.size; simp at this; omega
    clear hb1
    go_wp2_with fail
    refine (hasCell_any _ _ _ _ _ _ _ _).mono ?_
    rintro e v2 ⟨rfl, hb2⟩
    rw [HI.out]
    obtain ⟨hc2, hf2⟩ := Rows_.bcell hb2
    have HB2 := Lib.hid (HB1.out.trans (hb2.mono (by omega)))
    have hz2 : w.heap.size + 1 < v2.heap.size := by have := hb2.size; omega
    clear hb2
    go_wp2_with fail
    refine bodyPost_ret (v := .agg #[.int .i64 0, .int .i64 0, .int .i64 0, .bool false, .bool false, .bool false]) (by simp [results, Try.results25, go_sem, hc, hc2, hz]) rfl ⟨rfl, ?_⟩
    exact (((((HB2.out.setCell (by simp) _).setCell (by simp) _).setCell (by simp) _).setCell (by simp) _).setCell (by simp) _).setCell (by simp) _

set_option maxRecDepth 100000 in
set_option maxHeartbeats 3200000 in
theorem spec_GridAt_yes (W H : Nat) (b o : Nat) (n c : Nat) (cs : List CellD) (x y : Nat) (w : World) (hr : RdC w w.heap.size (some ⟨b, o, none⟩) cs) (hl : cs.length = n) (hn : n ≤ 1099511627776) (hnc : n ≤ c) (hc : c ≤ 9223372036854775807) (ho : okG (W : Int) (H : Int) cs = true) (hx : x < W) (hy : y < H) (k : Nat) (hk : y * W + x = k) (hkl : k < cs.length) :
    Calls Try.prog 24 #[.agg #[.int .i64 (W : Int), .int .i64 (H : Int), .slice (some ⟨b, o, none⟩) n c], .int .i64 (x : Int), .int .i64 (y : Int)] w fun e w' => e = .returned (cellV cs[k]) ∧ Below w.heap.size w w' := by
  have hb0 := Lib.hid (((Below.refl w.heap.size w).alloc (Nat.le_refl _) (.cells #[.int .i64 (W : Int), .int .i64 (H : Int), .slice (some ⟨b, o, none⟩) n c] 29)).alloc (by simp) (.cells #[.int .i64 0, .int .i64 0, .int .i64 0, .bool false, .bool false, .bool false] 40))
  have HK := Lib.hid (spec_GridOk_any (W : Int) (H : Int) (some ⟨b, o, none⟩) n c cs _ ((hr.below (Nat.le_refl _) hb0.out).more (by simp; omega)) hl hn)
  obtain ⟨⟨g1, g2, g3, g4, g5⟩, g6, _⟩ := of_okG ho
  obtain ⟨b, o', hA, hB, q0, q1, q2, q3, q4, q5⟩ := hr.at_ hkl
  injection hA with hA
  injection hA with hA1 hA2
  subst hA1 hA2
  have HO := Lib.hid ho
  have hkn : k < n := by omega
  have HLO := Lib.hid hk
  have hylt : y * W + W ≤ n := by
    have h1 : (y + 1) * W ≤ H * W := Nat.mul_le_mul_right W hy
    have h2 : (n : Int) = ((W * H : Nat) : Int) := by rw [← hl, g6, Int.natCast_mul]
    rw [Nat.add_mul] at h1
    rw [Nat.mul_comm H W] at h1
    omega
  clear ho hr hl hk g5 g6
  unfold cellV
  generalize cs[k].r = z0 at *
  generalize cs[k].fg = z1 at *
  generalize cs[k].bg = z2 at *
  generalize cs[k].b = z3 at *
  generalize cs[k].u = z4 at *
  generalize cs[k].t = z5 at *
  clear hkl
  have s1 : w.heap.size < w.heap.size + 1 + 1 := by omega
  have s2 : w.heap.size + 1 < w.heap.size + 1 + 1 := by omega
  obtain ⟨lo, hlo⟩ : ∃ lo, lo = y * W := ⟨_, rfl⟩
  have e1 : IntKind.i64.wrap ((y : Int) * (W : Int)) = (lo : Int) := by rw [← Int.natCast_mul, ← hlo]; exact IntWalk.i64_in _ (by omega)
  have e2 : IntKind.i64.wrap ((lo : Int) + (x : Int)) = (k : Int) := by rw [← HLO.out, ← hlo, ← Int.natCast_add]; exact IntWalk.i64_in _ (by omega)
  clear hlo hylt
  go_enter Try.func24, Try.ntmps24
  go_wp2_with fail
  refine HK.out.mono ?_
  rintro e v1 ⟨rfl, hb1⟩
  rw [HO.out]
  obtain ⟨hc, hf⟩ := Rows_.bcell hb1
  have HB1 := Lib.hid (hb0.out.trans (hb1.mono (by simp; omega)))
  have hz : w.heap.size + 1 < v1.heap.size := by have := hb1.size; simp at this; omega
  clear hb1
  have Q0 := Lib.hid ((HB1.out.cell (p := ⟨b, o + k * 6, none⟩) hB).trans q0)
  have Q1 := Lib.hid ((HB1.out.cell (p := ⟨b, o + k * 6 + 1, none⟩) hB).trans q1)
  have Q2 := Lib.hid ((HB1.out.cell (p := ⟨b, o + k * 6 + 2, none⟩) hB).trans q2)
  have Q3 := Lib.hid ((HB1.out.cell (p := ⟨b, o + k * 6 + 3, none⟩) hB).trans q3)
  have Q4 := Lib.hid ((HB1.out.cell (p := ⟨b, o + k * 6 + 4, none⟩) hB).trans q4)
  have Q5 := Lib.hid ((HB1.out.cell (p := ⟨b, o + k * 6 + 5, none⟩) hB).trans q5)
  clear q0 q1 q2 q3 q4 q5
  have q0 := Q0.out
  have q1 := Q1.out
  have q2 := Q2.out
  have q3 := Q3.out
  have q4 := Q4.out
  have q5 := Q5.out
  go_wp2_with fail
  refine bodyPost_ret (v := .agg #[.int .i64 z0, .int .i64 z1, .int .i64 z2, .bool z3, .bool z4, .bool z5]) (by simp [results, Try.results24, go_sem, hc]) rfl ⟨rfl, ?_⟩
  exact (((((HB1.out.setCell (by simp) _).setCell (by simp) _).setCell (by simp) _).setCell (by simp) _).setCell (by simp) _).setCell (by simp) _

set_option maxRecDepth 100000 in
set_option maxHeartbeats 3200000 in
theorem impl_GridAt_yes (W H : Nat) (b o : Nat) (n c : Nat) (cs : List CellD) (x y : Nat) (w : World) (hr : RdC w w.heap.size (some ⟨b, o, none⟩) cs) (hl : cs.length = n) (hn : n ≤ 1099511627776) (hnc : n ≤ c) (hc : c ≤ 9223372036854775807) (ho : okG (W : Int) (H : Int) cs = true) (hx : x < W) (hy : y < H) (k : Nat) (hk : y * W + x = k) (hkl : k < cs.length) :
    Calls Try.prog 25 #[.agg #[.int .i64 (W : Int), .int .i64 (H : Int), .slice (some ⟨b, o, none⟩) n c], .int .i64 (x : Int), .int .i64 (y : Int)] w fun e w' => e = .returned (cellV cs[k]) ∧ Below w.heap.size w w' := by
  have hb0 := Lib.hid (((Below.refl w.heap.size w).alloc (Nat.le_refl _) (.cells #[.int .i64 (W : Int), .int .i64 (H : Int), .slice (some ⟨b, o, none⟩) n c] 29)).alloc (by simp) (.cells #[.int .i64 0, .int .i64 0, .int .i64 0, .bool false, .bool false, .bool false] 40))
  have HK := Lib.hid (impl_GridOk_any (W : Int) (H : Int) (some ⟨b, o, none⟩) n c cs _ ((hr.below (Nat.le_refl _) hb0.out).more (by simp; omega)) hl hn)
  obtain ⟨⟨g1, g2, g3, g4, g5⟩, g6, _⟩ := of_okG ho
  obtain ⟨b, o', hA, hB, q0, q1, q2, q3, q4, q5⟩ := hr.at_ hkl
  injection hA with hA
  injection hA with hA1 hA2
  subst hA1 hA2
  have HO := Lib.hid ho
  have hkn : k < n := by omega
  have HLO := Lib.hid hk
  have hylt : y * W + W ≤ n := by
    have h1 : (y + 1) * W ≤ H * W := Nat.mul_le_mul_right W hy
    have h2 : (n : Int) = ((W * H : Nat) : Int) := by rw [← hl, g6, Int.natCast_mul]
    rw [Nat.add_mul] at h1
    rw [Nat.mul_comm H W] at h1
    omega
  clear ho hr hl hk g5 g6
  unfold cellV
  generalize cs[k].r = z0 at *
  generalize cs[k].fg = z1 at *
  generalize cs[k].bg = z2 at *
  generalize cs[k].b = z3 at *
  generalize cs[k].u = z4 at *
  generalize cs[k].t = z5 at *
  clear hkl
  have s1 : w.heap.size < w.heap.size + 1 + 1 := by omega
  have s2 : w.heap.size + 1 < w.heap.size + 1 + 1 := by omega
  have HIN := Lib.hid (show inB (W : Int) (H : Int) (x : Int) (y : Int) = true from decide_eq_true (by omega))
  have HRO := Lib.hid (fun V => rowOf_any W (H : Int) b o n c y V (by omega) hylt (by omega) hnc hn hc)
  have HAD := Lib.hid (show o + k * 6 = o + y * W * 6 + x * 6 by rw [← HLO.out, Nat.add_mul]; omega)
  rw [HAD.out] at q0 q1 q2 q3 q4 q5
  clear HAD hylt
  go_enter Try.func25, Try.ntmps25
  go_wp2_with fail
  refine HK.out.mono ?_
  rintro e v1 ⟨rfl, hb1⟩
  rw [HO.out]
  obtain ⟨hc, hf⟩ := Rows_.bcell hb1
  have HB1 := Lib.hid (hb0.out.trans (hb1.mono (by simp; omega)))
  have hz : w.heap.size + 1 < v1.heap.size := by have := hb1.size; simp at this; omega
  clear hb1
  have Q0 := Lib.hid ((HB1.out.cell (p := ⟨b, o + y * W * 6 + x * 6, none⟩) hB).trans q0)
  have Q1 := Lib.hid ((HB1.out.cell (p := ⟨b, o + y * W * 6 + x * 6 + 1, none⟩) hB).trans q1)
  have Q2 := Lib.hid ((HB1.out.cell (p := ⟨b, o + y * W * 6 + x * 6 + 2, none⟩) hB).trans q2)
  have Q3 := Lib.hid ((HB1.out.cell (p := ⟨b, o + y * W * 6 + x * 6 + 3, none⟩) hB).trans q3)
  have Q4 := Lib.hid ((HB1.out.cell (p := ⟨b, o + y * W * 6 + x * 6 + 4, none⟩) hB).trans q4)
  have Q5 := Lib.hid ((HB1.out.cell (p := ⟨b, o + y * W * 6 + x * 6 + 5, none⟩) hB).trans q5)
  clear q0 q1 q2 q3 q4 q5
  go_wp2_with fail
  refine (hasCell_any _ _ _ _ _ _ _ _).mono ?_
  rintro e v2 ⟨rfl, hb2⟩
  rw [HIN.out]
  obtain ⟨hc2, hf2⟩ := Rows_.bcell hb2
  have HB2 := Lib.hid (HB1.out.trans (hb2.mono (by omega)))
  have hz2 : w.heap.size + 1 < v2.heap.size := by have := hb2.size; omega
  have HX2 := Lib.hid hb2
  have hz1 : v1.heap.size ≤ v2.heap.size := hb2.size
  have hz4 : w.heap.size < v1.heap.size := by omega
  have hz5 : w.heap.size < v2.heap.size := by omega
  clear hb2
  go_wp2_with fail
  refine (HRO.out _).mono ?_
  rintro e v3 ⟨rfl, hb3⟩
  obtain ⟨hc3, hf3⟩ := Rows_.bcell hb3
  have HB3 := Lib.hid (HB2.out.trans (hb3.mono (by omega)))
  have hz3 : w.heap.size + 1 < v3.heap.size := by have := hb3.size; omega
  have q0 : v3.cell? ⟨b, o + y * W * 6 + x * 6, none⟩ = _ := (hb3.cell (p := ⟨b, o + y * W * 6 + x * 6, none⟩) (by show b < v2.heap.size; omega)).trans ((HX2.out.cell (p := ⟨b, o + y * W * 6 + x * 6, none⟩) (by show b < v1.heap.size; omega)).trans Q0.out)
  have q1 : v3.cell? ⟨b, o + y * W * 6 + x * 6 + 1, none⟩ = _ := (hb3.cell (p := ⟨b, o + y * W * 6 + x * 6 + 1, none⟩) (by show b < v2.heap.size; omega)).trans ((HX2.out.cell (p := ⟨b, o + y * W * 6 + x * 6 + 1, none⟩) (by show b < v1.heap.size; omega)).trans Q1.out)
  have q2 : v3.cell? ⟨b, o + y * W * 6 + x * 6 + 2, none⟩ = _ := (hb3.cell (p := ⟨b, o + y * W * 6 + x * 6 + 2, none⟩) (by show b < v2.heap.size; omega)).trans ((HX2.out.cell (p := ⟨b, o + y * W * 6 + x * 6 + 2, none⟩) (by show b < v1.heap.size; omega)).trans Q2.out)
  have q3 : v3.cell? ⟨b, o + y * W * 6 + x * 6 + 3, none⟩ = _ := (hb3.cell (p := ⟨b, o + y * W * 6 + x * 6 + 3, none⟩) (by show b < v2.heap.size; omega)).trans ((HX2.out.cell (p := ⟨b, o + y * W * 6 + x * 6 + 3, none⟩) (by show b < v1.heap.size; omega)).trans Q3.out)
  have q4 : v3.cell? ⟨b, o + y * W * 6 + x * 6 + 4, none⟩ = _ := (hb3.cell (p := ⟨b, o + y * W * 6 + x * 6 + 4, none⟩) (by show b < v2.heap.size; omega)).trans ((HX2.out.cell (p := ⟨b, o + y * W * 6 + x * 6 + 4, none⟩) (by show b < v1.heap.size; omega)).trans Q4.out)
  have q5 : v3.cell? ⟨b, o + y * W * 6 + x * 6 + 5, none⟩ = _ := (hb3.cell (p := ⟨b, o + y * W * 6 + x * 6 + 5, none⟩) (by show b < v2.heap.size; omega)).trans ((HX2.out.cell (p := ⟨b, o + y * W * 6 + x * 6 + 5, none⟩) (by show b < v1.heap.size; omega)).trans Q5.out)
  clear hb3
  go_wp2_with fail
  refine bodyPost_ret (v := .agg #[.int .i64 z0, .int .i64 z1, .int .i64 z2, .bool z3, .bool z4, .bool z5]) (by simp [results, Try.results25, go_sem, hc, hc2, hc3, hz, hz2]) rfl ⟨rfl, ?_⟩
  exact (((((HB3.out.setCell (by simp) _).setCell (by simp) _).setCell (by simp) _).setCell (by simp) _).setCell (by simp) _).setCell (by simp) _


end Go.Proofs.Ytgejjdkgeoojmaa.Gr

