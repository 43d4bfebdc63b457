/- GridFill in the program: row after row filled, in a copy. -/
import Derived.Test.YtknopmbjbokpaaaGrFillM
import Derived.Test.YtknopmbjbokpaaaGrRoll
import Derived.Deep.RegionHeld3
namespace Go.Proofs.Ytknopmbjbokpaaa.Gr
open Go.RowKit Go.Proofs.Ytknopmbjbokpaaa.Bytes Go.Proofs.Ytknopmbjbokpaaa.Rows_ Go.Proofs.Ytknopmbjbokpaaa.RowK
set_option linter.unusedVariables false
def BoxC (w : World) (b : Nat) (cs : Array Value) : Prop := w.heap[b]? = some (.cells cs 37 (0, 0))
theorem BoxC.lt {w : World} {b : Nat} {cs : Array Value} (h : BoxC w b cs) : b < w.heap.size := (Array.getElem?_eq_some_iff.1 h).1
theorem BoxC.cell {w : World} {b : Nat} {cs : Array Value} (h : BoxC w b cs) (j : Nat) : w.cell? ⟨b, j, none⟩ = cs[j]? := by unfold BoxC at h; simp [World.cell?, h]
theorem BoxC.below {w w' : World} {b B : Nat} {cs : Array Value} (h : BoxC w b cs) (hb : Below B w w') (hB : b < B) : BoxC w' b cs := by unfold BoxC at h ⊢; rw [hb.block b hB]; exact h
theorem BoxC.only {S : Nat → Prop} {w w' : World} {b : Nat} {cs : Array Value} (h : BoxC w b cs) (on : Only S w w') (hn : ¬ S b) : BoxC w' b cs := by
  have hl := h.lt
  unfold BoxC at h ⊢; rw [on.block b hl hn]; exact h
theorem BoxC.new (w : World) (cs : Array Value) : BoxC (w.alloc (.cells cs 37)) w.heap.size cs := heap_alloc_new w _
set_option maxRecDepth 100000 in
theorem isReach_any (x : Int) (w : World) : Calls Try.prog 56 #[.int .i64 x] w fun e w' => e = .returned (.bool (smallB x)) ∧ w = w' := by
  by_cases h1 : -100000 ≤ x
  · have HE := Lib.hid (show smallB x = decide (x ≤ 100000) by unfold smallB; simp [h1])
    go_enter Try.func56, Try.ntmps56
    go_wp2_with fail
    go_ret
    exact ⟨ret_bool HE.out.symm, rfl⟩
  · have HE := Lib.hid (show smallB x = false by unfold smallB; simp [h1])
    go_enter Try.func56, Try.ntmps56
    go_wp2_with fail
    go_ret
    exact ⟨ret_bool HE.out.symm, rfl⟩
theorem of_smallB {x : Int} (h : smallB x = true) : -100000 ≤ x ∧ x ≤ 100000 := of_decide_eq_true h

set_option maxRecDepth 100000 in
set_option maxHeartbeats 6400000 in
theorem impl_GridFill_yes (W H : Nat) (b o n c : Nat) (cs : List CellD) (x y ww wh : Int) (z0 z1 z2 : Int) (z3 z4 z5 : Bool) (w : World) (hr : RdC w w.heap.size (some ⟨b, o, none⟩) cs) (hl : cs.length = n) (hn : n ≤ 1048576) (ho : okG (W : Int) (H : Int) cs = true) (hz : (Rune.showB z0 && Attr.okA z1 z2) = true) (s1 : smallB x = true) (s2 : smallB y = true) (s3 : smallB ww = true) (s4 : smallB wh = true) (hW1 : 1 ≤ W) (hW : W ≤ 120) (hH1 : 1 ≤ H) (hH : H ≤ 120) (hWH : n = W * H) :
    Calls Try.prog 36 #[.agg #[.int .i64 (W : Int), .int .i64 (H : Int), .slice (some ⟨b, o, none⟩) n c], .int .i64 x, .int .i64 y, .int .i64 ww, .int .i64 wh, .agg #[.int .i64 z0, .int .i64 z1, .int .i64 z2, .bool z3, .bool z4, .bool z5]] w (AnsT w ((W : Int), (H : Int), mixL cs W x y ww wh ⟨z0, z1, z2, z3, z4, z5⟩ H)) := by
  have hb0 := Lib.hid ((((Below.refl w.heap.size w).alloc (Nat.le_refl _) (.cells #[.int .i64 (W : Int), .int .i64 (H : Int), .slice (some ⟨b, o, none⟩) n c] 25)).alloc (by simp) (.cells #[.int .i64 z0, .int .i64 z1, .int .i64 z2, .bool z3, .bool z4, .bool z5] 37)).alloc (by simp; omega) (.cells #[.int .i64 0, .int .i64 0, .slice none 0 0] 25))
  have HK := Lib.hid (impl_GridOk_any (W : Int) (H : Int) (some ⟨b, o, none⟩) n c cs _ ((hr.below (Nat.le_refl _) hb0.out).more (by simp; omega)) hl (by omega))
  have X0 := Lib.hid (((BoxG.new w #[.int .i64 (W : Int), .int .i64 (H : Int), .slice (some ⟨b, o, none⟩) n c]).below ((Below.refl _ _).alloc (Nat.le_refl _) (.cells #[.int .i64 z0, .int .i64 z1, .int .i64 z2, .bool z3, .bool z4, .bool z5] 37)) (by simp)).below ((Below.refl _ _).alloc (Nat.le_refl _) (.cells #[.int .i64 0, .int .i64 0, .slice none 0 0] 25)) (by simp; omega))
  have xc := (BoxC.new (w.alloc (.cells #[.int .i64 (W : Int), .int .i64 (H : Int), .slice (some ⟨b, o, none⟩) n c] 25)) #[.int .i64 z0, .int .i64 z1, .int .i64 z2, .bool z3, .bool z4, .bool z5]).below ((Below.refl _ _).alloc (Nat.le_refl _) (.cells #[.int .i64 0, .int .i64 0, .slice none 0 0] 25)) (by simp)
  simp only [World.size_alloc] at xc
  have XC := Lib.hid xc
  have x1 := BoxG.new ((w.alloc (.cells #[.int .i64 (W : Int), .int .i64 (H : Int), .slice (some ⟨b, o, none⟩) n c] 25)).alloc (.cells #[.int .i64 z0, .int .i64 z1, .int .i64 z2, .bool z3, .bool z4, .bool z5] 37)) #[.int .i64 0, .int .i64 0, .slice none 0 0]
  simp only [World.size_alloc] at x1
  have X1 := Lib.hid x1
  have HO := Lib.hid ho
  have HZ := Lib.hid hz
  have S1 := Lib.hid s1
  have S2 := Lib.hid s2
  have S3 := Lib.hid s3
  have S4 := Lib.hid s4
  have HR := Lib.hid hr
  have HL := Lib.hid hl
  have HCP := Lib.hid (fun V (h : Below w.heap.size w V) => copyGrid_any (W : Int) (H : Int) (some ⟨b, o, none⟩) n c cs V (fun h => by cases h) ((HR.out.below (Nat.le_refl _) h).more h.size) HL.out (by omega))
  have k1 := of_smallB s1
  have k2 := of_smallB s2
  have k3 := of_smallB s3
  have k4 := of_smallB s4
  have bd1 := clampV_bdF x 0 (W : Int) (by omega)
  have bd2 := clampV_bdF (x + ww) (clampV x 0 (W : Int)) (W : Int) bd1.2
  have bd3 := clampV_bdF y 0 (H : Int) (by omega)
  have bd4 := clampV_bdF (y + wh) (clampV y 0 (H : Int)) (H : Int) bd3.2
  obtain ⟨lx, hlx⟩ := Int.eq_ofNat_of_zero_le bd1.1
  obtain ⟨ex, hex⟩ := Int.eq_ofNat_of_zero_le (show 0 ≤ clampV (x + ww) (clampV x 0 (W : Int)) (W : Int) by omega)
  obtain ⟨ty, hty⟩ := Int.eq_ofNat_of_zero_le bd3.1
  obtain ⟨ey, hey⟩ := Int.eq_ofNat_of_zero_le (show 0 ≤ clampV (y + wh) (clampV y 0 (H : Int)) (H : Int) by omega)
  have HWx := Lib.hid (fun V => (show Calls Try.prog 57 #[.int .i64 x, .int .i64 ww, .int .i64 (W : Int)] V (fun e w' => e = .returned (.tuple #[.int .i64 (lx : Int), .int .i64 (ex : Int)]) ∧ V = w') by have h := within_any x ww (W : Int) V k1 k3 (by omega); rw [hex, hlx] at h; exact h))
  have HWy := Lib.hid (fun V => (show Calls Try.prog 57 #[.int .i64 y, .int .i64 wh, .int .i64 (H : Int)] V (fun e w' => e = .returned (.tuple #[.int .i64 (ty : Int), .int .i64 (ey : Int)]) ∧ V = w') by have h := within_any y wh (H : Int) V k2 k4 (by omega); rw [hey, hty] at h; exact h))
  have HTOP := Lib.hid (mixL_top (cs := cs) (W := W) (H := H) (x := x) (y := y) (w := ww) (h := wh) (z := ⟨z0, z1, z2, z3, z4, z5⟩) hty.symm)
  have HEND := Lib.hid (mixL_end (cs := cs) (W := W) (H := H) (x := x) (y := y) (w := ww) (h := wh) (z := ⟨z0, z1, z2, z3, z4, z5⟩) hW1 (by omega) hey.symm)
  have HROW := Lib.hid (fun (r : Nat) (h1 : ty ≤ r) (h2 : r < ey) => mixL_row (cs := cs) (W := W) (H := H) (x := x) (y := y) (w := ww) (h := wh) (z := ⟨z0, z1, z2, z3, z4, z5⟩) (l := lx) (e := ex) (r := r) (c := r * W) hW1 (by omega) (by omega) hlx.symm hex.symm (by unfold clampV at hty; split at hty <;> (try split at hty) <;> omega) (by unfold clampV at hey hty; split at hey <;> (try split at hey) <;> (try split at hey) <;> (try split at hey) <;> omega) rfl)
  have q1 : lx ≤ ex := by omega
  have q2 : ex ≤ W := by omega
  have q3 : ty ≤ ey := by omega
  have q4 : ey ≤ H := by omega
  have HRB := Lib.hid (fun (r : Nat) (h2 : r < H) => (show r * W + W ≤ n by
    have h1 : (r + 1) * W ≤ H * W := Nat.mul_le_mul_right W h2
    rw [Nat.add_mul, Nat.mul_comm H W] at h1; omega))
  have hn0 : 0 < n := by have := HRB.out 0 (by omega); omega
  clear hWH ho hz hr hl x1 xc s1 s2 s3 s4 k1 k2 k3 k4 bd1 bd2 bd3 bd4 hlx hex hty hey
  go_enter Try.func36, Try.ntmps36
  go_wp2_with fail
  refine HK.out.mono ?_
  rintro e v1 ⟨rfl, hb1⟩
  rw [HO.out]
  have x0 := X0.out.below hb1 (by simp; omega)
  have xc := XC.out.below hb1 (by simp)
  have X1a := Lib.hid (X1.out.below hb1 (by simp))
  have X0a := Lib.hid x0
  have XCa := Lib.hid xc
  have HB1 := Lib.hid (hb0.out.trans (hb1.mono (by simp; omega)))
  have q0 := x0.cell 0
  have q0' := x0.cell 1
  have q0'' := x0.cell 2
  have c0 := xc.cell 0
  have c1 := xc.cell 1
  have c2 := xc.cell 2
  have c3_ := xc.cell 3
  have c4 := xc.cell 4
  have c5 := xc.cell 5
  have hz1 : w.heap.size + 2 < v1.heap.size := by have := hb1.size; simp at this; omega
  clear hb1 x0 xc X0 X1 XC
  go_wp2_with fail
  refine (impl_CellOk_any z0 z1 z2 z3 z4 z5 _).mono ?_
  rintro e v2 ⟨rfl, hb2⟩
  rw [HZ.out]
  clear q0 q0' q0'' c0 c1 c2 c3_ c4 c5
  have x0 := X0a.out.below hb2 (by omega)
  have xc := XCa.out.below hb2 (by omega)
  have X1b := Lib.hid (X1a.out.below hb2 (by omega))
  have X0b := Lib.hid x0
  have XCb := Lib.hid xc
  have HB2 := Lib.hid (HB1.out.trans (hb2.mono (by omega)))
  have q0 := x0.cell 0
  have q0' := x0.cell 1
  have q0'' := x0.cell 2
  have hz2 : w.heap.size + 2 < v2.heap.size := by have := hb2.size; omega
  clear hb2 x0 xc X0a X1a XCa
  go_wp2_with fail
  (with_reducible refine (isReach_any x _).mono ?_)
  rintro e v ⟨rfl, rfl⟩
  rw [S1.out]
  go_wp2_with fail
  (with_reducible refine (isReach_any y _).mono ?_)
  rintro e v ⟨rfl, rfl⟩
  rw [S2.out]
  go_wp2_with fail
  (with_reducible refine (isReach_any ww _).mono ?_)
  rintro e v ⟨rfl, rfl⟩
  rw [S3.out]
  go_wp2_with fail
  (with_reducible refine (isReach_any wh _).mono ?_)
  rintro e v ⟨rfl, rfl⟩
  rw [S4.out]
  go_wp2_with fail
  refine (HCP.out _ HB2.out).mono ?_
  rintro e v3 ⟨A3, c3, rfl, ho3, hb3⟩
  obtain ⟨g, rfl⟩ := ho3.addr (by omega)
  have hcap := ho3.cap
  clear q0 q0' q0''
  have hg := ho3.blk g rfl
  have HB3 := Lib.hid (HB2.out.trans (hb3.mono (by omega)))
  have hz3 : w.heap.size + 2 < v3.heap.size := by have := hb3.size; omega
  have hal := (Below.refl v3.heap.size v3).alloc (Nat.le_refl _) (.cells #[.int .i64 (W : Int), .int .i64 (H : Int), .slice (some ⟨g, 0, none⟩) n c3] 25)
  have X1c := Lib.hid ((X1b.out.below hb3 (by omega)).below hal (by omega))
  have x0c := (X0b.out.below hb3 (by omega)).below hal (by omega)
  have XCc := Lib.hid ((XCb.out.below hb3 (by omega)).below hal (by omega))
  have X9 := Lib.hid (BoxG.new v3 #[.int .i64 (W : Int), .int .i64 (H : Int), .slice (some ⟨g, 0, none⟩) n c3])
  have HO3 := Lib.hid ((ho3.below (Nat.le_refl _) hal).more (base' := w.heap.size + 3) (by omega))
  have HB3a := Lib.hid (HB3.out.trans (hal.mono (by omega)))
  have hgw : w.heap.size + 3 ≤ g := by omega
  have hgn9 : g ≠ v3.heap.size := by omega
  have HG9 := Lib.hid (show g < v3.heap.size from hg.2)
  have q0 := x0c.cell 0
  have q0' := x0c.cell 1
  have q0'' := x0c.cell 2
  clear hal hb3 ho3 X1b X0b XCb HB3 hg
  go_wp2_with fail
  (with_reducible refine (HWx.out _).mono ?_)
  rintro e v ⟨rfl, rfl⟩
  go_wp2_with fail
  (with_reducible refine (HWy.out _).mono ?_)
  rintro e v ⟨rfl, rfl⟩
  go_wp2_with fail
  clear q0 q0' q0'' x0c
  go_loopw [18] (fun s wr => ∃ r : Nat, ty ≤ r ∧ r ≤ ey ∧ s = .int .i64 (r : Int) ∧ BoxC wr (w.heap.size + 1) #[.int .i64 z0, .int .i64 z1, .int .i64 z2, .bool z3, .bool z4, .bool z5] ∧ BoxG wr (w.heap.size + 2) #[.int .i64 0, .int .i64 0, .slice none 0 0] ∧ BoxG wr v3.heap.size #[.int .i64 (W : Int), .int .i64 (H : Int), .slice (some ⟨g, 0, none⟩) n c3] ∧ OwnC wr (w.heap.size + 3) (some ⟨g, 0, none⟩) n c3 (mixL cs W x y ww wh ⟨z0, z1, z2, z3, z4, z5⟩ r) ∧ Below w.heap.size w wr) (fun s _ => ey - (intOf s).toNat)
  case atStart => exact ⟨ty, Nat.le_refl _, q3, rfl, XCc.out, X1c.out, X9.out, by rw [← HTOP.out]; exact HO3.out, HB3a.out⟩
  case round =>
    clear X1c XCc X9 HO3 HB3a
    obtain ⟨r, htr, hre, rfl, xc, x1, x9, ho, hb⟩ := hrel
    by_cases hlt : r < ey
    · obtain ⟨rw_, hrw⟩ : ∃ k, k = r * W := ⟨_, rfl⟩
      have hrb := HRB.out r (by omega)
      have HRX := Lib.hid (HROW.out r htr hlt)
      have HRO := Lib.hid (fun V => rowOf_any W (H : Int) g 0 n c3 r V hW1 hrb (by omega) hcap.1 (by omega) hcap.2)
      rw [← hrw] at hrb HRX HRO
      rw [Nat.zero_add] at HRO
      have lc := xc.lt
      have l9 := x9.lt
      have k0 : wr.cell? ⟨v3.heap.size, 0, none⟩ = some (.int .i64 (W : Int)) := x9.cell 0
      have k1 : wr.cell? ⟨v3.heap.size, 1, none⟩ = some (.int .i64 (H : Int)) := x9.cell 1
      have k2 : wr.cell? ⟨v3.heap.size, 2, none⟩ = some (.slice (some ⟨g, 0, none⟩) n c3) := x9.cell 2
      have m0 : wr.cell? ⟨w.heap.size + 1, 0, none⟩ = some (.int .i64 z0) := xc.cell 0
      have m1 : wr.cell? ⟨w.heap.size + 1, 1, none⟩ = some (.int .i64 z1) := xc.cell 1
      have m2 : wr.cell? ⟨w.heap.size + 1, 2, none⟩ = some (.int .i64 z2) := xc.cell 2
      have m3 : wr.cell? ⟨w.heap.size + 1, 3, none⟩ = some (.bool z3) := xc.cell 3
      have m4 : wr.cell? ⟨w.heap.size + 1, 4, none⟩ = some (.bool z4) := xc.cell 4
      have m5 : wr.cell? ⟨w.heap.size + 1, 5, none⟩ = some (.bool z5) := xc.cell 5
      have XCw := Lib.hid xc
      have X1w := Lib.hid x1
      have X9w := Lib.hid x9
      have HOw := Lib.hid ho
      have HBw := Lib.hid hb
      have i0 : (0 : Int) ≤ (lx : Int) := by omega
      have i1 : (lx : Int) ≤ (ex : Int) := by omega
      have i2 : (ex : Int) ≤ ((c3 - rw_ : Nat) : Int) := by omega
      have i3 : ex ≤ c3 - rw_ := by omega
      have HM1 := Lib.hid (show ¬ (w.heap.size + 1 = g) by omega)
      have HM2 := Lib.hid (show ¬ (w.heap.size + 2 = g) by omega)
      have HM3 := Lib.hid (show ¬ (v3.heap.size = g) by omega)
      have HM4 := Lib.hid (show w.heap.size ≤ g by omega)
      have hgl : g < wr.heap.size := (ho.blk g rfl).2
      clear xc x1 x9 ho hb hrw
      by_cases hcp : c3 - rw_ = lx
      · obtain rfl : lx = ex := by omega
        rw [Nat.sub_self] at HRX
        have HFI := Lib.hid (fun (V : World) (h : OwnC V (w.heap.size + 3) (some ⟨g, 0, none⟩) n c3 (mixL cs W x y ww wh ⟨z0, z1, z2, z3, z4, z5⟩ r)) => fill_any (some ⟨g, rw_ * 6, none⟩) (rw_ + lx) 0 0 z0 z1 z2 z3 z4 z5 V h (by omega) (by omega) (fun hm => by omega))
        rw [HRX.out] at HFI
        go_wp2_with fail
        go_region_held3 (fun w' => w'.cell? ⟨v3.heap.size, 0, none⟩ = some (.int .i64 (W : Int)) ∧ w'.cell? ⟨v3.heap.size, 1, none⟩ = some (.int .i64 (H : Int)) ∧ w'.cell? ⟨v3.heap.size, 2, none⟩ = some (.slice (some ⟨g, 0, none⟩) n c3) ∧ w'.cell? ⟨w.heap.size + 1, 0, none⟩ = some (.int .i64 z0) ∧ w'.cell? ⟨w.heap.size + 1, 1, none⟩ = some (.int .i64 z1) ∧ w'.cell? ⟨w.heap.size + 1, 2, none⟩ = some (.int .i64 z2) ∧ w'.cell? ⟨w.heap.size + 1, 3, none⟩ = some (.bool z3) ∧ w'.cell? ⟨w.heap.size + 1, 4, none⟩ = some (.bool z4) ∧ w'.cell? ⟨w.heap.size + 1, 5, none⟩ = some (.bool z5)) (go_keep) (first | (go_at_call 51; (with_reducible refine (HRO.out _).mono ?_); rintro e v4 ⟨rfl, hb4'⟩; have hb4 : Below wr.heap.size wr v4 := undrew hb4'; have k0' := (hb4.cell (p := ⟨v3.heap.size, 0, none⟩) l9).trans k0; have k1' := (hb4.cell (p := ⟨v3.heap.size, 1, none⟩) l9).trans k1; have k2' := (hb4.cell (p := ⟨v3.heap.size, 2, none⟩) l9).trans k2; have m0' := (hb4.cell (p := ⟨w.heap.size + 1, 0, none⟩) lc).trans m0; have m1' := (hb4.cell (p := ⟨w.heap.size + 1, 1, none⟩) lc).trans m1; have m2' := (hb4.cell (p := ⟨w.heap.size + 1, 2, none⟩) lc).trans m2; have m3' := (hb4.cell (p := ⟨w.heap.size + 1, 3, none⟩) lc).trans m3; have m4' := (hb4.cell (p := ⟨w.heap.size + 1, 4, none⟩) lc).trans m4; have m5' := (hb4.cell (p := ⟨w.heap.size + 1, 5, none⟩) lc).trans m5; have HO4 := Lib.hid (HOw.out.below (Nat.le_refl _) hb4); have XC4 := Lib.hid (XCw.out.below hb4 lc); have X14 := Lib.hid (X1w.out.below hb4 X1w.out.lt); have X94 := Lib.hid (X9w.out.below hb4 l9); have HB4 := Lib.hid (HBw.out.trans (hb4.mono HBw.out.size)); clear hb4 hb4') | (go_at_call 73; (with_reducible refine (HFI.out _ HO4.out).mono ?_); rintro e v5 ⟨rfl, ho5, on5⟩; have y9 := X94.out.only on5 HM3.out; have yc := XC4.out.only on5 HM1.out; have k0'' : v5.cell? ⟨v3.heap.size, 0, none⟩ = some (.int .i64 (W : Int)) := y9.cell 0; have k1'' : v5.cell? ⟨v3.heap.size, 1, none⟩ = some (.int .i64 (H : Int)) := y9.cell 1; have k2'' : v5.cell? ⟨v3.heap.size, 2, none⟩ = some (.slice (some ⟨g, 0, none⟩) n c3) := y9.cell 2; have m0'' : v5.cell? ⟨w.heap.size + 1, 0, none⟩ = some (.int .i64 z0) := yc.cell 0; have m1'' : v5.cell? ⟨w.heap.size + 1, 1, none⟩ = some (.int .i64 z1) := yc.cell 1; have m2'' : v5.cell? ⟨w.heap.size + 1, 2, none⟩ = some (.int .i64 z2) := yc.cell 2; have m3'' : v5.cell? ⟨w.heap.size + 1, 3, none⟩ = some (.bool z3) := yc.cell 3; have m4'' : v5.cell? ⟨w.heap.size + 1, 4, none⟩ = some (.bool z4) := yc.cell 4; have m5'' : v5.cell? ⟨w.heap.size + 1, 5, none⟩ = some (.bool z5) := yc.cell 5; have HF := Lib.hid (And.intro yc (And.intro (X14.out.only on5 HM2.out) (And.intro y9 (And.intro ho5 (Only.below_ on5 HB4.out HB4.out.size (fun i hi => by rw [hi]; exact HM4.out)))))); clear y9 yc on5 ho5))
        all_goals
          clear k0 k1 k2 k0' k1' k2' k0'' k1'' k2'' m0 m1 m2 m3 m4 m5 m0' m1' m2' m3' m4' m5' m0'' m1'' m2'' m3'' m4'' m5''
          go_wp2_with fail
          exact ⟨⟨r + 1, by omega, by omega, by go_num, HF.out.1, HF.out.2.1, HF.out.2.2.1, HF.out.2.2.2.1, HF.out.2.2.2.2⟩, by simp [intOf]; omega⟩
      · have HFI := Lib.hid (fun (V : World) (h : OwnC V (w.heap.size + 3) (some ⟨g, 0, none⟩) n c3 (mixL cs W x y ww wh ⟨z0, z1, z2, z3, z4, z5⟩ r)) => fill_any (some ⟨g, rw_ * 6 + lx * 6, none⟩) (rw_ + lx) (ex - lx) (c3 - rw_ - lx) z0 z1 z2 z3 z4 z5 V h (by omega) (by omega) (fun hm => by rw [Nat.add_mul]))
        rw [HRX.out] at HFI
        go_wp2_with fail
        go_region_held3 (fun w' => w'.cell? ⟨v3.heap.size, 0, none⟩ = some (.int .i64 (W : Int)) ∧ w'.cell? ⟨v3.heap.size, 1, none⟩ = some (.int .i64 (H : Int)) ∧ w'.cell? ⟨v3.heap.size, 2, none⟩ = some (.slice (some ⟨g, 0, none⟩) n c3) ∧ w'.cell? ⟨w.heap.size + 1, 0, none⟩ = some (.int .i64 z0) ∧ w'.cell? ⟨w.heap.size + 1, 1, none⟩ = some (.int .i64 z1) ∧ w'.cell? ⟨w.heap.size + 1, 2, none⟩ = some (.int .i64 z2) ∧ w'.cell? ⟨w.heap.size + 1, 3, none⟩ = some (.bool z3) ∧ w'.cell? ⟨w.heap.size + 1, 4, none⟩ = some (.bool z4) ∧ w'.cell? ⟨w.heap.size + 1, 5, none⟩ = some (.bool z5)) (go_keep) (first | (go_at_call 51; (with_reducible refine (HRO.out _).mono ?_); rintro e v4 ⟨rfl, hb4'⟩; have hb4 : Below wr.heap.size wr v4 := undrew hb4'; have k0' := (hb4.cell (p := ⟨v3.heap.size, 0, none⟩) l9).trans k0; have k1' := (hb4.cell (p := ⟨v3.heap.size, 1, none⟩) l9).trans k1; have k2' := (hb4.cell (p := ⟨v3.heap.size, 2, none⟩) l9).trans k2; have m0' := (hb4.cell (p := ⟨w.heap.size + 1, 0, none⟩) lc).trans m0; have m1' := (hb4.cell (p := ⟨w.heap.size + 1, 1, none⟩) lc).trans m1; have m2' := (hb4.cell (p := ⟨w.heap.size + 1, 2, none⟩) lc).trans m2; have m3' := (hb4.cell (p := ⟨w.heap.size + 1, 3, none⟩) lc).trans m3; have m4' := (hb4.cell (p := ⟨w.heap.size + 1, 4, none⟩) lc).trans m4; have m5' := (hb4.cell (p := ⟨w.heap.size + 1, 5, none⟩) lc).trans m5; have HO4 := Lib.hid (HOw.out.below (Nat.le_refl _) hb4); have XC4 := Lib.hid (XCw.out.below hb4 lc); have X14 := Lib.hid (X1w.out.below hb4 X1w.out.lt); have X94 := Lib.hid (X9w.out.below hb4 l9); have HB4 := Lib.hid (HBw.out.trans (hb4.mono HBw.out.size)); clear hb4 hb4') | (go_at_call 73; (with_reducible refine (HFI.out _ HO4.out).mono ?_); rintro e v5 ⟨rfl, ho5, on5⟩; have y9 := X94.out.only on5 HM3.out; have yc := XC4.out.only on5 HM1.out; have k0'' : v5.cell? ⟨v3.heap.size, 0, none⟩ = some (.int .i64 (W : Int)) := y9.cell 0; have k1'' : v5.cell? ⟨v3.heap.size, 1, none⟩ = some (.int .i64 (H : Int)) := y9.cell 1; have k2'' : v5.cell? ⟨v3.heap.size, 2, none⟩ = some (.slice (some ⟨g, 0, none⟩) n c3) := y9.cell 2; have m0'' : v5.cell? ⟨w.heap.size + 1, 0, none⟩ = some (.int .i64 z0) := yc.cell 0; have m1'' : v5.cell? ⟨w.heap.size + 1, 1, none⟩ = some (.int .i64 z1) := yc.cell 1; have m2'' : v5.cell? ⟨w.heap.size + 1, 2, none⟩ = some (.int .i64 z2) := yc.cell 2; have m3'' : v5.cell? ⟨w.heap.size + 1, 3, none⟩ = some (.bool z3) := yc.cell 3; have m4'' : v5.cell? ⟨w.heap.size + 1, 4, none⟩ = some (.bool z4) := yc.cell 4; have m5'' : v5.cell? ⟨w.heap.size + 1, 5, none⟩ = some (.bool z5) := yc.cell 5; have HF := Lib.hid (And.intro yc (And.intro (X14.out.only on5 HM2.out) (And.intro y9 (And.intro ho5 (Only.below_ on5 HB4.out HB4.out.size (fun i hi => by rw [hi]; exact HM4.out)))))); clear y9 yc on5 ho5))
        all_goals
          clear k0 k1 k2 k0' k1' k2' k0'' k1'' k2'' m0 m1 m2 m3 m4 m5 m0' m1' m2' m3' m4' m5' m0'' m1'' m2'' m3'' m4'' m5''
          go_wp2_with fail
          exact ⟨⟨r + 1, by omega, by omega, by go_num, HF.out.1, HF.out.2.1, HF.out.2.2.1, HF.out.2.2.2.1, HF.out.2.2.2.2⟩, by simp [intOf]; omega⟩
    · obtain rfl : ey = r := by omega
      have HOw := Lib.hid (show OwnC wr (w.heap.size + 3) (some ⟨g, 0, none⟩) n c3 (mixL cs W x y ww wh ⟨z0, z1, z2, z3, z4, z5⟩ H) by rw [← HEND.out]; exact ho)
      have HBw := Lib.hid hb
      have q0 := x9.cell 0
      have q0' := x9.cell 1
      have q0'' := x9.cell 2
      have p0 := x1.cell 0
      have p1 := x1.cell 1
      have p2 := x1.cell 2
      have g0 := x1.free 0
      have g1 := x1.free 1
      have g2 := x1.free 2
      clear x1 x9 xc ho hb
      go_wp2_with fail
      refine bodyPost_ret (v := .agg #[.int .i64 (W : Int), .int .i64 (H : Int), .slice (some ⟨g, 0, none⟩) n c3]) (by simp [results, Try.results36, go_sem, p0, p1, p2]) rfl (ansT (by rw [mixL_len]; exact HL.out) ?_ ?_)
      · exact (((HOw.out.setBox (w.heap.size + 2) 0 _ (by omega)).setBox (w.heap.size + 2) 1 _ (by omega)).setBox (w.heap.size + 2) 2 _ (by omega)).more (by omega)
      · exact ((HBw.out.setCell (by simp; omega) _).setCell (by simp; omega) _).setCell (by simp; omega) _
end Go.Proofs.Ytknopmbjbokpaaa.Gr
