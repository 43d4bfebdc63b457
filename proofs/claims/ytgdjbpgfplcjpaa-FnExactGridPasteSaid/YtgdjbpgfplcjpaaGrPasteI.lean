/- GridPaste in the program: row after row copied, into a copy. -/
import Derived.Test.YtgdjbpgfplcjpaaGrPasteM
import Derived.Deep.RegionHeld3
import Derived.Deep.DrawnRows
namespace Go.Proofs.Ytgdjbpgfplcjpaa.Gr
open Go.RowKit Go.Proofs.Ytgdjbpgfplcjpaa.Bytes Go.Proofs.Ytgdjbpgfplcjpaa.Rows_ Go.Proofs.Ytgdjbpgfplcjpaa.RowK
set_option linter.unusedVariables false
set_option maxRecDepth 100000 in
theorem cellsFrom_any (b o m c : Nat) (x : Int) (l : Nat) (w : World) (hl : clampV x 0 (m : Int) = (l : Int)) (hmc : m ≤ c) (hc : c ≤ 9223372036854775807) :
    Calls Try.prog 37 #[.slice (some ⟨b, o, none⟩) m c, .int .i64 x] w fun e w' => ∃ A', e = .returned (.slice A' (m - l) (c - l)) ∧ (0 < m - l → A' = some ⟨b, o + l * 6, none⟩) ∧ w = w' := by
  have hlm : l ≤ m := by have := clampV_bdF x 0 (m : Int) (by omega); omega
  have HC := Lib.hid (fun V => hl ▸ clamp_anyG x 0 (m : Int) (by omega) V)
  clear hl
  by_cases hcl : c = l
  · obtain rfl : m = l := by omega
    subst hcl
    go_enter Try.func37, Try.ntmps37
    go_wp2_with fail
    (with_reducible refine (HC.out _).mono ?_)
    rintro e v ⟨rfl, rfl⟩
    go_wp2_with fail
    go_ret
    exact ⟨some ⟨b, o, none⟩, by simp, fun h => by omega, rfl⟩
  · have h1 : l ≤ c := by omega
    have h2 : l ≠ c := by omega
    go_enter Try.func37, Try.ntmps37
    go_wp2_with fail
    (with_reducible refine (HC.out _).mono ?_)
    rintro e v ⟨rfl, rfl⟩
    go_wp2_with fail
    go_ret
    exact ⟨_, rfl, fun h => rfl, rfl⟩

set_option maxRecDepth 100000 in
set_option maxHeartbeats 6400000 in
theorem impl_GridPaste_yes (W H : Nat) (b o n c : Nat) (cs : List CellD) (W2 H2 : Nat) (b2 o2 n2 c2 : Nat) (ds : List CellD) (x y : Int) (w : World) (hr : RdC w w.heap.size (some ⟨b, o, none⟩) cs) (hl : cs.length = n) (hn : n ≤ 1048576) (ho : okG (W : Int) (H : Int) cs = true) (hr2 : RdC w w.heap.size (some ⟨b2, o2, none⟩) ds) (hl2 : ds.length = n2) (hn2 : n2 ≤ 1048576) (ho2 : okG (W2 : Int) (H2 : Int) ds = true) (hb2w : b2 < w.heap.size) (hnc2 : n2 ≤ c2) (hc2 : c2 ≤ 9223372036854775807) (s1 : smallB x = true) (s2 : smallB y = true) (hW1 : 1 ≤ W) (hW : W ≤ 120) (hH1 : 1 ≤ H) (hH : H ≤ 120) (hWH : n = W * H) (hW21 : 1 ≤ W2) (hW2 : W2 ≤ 120) (hH21 : 1 ≤ H2) (hH2 : H2 ≤ 120) (hWH2 : n2 = W2 * H2) :
    Calls Try.prog 13 #[.agg #[.int .i64 (W : Int), .int .i64 (H : Int), .slice (some ⟨b, o, none⟩) n c], .agg #[.int .i64 (W2 : Int), .int .i64 (H2 : Int), .slice (some ⟨b2, o2, none⟩) n2 c2], .int .i64 x, .int .i64 y] w (AnsT w ((W : Int), (H : Int), (mixP cs ds W W2 H2 x y allP))) := by
  have hb0 := Lib.hid ((((Below.refl w.heap.size w).alloc (Nat.le_refl _) (.cells #[.int .i64 (W : Int), .int .i64 (H : Int), .slice (some ⟨b, o, none⟩) n c] 25)).alloc (by simp) (.cells #[.int .i64 (W2 : Int), .int .i64 (H2 : Int), .slice (some ⟨b2, o2, none⟩) n2 c2] 25)).alloc (by simp; omega) (.cells #[.int .i64 0, .int .i64 0, .slice none 0 0] 25))
  have X0 := Lib.hid (((BoxG.new w #[.int .i64 (W : Int), .int .i64 (H : Int), .slice (some ⟨b, o, none⟩) n c]).below ((Below.refl _ _).alloc (Nat.le_refl _) (.cells #[.int .i64 (W2 : Int), .int .i64 (H2 : Int), .slice (some ⟨b2, o2, none⟩) n2 c2] 25)) (by simp)).below ((Below.refl _ _).alloc (Nat.le_refl _) (.cells #[.int .i64 0, .int .i64 0, .slice none 0 0] 25)) (by simp; omega))
  have xb := (BoxG.new (w.alloc (.cells #[.int .i64 (W : Int), .int .i64 (H : Int), .slice (some ⟨b, o, none⟩) n c] 25)) #[.int .i64 (W2 : Int), .int .i64 (H2 : Int), .slice (some ⟨b2, o2, none⟩) n2 c2]).below ((Below.refl _ _).alloc (Nat.le_refl _) (.cells #[.int .i64 0, .int .i64 0, .slice none 0 0] 25)) (by simp)
  simp only [World.size_alloc] at xb
  have XB := Lib.hid xb
  have x1 := BoxG.new ((w.alloc (.cells #[.int .i64 (W : Int), .int .i64 (H : Int), .slice (some ⟨b, o, none⟩) n c] 25)).alloc (.cells #[.int .i64 (W2 : Int), .int .i64 (H2 : Int), .slice (some ⟨b2, o2, none⟩) n2 c2] 25)) #[.int .i64 0, .int .i64 0, .slice none 0 0]
  simp only [World.size_alloc] at x1
  have X1 := Lib.hid x1
  have HO := Lib.hid ho
  have HO2 := Lib.hid ho2
  have S1 := Lib.hid s1
  have S2 := Lib.hid s2
  have HR := Lib.hid hr
  have HL := Lib.hid hl
  have HR2 := Lib.hid hr2
  have HL2 := Lib.hid hl2
  have HK := Lib.hid (fun V (h : Below w.heap.size w V) => impl_GridOk_any (W : Int) (H : Int) (some ⟨b, o, none⟩) n c cs V ((HR.out.below (Nat.le_refl _) h).more h.size) HL.out (by omega))
  have HK2 := Lib.hid (fun V (h : Below w.heap.size w V) => impl_GridOk_any (W2 : Int) (H2 : Int) (some ⟨b2, o2, none⟩) n2 c2 ds V ((HR2.out.below (Nat.le_refl _) h).more h.size) HL2.out (by omega))
  have HCP := Lib.hid (fun V (h : Below w.heap.size w V) => copyGrid_any (W : Int) (H : Int) (some ⟨b, o, none⟩) n c cs V (fun h => by cases h) ((HR.out.below (Nat.le_refl _) h).more h.size) HL.out (by omega))
  have k1 := of_smallB s1
  have k2 := of_smallB s2
  have bd1 := clampV_bdF x 0 (W : Int) (by omega)
  have bd2 := clampV_bdF (-x) 0 (W2 : Int) (by omega)
  have bd3 := clampV_bdF y 0 (H : Int) (by omega)
  have bd4 := clampV_bdF (y + (H2 : Int)) (clampV y 0 (H : Int)) (H : Int) bd3.2
  obtain ⟨lx, hlx⟩ := Int.eq_ofNat_of_zero_le bd1.1
  obtain ⟨l2, hl2'⟩ := Int.eq_ofNat_of_zero_le bd2.1
  obtain ⟨ty, hty⟩ := Int.eq_ofNat_of_zero_le bd3.1
  obtain ⟨ey, hey⟩ := Int.eq_ofNat_of_zero_le (show 0 ≤ clampV (y + (H2 : Int)) (clampV y 0 (H : Int)) (H : Int) by omega)
  have HWy := Lib.hid (fun V => (show Calls Try.prog 36 #[.int .i64 y, .int .i64 (H2 : Int), .int .i64 (H : Int)] V (fun e w' => e = .returned (.tuple #[.int .i64 (ty : Int), .int .i64 (ey : Int)]) ∧ V = w') by have h := within_any y (H2 : Int) (H : Int) V k2 (by omega) (by omega); rw [hey, hty] at h; exact h))
  have HTOP := Lib.hid (pasteR_top (cs := cs) (ds := ds) (W := W) (H := H) (W2 := W2) (H2 := H2) (x := x) (y := y) hty.symm)
  have HEND := Lib.hid (pasteR_end (cs := cs) (ds := ds) (W := W) (H := H) (W2 := W2) (H2 := H2) (x := x) (y := y) hW1 (by omega) hey.symm)
  have HROW := Lib.hid (fun (r s : Nat) (h1 : ty ≤ r) (h2 : r < ey) (hs : (s : Int) = (r : Int) - y) (hs2 : s < H2) => pasteR_row (cs := cs) (ds := ds) (W := W) (H := H) (W2 := W2) (H2 := H2) (x := x) (y := y) (l := lx) (l2 := l2) (m := min (W2 - l2) (W - lx)) (r := r) (s := s) (c := r * W) (c2 := s * W2) hW1 (by omega) (by omega) (by omega) hlx.symm hl2'.symm (by omega) (by omega) (by omega) hs hs2 rfl rfl)
  have HSR := Lib.hid (fun (r : Nat) (h1 : ty ≤ r) (h2 : r < ey) => (show ∃ s : Nat, (s : Int) = (r : Int) - y ∧ s < H2 from ⟨((r : Int) - y).toNat, by unfold clampV at hey hty; split at hty <;> (try split at hty) <;> split at hey <;> (try split at hey) <;> omega, by unfold clampV at hey hty; split at hty <;> (try split at hty) <;> split at hey <;> (try split at hey) <;> omega⟩))
  have q1 : lx ≤ W := by omega
  have q2 : l2 ≤ W2 := by omega
  have q3 : ty ≤ ey := by omega
  have q4 : ey ≤ H := by omega
  have HRB := Lib.hid (fun (r : Nat) (h2 : r < H) => (show r * W + W ≤ n by
    have h1 : (r + 1) * W ≤ H * W := Nat.mul_le_mul_right W h2
    rw [Nat.add_mul, Nat.mul_comm H W] at h1; omega))
  have HRB2 := Lib.hid (fun (r : Nat) (h2 : r < H2) => (show r * W2 + W2 ≤ n2 by
    have h1 : (r + 1) * W2 ≤ H2 * W2 := Nat.mul_le_mul_right W2 h2
    rw [Nat.add_mul, Nat.mul_comm H2 W2] at h1; omega))
  have hn0 : 0 < n := by have := HRB.out 0 (by omega); omega
  have HCL1 := Lib.hid hlx
  have HCL2 := Lib.hid hl2'
  have E2 := Lib.hid (show IntKind.i64.wrap (-x) = -x from IntWalk.i64_in _ (by omega))
  clear hWH hWH2 ho ho2 hr hl hr2 hl2 x1 xb s1 s2 k1 bd1 bd2 bd3 bd4 hlx hl2' hty hey
  obtain ⟨k21, k22⟩ := k2
  go_enter Try.func13, Try.ntmps13
  go_wp2_with fail
  refine (HK.out _ hb0.out).mono ?_
  rintro e v1 ⟨rfl, hb1⟩
  rw [HO.out]
  have x0 := X0.out.below hb1 (by simp; omega)
  have xb := XB.out.below hb1 (by simp)
  have X1a := Lib.hid (X1.out.below hb1 (by simp))
  have X0a := Lib.hid x0
  have XBa := Lib.hid xb
  have HB1 := Lib.hid (hb0.out.trans (hb1.mono (by simp; omega)))
  have c0 := xb.cell 0
  have c1 := xb.cell 1
  have c2_ := xb.cell 2
  have hz1 : w.heap.size + 2 < v1.heap.size := by have := hb1.size; simp at this; omega
  clear hb1 x0 xb X0 X1 XB
  go_wp2_with fail
  refine (HK2.out _ HB1.out).mono ?_
  rintro e v2 ⟨rfl, hb2⟩
  rw [HO2.out]
  clear c0 c1 c2_
  have x0 := X0a.out.below hb2 (by omega)
  have xb := XBa.out.below hb2 (by omega)
  have X1b := Lib.hid (X1a.out.below hb2 (by omega))
  have X0b := Lib.hid x0
  have XBb := Lib.hid xb
  have HB2 := Lib.hid (HB1.out.trans (hb2.mono (by omega)))
  have q0 := x0.cell 0
  have q0' := x0.cell 1
  have q0'' := x0.cell 2
  have hz2 : w.heap.size + 2 < v2.heap.size := by have := hb2.size; omega
  clear hb2 x0 xb X0a X1a XBa
  go_wp2_with fail
  (with_reducible refine (isReach_any x _).mono ?_)
  rintro e v ⟨rfl, rfl⟩
  rw [S1.out]
  go_wp2_with fail
  (with_reducible refine (isReach_any y _).mono ?_)
  rintro e v ⟨rfl, rfl⟩
  rw [S2.out]
  go_wp2_with fail
  refine (HCP.out _ HB2.out).mono ?_
  rintro e v3 ⟨A3, c3, rfl, ho3, hb3⟩
  obtain ⟨g, rfl⟩ := ho3.addr (by omega)
  have hcap := ho3.cap
  clear q0 q0' q0''
  have hg := ho3.blk g rfl
  have HB3 := Lib.hid (HB2.out.trans (hb3.mono (by omega)))
  have hz3 : w.heap.size + 2 < v3.heap.size := by have := hb3.size; omega
  have hal := (Below.refl v3.heap.size v3).alloc (Nat.le_refl _) (.cells #[.int .i64 (W : Int), .int .i64 (H : Int), .slice (some ⟨g, 0, none⟩) n c3] 25)
  have X1c := Lib.hid ((X1b.out.below hb3 (by omega)).below hal (by omega))
  have x0c := (X0b.out.below hb3 (by omega)).below hal (by omega)
  have xbc := (XBb.out.below hb3 (by omega)).below hal (by omega)
  have XBc := Lib.hid xbc
  have X9 := Lib.hid (BoxG.new v3 #[.int .i64 (W : Int), .int .i64 (H : Int), .slice (some ⟨g, 0, none⟩) n c3])
  have HO3 := Lib.hid ((ho3.below (Nat.le_refl _) hal).more (base' := w.heap.size + 3) (by omega))
  have HB3a := Lib.hid (HB3.out.trans (hal.mono (by omega)))
  have hgw : w.heap.size + 3 ≤ g := by omega
  have hgn9 : g ≠ v3.heap.size := by omega
  have HG9 := Lib.hid (show g < v3.heap.size from hg.2)
  have q0 := x0c.cell 1
  have q0' := xbc.cell 1
  clear hal hb3 ho3 X1b X0b XBb HB3 hg
  go_wp2_with fail
  (with_reducible refine (HWy.out _).mono ?_)
  rintro e v ⟨rfl, rfl⟩
  go_wp2_with fail
  clear q0 q0' x0c xbc
  go_loopw [12] (fun s wr => ∃ r : Nat, ty ≤ r ∧ r ≤ ey ∧ s = .int .i64 (r : Int) ∧ BoxG wr (w.heap.size + 1) #[.int .i64 (W2 : Int), .int .i64 (H2 : Int), .slice (some ⟨b2, o2, none⟩) n2 c2] ∧ BoxG wr (w.heap.size + 2) #[.int .i64 0, .int .i64 0, .slice none 0 0] ∧ BoxG wr v3.heap.size #[.int .i64 (W : Int), .int .i64 (H : Int), .slice (some ⟨g, 0, none⟩) n c3] ∧ OwnC wr (w.heap.size + 3) (some ⟨g, 0, none⟩) n c3 (mixP cs ds W W2 H2 x y (rowsP W r)) ∧ Below w.heap.size w wr) (fun s _ => ey - (intOf s).toNat)
  case atStart => exact ⟨ty, Nat.le_refl _, q3, rfl, XBc.out, X1c.out, X9.out, by rw [← HTOP.out]; exact HO3.out, HB3a.out⟩
  case round =>
    clear XBc X1c X9 HO3 HB3a
    obtain ⟨r, htr, hre, rfl, xb, x1, x9, ho, hb⟩ := hrel
    by_cases hlt : r < ey
    · obtain ⟨s, hs, hs2⟩ := HSR.out r htr hlt
      obtain ⟨rw_, hrw⟩ : ∃ k, k = r * W := ⟨_, rfl⟩
      obtain ⟨sw_, hsw⟩ : ∃ k, k = s * W2 := ⟨_, rfl⟩
      have hrb := HRB.out r (by omega)
      have hsb := HRB2.out s hs2
      have HRX := Lib.hid (HROW.out r s htr hlt hs hs2)
      have HRO := Lib.hid (fun V => rowOf_any W (H : Int) g 0 n c3 r V hW1 hrb (by omega) hcap.1 (by omega) hcap.2)
      have HRO2 := Lib.hid (fun V => rowOf_any W2 (H2 : Int) b2 o2 n2 c2 s V hW21 hsb (by omega) hnc2 (by omega) hc2)
      rw [← hrw] at hrb HRX HRO
      rw [← hsw] at hsb HRX HRO2
      rw [Nat.zero_add] at HRO
      have HCF := Lib.hid (fun V => cellsFrom_any g (rw_ * 6) W (c3 - rw_) x lx V HCL1.out (by omega) (by omega))
      have HCF2 := Lib.hid (fun V => cellsFrom_any b2 (o2 + sw_ * 6) W2 (c2 - sw_) (-x) l2 V HCL2.out (by omega) (by omega))
      have lb := xb.lt
      have l9 := x9.lt
      have k0 : wr.cell? ⟨v3.heap.size, 0, none⟩ = some (.int .i64 (W : Int)) := x9.cell 0
      have k1 : wr.cell? ⟨v3.heap.size, 1, none⟩ = some (.int .i64 (H : Int)) := x9.cell 1
      have k2 : wr.cell? ⟨v3.heap.size, 2, none⟩ = some (.slice (some ⟨g, 0, none⟩) n c3) := x9.cell 2
      have m0 : wr.cell? ⟨w.heap.size + 1, 0, none⟩ = some (.int .i64 (W2 : Int)) := xb.cell 0
      have m1 : wr.cell? ⟨w.heap.size + 1, 1, none⟩ = some (.int .i64 (H2 : Int)) := xb.cell 1
      have m2 : wr.cell? ⟨w.heap.size + 1, 2, none⟩ = some (.slice (some ⟨b2, o2, none⟩) n2 c2) := xb.cell 2
      have XBw := Lib.hid xb
      have X1w := Lib.hid x1
      have X9w := Lib.hid x9
      have HOw := Lib.hid ho
      have HBw := Lib.hid hb
      have HM1 := Lib.hid (show ¬ (w.heap.size + 1 = g) by omega)
      have HM2 := Lib.hid (show ¬ (w.heap.size + 2 = g) by omega)
      have HM3 := Lib.hid (show ¬ (v3.heap.size = g) by omega)
      have HM4 := Lib.hid (show w.heap.size ≤ g by omega)
      have hgl : g < wr.heap.size := (ho.blk g rfl).2
      have hdl := HL2.out
      have hnl : ((ds.drop (sw_ + l2)).take (min (W2 - l2) (W - lx))).length = min (W2 - l2) (W - lx) := by rw [List.length_take, List.length_drop]; omega
      have HCPY := Lib.hid (fun (V : World) (A1 A2 : Option Addr) (h : OwnC V (w.heap.size + 3) (some ⟨g, 0, none⟩) n c3 (mixP cs ds W W2 H2 x y (rowsP W r))) (hbv : Below w.heap.size w V) (h1 : 0 < W - lx → A1 = some ⟨g, rw_ * 6 + lx * 6, none⟩) (h2 : 0 < W2 - l2 → A2 = some ⟨b2, o2 + sw_ * 6 + l2 * 6, none⟩) =>
        (show ∃ w', (∀ ty, (Builtin.copy_ #[23, 23] ty #[.slice A1 (W - lx) (c3 - rw_ - lx), .slice A2 (W2 - l2) (c2 - sw_ - l2)]).run Try.prog V = .ok (goInt ((min (W2 - l2) (W - lx) : Nat) : Int)) w') ∧ OwnC w' (w.heap.size + 3) (some ⟨g, 0, none⟩) n c3 (mixP cs ds W W2 H2 x y (rowsP W (r + 1))) ∧ V.grownBy w' (some g) by
          have hrd : RdC V w.heap.size (some ⟨b2, o2, none⟩) ds := HR2.out.below (Nat.le_refl _) hbv
          obtain ⟨w', q1, q2, q3⟩ := run_copy_cellsC (lo := rw_ + lx) (new := (ds.drop (sw_ + l2)).take (min (W2 - l2) (W - lx))) h A1 A2 (W - lx) (c3 - rw_ - lx) (W2 - l2) (c2 - sw_ - l2) (by rw [hnl]) (fun hp => by
            rw [hnl] at hp
            refine ⟨by rw [h1 (by omega), Nat.add_mul], _, h2 (by omega), fun j v hv => ?_⟩
            rw [Addr.add_lit]
            have := rd_seg hrd (sw_ + l2) (min (W2 - l2) (W - lx)) (by rw [hdl]; omega) j v hv
            rw [Nat.add_mul, ← Nat.add_assoc] at this
            exact this) (by rw [hnl]; omega)
          rw [hnl] at q1
          rw [HRX.out] at q2
          exact ⟨w', q1, q2, q3⟩))
      have e1 : IntKind.i64.wrap ((r : Int) - y) = (s : Int) := by rw [← hs]; exact IntWalk.i64_in _ (by omega)
      have e2 := E2.out
      clear xb x1 x9 ho hb hrw hsw hs hdl hnl
      go_wp2_with fail
      go_region_held3 (fun w' => w'.cell? ⟨v3.heap.size, 0, none⟩ = some (.int .i64 (W : Int)) ∧ w'.cell? ⟨v3.heap.size, 1, none⟩ = some (.int .i64 (H : Int)) ∧ w'.cell? ⟨v3.heap.size, 2, none⟩ = some (.slice (some ⟨g, 0, none⟩) n c3) ∧ w'.cell? ⟨w.heap.size + 1, 0, none⟩ = some (.int .i64 (W2 : Int)) ∧ w'.cell? ⟨w.heap.size + 1, 1, none⟩ = some (.int .i64 (H2 : Int)) ∧ w'.cell? ⟨w.heap.size + 1, 2, none⟩ = some (.slice (some ⟨b2, o2, none⟩) n2 c2)) (go_keep) (first | (go_at_call 30; (with_reducible refine (HRO.out _).mono ?_); rintro e v4 ⟨rfl, hb4'⟩; have hb4 : Below wr.heap.size wr v4 := undrew hb4'; have X94 := Lib.hid (X9w.out.below hb4 l9); have XB4 := Lib.hid (XBw.out.below hb4 lb); have X14 := Lib.hid (X1w.out.below hb4 X1w.out.lt); have HO4 := Lib.hid (HOw.out.below (Nat.le_refl _) hb4); have HB4 := Lib.hid (HBw.out.trans (hb4.mono HBw.out.size)); have ak0 : v4.cell? ⟨v3.heap.size, 0, none⟩ = some (.int .i64 (W : Int)) := X94.out.cell 0; have ak1 : v4.cell? ⟨v3.heap.size, 1, none⟩ = some (.int .i64 (H : Int)) := X94.out.cell 1; have ak2 : v4.cell? ⟨v3.heap.size, 2, none⟩ = some (.slice (some ⟨g, 0, none⟩) n c3) := X94.out.cell 2; have am0 : v4.cell? ⟨w.heap.size + 1, 0, none⟩ = some (.int .i64 (W2 : Int)) := XB4.out.cell 0; have am1 : v4.cell? ⟨w.heap.size + 1, 1, none⟩ = some (.int .i64 (H2 : Int)) := XB4.out.cell 1; have am2 : v4.cell? ⟨w.heap.size + 1, 2, none⟩ = some (.slice (some ⟨b2, o2, none⟩) n2 c2) := XB4.out.cell 2; clear hb4 hb4') | (go_at_call 37; (with_reducible refine (HCF.out _).mono ?_); rintro e v4' ⟨A1, rfl, hA1, rfl⟩; have HA1 := Lib.hid hA1; clear hA1) | (go_at_call 30; (with_reducible refine (HRO2.out _).mono ?_); rintro e v5 ⟨rfl, hb5'⟩; have hb5 : Below v4.heap.size v4 v5 := (by first | exact hb5' | exact undrew hb5'); have X95 := Lib.hid (X94.out.below hb5 X94.out.lt); have XB5 := Lib.hid (XB4.out.below hb5 XB4.out.lt); have X15 := Lib.hid (X14.out.below hb5 X14.out.lt); have HO5 := Lib.hid (HO4.out.below (Nat.le_refl _) hb5); have HB5 := Lib.hid (HB4.out.trans (hb5.mono HB4.out.size)); have bk0 : v5.cell? ⟨v3.heap.size, 0, none⟩ = some (.int .i64 (W : Int)) := X95.out.cell 0; have bk1 : v5.cell? ⟨v3.heap.size, 1, none⟩ = some (.int .i64 (H : Int)) := X95.out.cell 1; have bk2 : v5.cell? ⟨v3.heap.size, 2, none⟩ = some (.slice (some ⟨g, 0, none⟩) n c3) := X95.out.cell 2; have bm0 : v5.cell? ⟨w.heap.size + 1, 0, none⟩ = some (.int .i64 (W2 : Int)) := XB5.out.cell 0; have bm1 : v5.cell? ⟨w.heap.size + 1, 1, none⟩ = some (.int .i64 (H2 : Int)) := XB5.out.cell 1; have bm2 : v5.cell? ⟨w.heap.size + 1, 2, none⟩ = some (.slice (some ⟨b2, o2, none⟩) n2 c2) := XB5.out.cell 2; clear hb5 hb5') | (go_at_call 37; (with_reducible refine (HCF2.out _).mono ?_); rintro e v5' ⟨A2, rfl, hA2, rfl⟩; obtain ⟨w6, hcp, ho6, hg6⟩ := HCPY.out _ A1 A2 HO5.out HB5.out HA1.out hA2; have on6 := Only.grown (S := fun i => i = g) hg6 (fun i e => by injection e with e; exact e.symm); have X96 := Lib.hid (X95.out.only on6 HM3.out); have XB6 := Lib.hid (XB5.out.only on6 HM1.out); have X16 := Lib.hid (X15.out.only on6 HM2.out); have HO6 := Lib.hid ho6; have HB6 := Lib.hid (Only.below_ on6 HB5.out HB5.out.size (fun i hi => by rw [hi]; exact HM4.out)); have dk0 : w6.cell? ⟨v3.heap.size, 0, none⟩ = some (.int .i64 (W : Int)) := X96.out.cell 0; have dk1 : w6.cell? ⟨v3.heap.size, 1, none⟩ = some (.int .i64 (H : Int)) := X96.out.cell 1; have dk2 : w6.cell? ⟨v3.heap.size, 2, none⟩ = some (.slice (some ⟨g, 0, none⟩) n c3) := X96.out.cell 2; have dm0 : w6.cell? ⟨w.heap.size + 1, 0, none⟩ = some (.int .i64 (W2 : Int)) := XB6.out.cell 0; have dm1 : w6.cell? ⟨w.heap.size + 1, 1, none⟩ = some (.int .i64 (H2 : Int)) := XB6.out.cell 1; have dm2 : w6.cell? ⟨w.heap.size + 1, 2, none⟩ = some (.slice (some ⟨b2, o2, none⟩) n2 c2) := XB6.out.cell 2; clear ho6 hg6 on6 hA2))
      all_goals
        clear k0 k1 k2 m0 m1 m2 ak0 ak1 ak2 am0 am1 am2 bk0 bk1 bk2 bm0 bm1 bm2 dk0 dk1 dk2 dm0 dm1 dm2 hcp e1 e2
        go_wp2_with fail
        exact ⟨⟨r + 1, by omega, by omega, by go_num, XB6.out, X16.out, X96.out, HO6.out, HB6.out⟩, by simp [intOf]; omega⟩
    · obtain rfl : ey = r := by omega
      have HOw := Lib.hid (show OwnC wr (w.heap.size + 3) (some ⟨g, 0, none⟩) n c3 (mixP cs ds W W2 H2 x y allP) by rw [← HEND.out]; exact ho)
      have HBw := Lib.hid hb
      have q0 := x9.cell 0
      have q0' := x9.cell 1
      have q0'' := x9.cell 2
      have p0 := x1.cell 0
      have p1 := x1.cell 1
      have p2 := x1.cell 2
      have g0 := x1.free 0
      have g1 := x1.free 1
      have g2 := x1.free 2
      clear x1 x9 xb ho hb
      go_wp2_with fail
      refine bodyPost_ret (v := .agg #[.int .i64 (W : Int), .int .i64 (H : Int), .slice (some ⟨g, 0, none⟩) n c3]) (by simp [results, Try.results13, go_sem, p0, p1, p2]) rfl (ansT (by rw [mixP_len]; exact HL.out) ?_ ?_)
      · exact (((HOw.out.setBox (w.heap.size + 2) 0 _ (by omega)).setBox (w.heap.size + 2) 1 _ (by omega)).setBox (w.heap.size + 2) 2 _ (by omega)).more (by omega)
      · exact ((HBw.out.setCell (by simp; omega) _).setCell (by simp; omega) _).setCell (by simp; omega) _
end Go.Proofs.Ytgdjbpgfplcjpaa.Gr
