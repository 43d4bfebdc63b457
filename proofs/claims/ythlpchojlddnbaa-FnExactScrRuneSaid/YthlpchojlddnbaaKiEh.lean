/- Places of a grid as data; hasCell in the program. -/
import Derived.Test.YthlpchojlddnbaaGrOk
namespace Go.Proofs.Ythlpchojlddnbaa.Gr
open Go.RowKit Go.Proofs.Ythlpchojlddnbaa.Bytes Go.Proofs.Ythlpchojlddnbaa.Rows_ Go.Proofs.Ythlpchojlddnbaa.RowK
set_option linter.unusedVariables false
def inB (gw gh x y : Int) : Bool := decide (0 ≤ x ∧ x < gw ∧ 0 ≤ y ∧ y < gh)
theorem of_okG {gw gh : Int} {cs : List CellD} (h : okG gw gh cs = true) : (1 ≤ gw ∧ gw ≤ 120 ∧ 1 ≤ gh ∧ gh ≤ 120 ∧ gw * gh ≤ 4000) ∧ (cs.length : Int) = gw * gh ∧ cs.all okC = true := by
  unfold okG at h; simp only [Bool.and_eq_true, decide_eq_true_eq] at h
  exact ⟨of_sizeB h.1, h.2.1, h.2.2⟩
theorem le_nat {W H : Nat} (h : (W : Int) * H ≤ 4000) : W * H ≤ 4000 := by rw [← Int.natCast_mul] at h; omega
theorem eq_nat {n W H : Nat} (h : (n : Int) = (W : Int) * H) : n = W * H := by rw [← Int.natCast_mul] at h; omega
/-- the sides of a good grid as natural numbers -/
theorem sides {gw gh : Int} {cs : List CellD} (h : okG gw gh cs = true) : ∃ W H : Nat, gw = (W : Int) ∧ gh = (H : Int) ∧ 1 ≤ W ∧ W ≤ 120 ∧ 1 ≤ H ∧ H ≤ 120 ∧ W * H ≤ 4000 ∧ cs.length = W * H := by
  obtain ⟨⟨h1, h2, h3, h4, h5⟩, hl, _⟩ := of_okG h
  obtain ⟨W, rfl⟩ := Int.eq_ofNat_of_zero_le (show 0 ≤ gw by omega)
  obtain ⟨H, rfl⟩ := Int.eq_ofNat_of_zero_le (show 0 ≤ gh by omega)
  exact ⟨W, H, rfl, rfl, by omega, by omega, by omega, by omega, le_nat h5, eq_nat hl⟩
theorem row_lt {W H x y : Nat} (hx : x < W) (hy : y < H) : y * W + x < W * H := by
  have : (y + 1) * W ≤ H * W := Nat.mul_le_mul_right W hy
  rw [Nat.add_mul] at this; rw [Nat.mul_comm W H]; omega
theorem inB_t {gw gh x y : Int} (h : inB gw gh x y = true) : 0 ≤ x ∧ x < gw ∧ 0 ≤ y ∧ y < gh := of_decide_eq_true h
theorem inB_f {gw gh x y : Int} (h : ¬ (0 ≤ x ∧ x < gw ∧ 0 ≤ y ∧ y < gh)) : inB gw gh x y = false := decide_eq_false h
set_option maxRecDepth 100000 in
set_option maxHeartbeats 3200000 in
theorem hasCell_any (gw gh : Int) (A : Option Addr) (n c : Nat) (x y : Int) (w : World) :
    Calls Try.prog 110 #[.agg #[.int .i64 gw, .int .i64 gh, .slice A n c], .int .i64 x, .int .i64 y] w fun e w' => e = .returned (.bool (inB gw gh x y)) ∧ Below w.heap.size w w' := by
  have hb0 := Lib.hid ((Below.refl w.heap.size w).alloc (Nat.le_refl _) (.cells #[.int .i64 gw, .int .i64 gh, .slice A n c] 32))
  have HE := Lib.hid (show inB gw gh x y = (decide (0 ≤ x) && (decide (x < gw) && (decide (0 ≤ y) && decide (y < gh)))) by unfold inB; rw [Bool.eq_iff_iff]; simp)
  by_cases h1 : 0 ≤ x
  · by_cases h2 : x < gw
    · by_cases h3 : 0 ≤ y
      · by_cases h4 : y < gh
        · have HF := Lib.hid (show (decide (y < gh)) = inB gw gh x y by rw [HE.out]; simp [h1, h2, h3])
          go_enter Try.func110, Try.ntmps110
          go_wp2_with fail
          go_ret
          exact ⟨Attr.rt_bool (by rw [← HF.out]; simp [h4]), hb0.out⟩
        · have HF := Lib.hid (inB_f (gw := gw) (gh := gh) (x := x) (y := y) (by omega)).symm
          go_enter Try.func110, Try.ntmps110
          go_wp2_with fail
          go_ret
          exact ⟨Attr.rt_bool HF.out, hb0.out⟩
      · have HF := Lib.hid (inB_f (gw := gw) (gh := gh) (x := x) (y := y) (by omega)).symm
        go_enter Try.func110, Try.ntmps110
        go_wp2_with fail
        go_ret
        exact ⟨Attr.rt_bool HF.out, hb0.out⟩
    · have HF := Lib.hid (inB_f (gw := gw) (gh := gh) (x := x) (y := y) (by omega)).symm
      go_enter Try.func110, Try.ntmps110
      go_wp2_with fail
      go_ret
      exact ⟨Attr.rt_bool HF.out, hb0.out⟩
  · have HF := Lib.hid (inB_f (gw := gw) (gh := gh) (x := x) (y := y) (by omega)).symm
    go_enter Try.func110, Try.ntmps110
    go_wp2_with fail
    go_ret
    exact ⟨Attr.rt_bool HF.out, hb0.out⟩

end Go.Proofs.Ythlpchojlddnbaa.Gr

