/- Words and lemmas, merged (once: GrAtB, GrAtC, GrAns) -/
import Derived.Test.YtfdbmhelcmifoaaGreatGrOk
import Derived.Test.YtfdbmhelcmifoaaGreatGrSlide
import Derived.Test.YtfdbmhelcmifoaaGreatGrCopy
namespace Go.Proofs.YtfdbmhelcmifoaaGreat.Gr
open Go.RowKit Go.Proofs.YtfdbmhelcmifoaaGreat.Bytes Go.Proofs.YtfdbmhelcmifoaaGreat.Rows_ Go.Proofs.YtfdbmhelcmifoaaGreat.RowK
set_option linter.unusedVariables false
def inB (gw gh x y : Int) : Bool := decide (0 ≤ x ∧ x < gw ∧ 0 ≤ y ∧ y < gh)
def atG (gw gh : Int) (cs : List CellD) (x y : Int) : CellD := if okG gw gh cs && inB gw gh x y then cs.getD (y * gw + x).toNat default else default
def cellV (z : CellD) : Value := .agg #[.int .i64 z.r, .int .i64 z.fg, .int .i64 z.bg, .bool z.b, .bool z.u, .bool z.t]
theorem of_okG {gw gh : Int} {cs : List CellD} (h : okG gw gh cs = true) : (1 ≤ gw ∧ gw ≤ 120 ∧ 1 ≤ gh ∧ gh ≤ 120 ∧ gw * gh ≤ 4000) ∧ (cs.length : Int) = gw * gh ∧ cs.all okC = true := by
  unfold okG at h; simp only [Bool.and_eq_true, decide_eq_true_eq] at h
  exact ⟨of_sizeB h.1, h.2.1, h.2.2⟩
theorem le_nat {W H : Nat} (h : (W : Int) * H ≤ 4000) : W * H ≤ 4000 := by rw [← Int.natCast_mul] at h; omega
theorem eq_nat {n W H : Nat} (h : (n : Int) = (W : Int) * H) : n = W * H := by rw [← Int.natCast_mul] at h; omega
/-- the sides of a good grid as natural numbers -/
theorem sides {gw gh : Int} {cs : List CellD} (h : okG gw gh cs = true) : ∃ W H : Nat, gw = (W : Int) ∧ gh = (H : Int) ∧ 1 ≤ W ∧ W ≤ 120 ∧ 1 ≤ H ∧ H ≤ 120 ∧ W * H ≤ 4000 ∧ cs.length = W * H := by
  obtain ⟨⟨h1, h2, h3, h4, h5⟩, hl, _⟩ := of_okG h
  obtain ⟨W, rfl⟩ := Int.eq_ofNat_of_zero_le (show 0 ≤ gw by omega)
  obtain ⟨H, rfl⟩ := Int.eq_ofNat_of_zero_le (show 0 ≤ gh by omega)
  exact ⟨W, H, rfl, rfl, by omega, by omega, by omega, by omega, le_nat h5, eq_nat hl⟩
theorem row_lt {W H x y : Nat} (hx : x < W) (hy : y < H) : y * W + x < W * H := by
  have : (y + 1) * W ≤ H * W := Nat.mul_le_mul_right W hy
  rw [Nat.add_mul] at this; rw [Nat.mul_comm W H]; omega
theorem inB_t {gw gh x y : Int} (h : inB gw gh x y = true) : 0 ≤ x ∧ x < gw ∧ 0 ≤ y ∧ y < gh := of_decide_eq_true h
theorem inB_f {gw gh x y : Int} (h : ¬ (0 ≤ x ∧ x < gw ∧ 0 ≤ y ∧ y < gh)) : inB gw gh x y = false := decide_eq_false h
theorem atG_no {gw gh x y : Int} {cs : List CellD} (h : (okG gw gh cs && inB gw gh x y) = false) : atG gw gh cs x y = default := by unfold atG; rw [h]; rfl
theorem atG_yes {gw gh x y : Int} {cs : List CellD} (h1 : okG gw gh cs = true) (h2 : inB gw gh x y = true) (k : Nat) (hk : (y * gw + x).toNat = k) (hl : k < cs.length) : atG gw gh cs x y = cs[k] := by
  unfold atG; rw [h1, h2, hk]; simp [List.getD, hl]

set_option maxRecDepth 100000 in
set_option maxHeartbeats 3200000 in
theorem hasCell_any (gw gh : Int) (A : Option Addr) (n c : Nat) (x y : Int) (w : World) :
    Calls Tryz.prog 46 #[.agg #[.int .i64 gw, .int .i64 gh, .slice A n c], .int .i64 x, .int .i64 y] w fun e w' => e = .returned (.bool (inB gw gh x y)) ∧ Below w.heap.size w w' := by
  have hb0 := Lib.hid ((Below.refl w.heap.size w).alloc (Nat.le_refl _) (.cells #[.int .i64 gw, .int .i64 gh, .slice A n c] 25))
  have HE := Lib.hid (show inB gw gh x y = (decide (0 ≤ x) && (decide (x < gw) && (decide (0 ≤ y) && decide (y < gh)))) by unfold inB; rw [Bool.eq_iff_iff]; simp)
  by_cases h1 : 0 ≤ x
  · by_cases h2 : x < gw
    · by_cases h3 : 0 ≤ y
      · by_cases h4 : y < gh
        · have HF := Lib.hid (show (decide (y < gh)) = inB gw gh x y by rw [HE.out]; simp [h1, h2, h3])
          go_enter Tryz.func46, Tryz.ntmps46
          go_wp2_with fail
          go_ret
          exact ⟨Attr.rt_bool (by rw [← HF.out]; simp [h4]), hb0.out⟩
        · have HF := Lib.hid (inB_f (gw := gw) (gh := gh) (x := x) (y := y) (by omega)).symm
          go_enter Tryz.func46, Tryz.ntmps46
          go_wp2_with fail
          go_ret
          exact ⟨Attr.rt_bool HF.out, hb0.out⟩
      · have HF := Lib.hid (inB_f (gw := gw) (gh := gh) (x := x) (y := y) (by omega)).symm
        go_enter Tryz.func46, Tryz.ntmps46
        go_wp2_with fail
        go_ret
        exact ⟨Attr.rt_bool HF.out, hb0.out⟩
    · have HF := Lib.hid (inB_f (gw := gw) (gh := gh) (x := x) (y := y) (by omega)).symm
      go_enter Tryz.func46, Tryz.ntmps46
      go_wp2_with fail
      go_ret
      exact ⟨Attr.rt_bool HF.out, hb0.out⟩
  · have HF := Lib.hid (inB_f (gw := gw) (gh := gh) (x := x) (y := y) (by omega)).symm
    go_enter Tryz.func46, Tryz.ntmps46
    go_wp2_with fail
    go_ret
    exact ⟨Attr.rt_bool HF.out, hb0.out⟩

set_option maxRecDepth 100000 in
set_option maxHeartbeats 3200000 in
theorem rowsOf_any (gw gh top end_ : Int) (b o n c lo hi : Nat) (w : World) (h1 : top * gw = (lo : Int)) (h2 : end_ * gw = (hi : Int)) (hlt : lo < hi) (hhi : hi ≤ n) (hnc : n ≤ c) (hn : n ≤ 1099511627776) (hc : c ≤ 9223372036854775807) :
    Calls Tryz.prog 212 #[.agg #[.int .i64 gw, .int .i64 gh, .slice (some ⟨b, o, none⟩) n c], .int .i64 top, .int .i64 end_] w fun e w' => e = .returned (.slice (some ⟨b, o + lo * 6, none⟩) (hi - lo) (c - lo)) ∧ Below w.heap.size w w' := by
  have hb0 := Lib.hid ((Below.refl w.heap.size w).alloc (Nat.le_refl _) (.cells #[.int .i64 gw, .int .i64 gh, .slice (some ⟨b, o, none⟩) n c] 25))
  have e1 : IntKind.i64.wrap (top * gw) = (lo : Int) := by rw [h1]; exact IntWalk.i64_in _ (by omega)
  have e2 : IntKind.i64.wrap (end_ * gw) = (hi : Int) := by rw [h2]; exact IntWalk.i64_in _ (by omega)
  have b1 : lo ≠ c := by omega
  have b2 : hi ≤ c := by omega
  have b3 : lo ≤ hi := by omega
  clear h1 h2
  go_enter Tryz.func212, Tryz.ntmps212
  go_wp2_with fail
  go_ret
  exact ⟨rfl, hb0.out⟩
set_option maxRecDepth 100000 in
set_option maxHeartbeats 3200000 in
theorem rowOf_any (W : Nat) (gh : Int) (b o n c y : Nat) (w : World) (h0 : 1 ≤ W) (hy : y * W + W ≤ n) (hyb : y ≤ 1000000) (hnc : n ≤ c) (hn : n ≤ 1099511627776) (hc : c ≤ 9223372036854775807) :
    Calls Tryz.prog 201 #[.agg #[.int .i64 (W : Int), .int .i64 gh, .slice (some ⟨b, o, none⟩) n c], .int .i64 (y : Int)] w fun e w' => e = .returned (.slice (some ⟨b, o + y * W * 6, none⟩) W (c - y * W)) ∧ Below w.heap.size w w' := by
  have hb0 := Lib.hid ((Below.refl w.heap.size w).alloc (Nat.le_refl _) (.cells #[.int .i64 (W : Int), .int .i64 gh, .slice (some ⟨b, o, none⟩) n c] 25))
  have HRO := Lib.hid (fun V => rowsOf_any (W : Int) gh (y : Int) ((y : Int) + 1) b o n c (y * W) (y * W + W) V (by rw [Int.natCast_mul]) (by rw [Int.add_mul, Int.one_mul, Int.natCast_add, Int.natCast_mul]) (by omega) hy hnc hn hc)
  rw [show y * W + W - y * W = W by omega] at HRO
  go_enter Tryz.func201, Tryz.ntmps201
  go_wp2_with fail
  refine (HRO.out _).mono ?_
  rintro e v1 ⟨rfl, hb1⟩
  have HB1 := Lib.hid (hb0.out.trans (hb1.mono (by simp)))
  clear hb1
  go_wp2_with fail
  go_ret
  exact ⟨rfl, HB1.out⟩

end Go.Proofs.YtfdbmhelcmifoaaGreat.Gr
namespace Go.Proofs.YtfdbmhelcmifoaaGreat.Gr
open Go.RowKit Go.Proofs.YtfdbmhelcmifoaaGreat.Bytes Go.Proofs.YtfdbmhelcmifoaaGreat.Rows_ Go.Proofs.YtfdbmhelcmifoaaGreat.RowK
set_option linter.unusedVariables false
theorem OwnC.cap {w : World} {base : Nat} {A : Option Addr} {n c : Nat} {cs : List CellD} (h : OwnC w base A n c cs) : n ≤ c ∧ c ≤ 9223372036854775807 := by
  rcases h.2 with ⟨hv, h0⟩ | ⟨g, cap, cur, hv, _, _, hnc, hm, _⟩
  · injection hv with e1 e2 e3; omega
  · injection hv with e1 e2 e3
    unfold maxLen at hm; omega
theorem OwnC.addr {w : World} {base : Nat} {A : Option Addr} {n c : Nat} {cs : List CellD} (h : OwnC w base A n c cs) (hn : 0 < n) : ∃ g, A = some ⟨g, 0, none⟩ := own_addr h hn
end Go.Proofs.YtfdbmhelcmifoaaGreat.Gr
namespace Go.Proofs.YtfdbmhelcmifoaaGreat.Gr
open Go.RowKit Go.Proofs.YtfdbmhelcmifoaaGreat.Bytes Go.Proofs.YtfdbmhelcmifoaaGreat.Rows_ Go.Proofs.YtfdbmhelcmifoaaGreat.RowK
set_option linter.unusedVariables false
abbrev GridT := Int × Int × List CellD
def zeroT : GridT := (0, 0, [])
def AnsT (w : World) (t : GridT) (e : Ending) (w' : World) : Prop :=
  ∃ A c, e = .returned (.agg #[.int .i64 t.1, .int .i64 t.2.1, .slice A t.2.2.length c]) ∧ OwnC w' w.heap.size A t.2.2.length c t.2.2 ∧ Below w.heap.size w w'
theorem ansZero {w w' : World} (hb : Below w.heap.size w w') : AnsT w zeroT (.returned (.agg #[.int .i64 0, .int .i64 0, .slice none 0 0])) w' := ⟨none, 0, rfl, ownC_nil _ _, hb⟩
theorem ansT {w w' : World} {gw gh : Int} {A : Option Addr} {n c : Nat} {cs : List CellD} (hl : cs.length = n) (ho : OwnC w' w.heap.size A n c cs) (hb : Below w.heap.size w w') : AnsT w (gw, gh, cs) (.returned (.agg #[.int .i64 gw, .int .i64 gh, .slice A n c])) w' := by
  subst hl; exact ⟨A, c, rfl, ho, hb⟩
end Go.Proofs.YtfdbmhelcmifoaaGreat.Gr
