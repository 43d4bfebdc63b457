/- GridAt over a grid of the call's own: the cell that both answer. -/
import Derived.Test.YtknopmbjbokpaaaGrAt
namespace Go.Proofs.Ytknopmbjbokpaaa.Gr
open Go.RowKit Go.Proofs.Ytknopmbjbokpaaa.Bytes Go.Proofs.Ytknopmbjbokpaaa.Rows_ Go.Proofs.Ytknopmbjbokpaaa.RowK
set_option linter.unusedVariables false
theorem OwnC.cap {w : World} {base : Nat} {A : Option Addr} {n c : Nat} {cs : List CellD} (h : OwnC w base A n c cs) : n ≤ c ∧ c ≤ 9223372036854775807 := by
  rcases h.2 with ⟨hv, h0⟩ | ⟨g, cap, cur, hv, _, _, hnc, hm, _⟩
  · injection hv with e1 e2 e3; omega
  · injection hv with e1 e2 e3
    unfold maxLen at hm; omega
theorem OwnC.addr {w : World} {base : Nat} {A : Option Addr} {n c : Nat} {cs : List CellD} (h : OwnC w base A n c cs) (hn : 0 < n) : ∃ g, A = some ⟨g, 0, none⟩ := own_addr h hn
theorem spec_GridAt_own (gw gh : Int) {A : Option Addr} {n c : Nat} {cs : List CellD} (x y : Int) {W : World} {B : Nat} (h : OwnC W B A n c cs) (hn : n ≤ 1048576) :
    Calls Try.prog 32 #[.agg #[.int .i64 gw, .int .i64 gh, .slice A n c], .int .i64 x, .int .i64 y] W fun e w' => e = .returned (cellV (atG gw gh cs x y)) ∧ Below W.heap.size W w' := by
  cases ho : (okG gw gh cs && inB gw gh x y)
  · rw [atG_no ho]
    exact spec_GridAt_no gw gh A n c cs x y W h.rd h.len (by omega) ho
  · rw [Bool.and_eq_true] at ho
    obtain ⟨h1, h2⟩ := ho
    obtain ⟨hx0, hx1, hy0, hy1⟩ := inB_t h2
    obtain ⟨Wn, Hn, rfl, rfl, w1, w2, w3, w4, w5, hl⟩ := sides h1
    obtain ⟨xn, rfl⟩ := Int.eq_ofNat_of_zero_le hx0
    obtain ⟨yn, rfl⟩ := Int.eq_ofNat_of_zero_le hy0
    have hlt := row_lt (W := Wn) (H := Hn) (x := xn) (y := yn) (by omega) (by omega)
    have hkl : yn * Wn + xn < cs.length := by omega
    have hk : ((yn : Int) * (Wn : Int) + (xn : Int)).toNat = yn * Wn + xn := by rw [← Int.natCast_mul, ← Int.natCast_add]; rfl
    rw [atG_yes h1 h2 _ hk hkl]
    obtain ⟨g, rfl⟩ := h.addr (by have := h.len; omega)
    exact spec_GridAt_yes Wn Hn g 0 n c cs xn yn W h.rd h.len (by omega) h.cap.1 h.cap.2 h1 (by omega) (by omega) _ rfl hkl
theorem impl_GridAt_own (gw gh : Int) {A : Option Addr} {n c : Nat} {cs : List CellD} (x y : Int) {W : World} {B : Nat} (h : OwnC W B A n c cs) (hn : n ≤ 1048576) :
    Calls Try.prog 33 #[.agg #[.int .i64 gw, .int .i64 gh, .slice A n c], .int .i64 x, .int .i64 y] W fun e w' => e = .returned (cellV (atG gw gh cs x y)) ∧ Below W.heap.size W w' := by
  cases ho : (okG gw gh cs && inB gw gh x y)
  · rw [atG_no ho]
    exact impl_GridAt_no gw gh A n c cs x y W h.rd h.len (by omega) ho
  · rw [Bool.and_eq_true] at ho
    obtain ⟨h1, h2⟩ := ho
    obtain ⟨hx0, hx1, hy0, hy1⟩ := inB_t h2
    obtain ⟨Wn, Hn, rfl, rfl, w1, w2, w3, w4, w5, hl⟩ := sides h1
    obtain ⟨xn, rfl⟩ := Int.eq_ofNat_of_zero_le hx0
    obtain ⟨yn, rfl⟩ := Int.eq_ofNat_of_zero_le hy0
    have hlt := row_lt (W := Wn) (H := Hn) (x := xn) (y := yn) (by omega) (by omega)
    have hkl : yn * Wn + xn < cs.length := by omega
    have hk : ((yn : Int) * (Wn : Int) + (xn : Int)).toNat = yn * Wn + xn := by rw [← Int.natCast_mul, ← Int.natCast_add]; rfl
    rw [atG_yes h1 h2 _ hk hkl]
    obtain ⟨g, rfl⟩ := h.addr (by have := h.len; omega)
    exact impl_GridAt_yes Wn Hn g 0 n c cs xn yn W h.rd h.len (by omega) h.cap.1 h.cap.2 h1 (by omega) (by omega) _ rfl hkl
end Go.Proofs.Ytknopmbjbokpaaa.Gr
