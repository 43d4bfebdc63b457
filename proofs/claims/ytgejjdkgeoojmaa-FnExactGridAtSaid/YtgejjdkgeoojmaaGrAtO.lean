/- GridAt over a grid of the call's own: the cell that both answer. -/
import Derived.Test.YtgejjdkgeoojmaaKiE
import Derived.Test.YtgejjdkgeoojmaaGrAt
namespace Go.Proofs.Ytgejjdkgeoojmaa.Gr
open Go.RowKit Go.Proofs.Ytgejjdkgeoojmaa.Bytes Go.Proofs.Ytgejjdkgeoojmaa.Rows_ Go.Proofs.Ytgejjdkgeoojmaa.RowK
set_option linter.unusedVariables false
theorem spec_GridAt_own (gw gh : Int) {A : Option Addr} {n c : Nat} {cs : List CellD} (x y : Int) {W : World} {B : Nat} (h : OwnC W B A n c cs) (hn : n ≤ 1048576) :
    Calls Try.prog 24 #[.agg #[.int .i64 gw, .int .i64 gh, .slice A n c], .int .i64 x, .int .i64 y] W fun e w' => e = .returned (cellV (atG gw gh cs x y)) ∧ Below W.heap.size W w' := by
  cases ho : (okG gw gh cs && inB gw gh x y)
  · rw [atG_no ho]
    exact spec_GridAt_no gw gh A n c cs x y W h.rd h.len (by omega) ho
  · rw [Bool.and_eq_true] at ho
    obtain ⟨h1, h2⟩ := ho
    obtain ⟨hx0, hx1, hy0, hy1⟩ := inB_t h2
    obtain ⟨Wn, Hn, rfl, rfl, w1, w2, w3, w4, w5, hl⟩ := sides h1
    obtain ⟨xn, rfl⟩ := Int.eq_ofNat_of_zero_le hx0
    obtain ⟨yn, rfl⟩ := Int.eq_ofNat_of_zero_le hy0
    have hlt := row_lt (W := Wn) (H := Hn) (x := xn) (y := yn) (by omega) (by omega)
    have hkl : yn * Wn + xn < cs.length := by omega
    have hk : ((yn : Int) * (Wn : Int) + (xn : Int)).toNat = yn * Wn + xn := by rw [← Int.natCast_mul, ← Int.natCast_add]; rfl
    rw [atG_yes h1 h2 _ hk hkl]
    obtain ⟨g, rfl⟩ := h.addr (by have := h.len; omega)
    exact spec_GridAt_yes Wn Hn g 0 n c cs xn yn W h.rd h.len (by omega) h.cap.1 h.cap.2 h1 (by omega) (by omega) _ rfl hkl
theorem impl_GridAt_own (gw gh : Int) {A : Option Addr} {n c : Nat} {cs : List CellD} (x y : Int) {W : World} {B : Nat} (h : OwnC W B A n c cs) (hn : n ≤ 1048576) :
    Calls Try.prog 25 #[.agg #[.int .i64 gw, .int .i64 gh, .slice A n c], .int .i64 x, .int .i64 y] W fun e w' => e = .returned (cellV (atG gw gh cs x y)) ∧ Below W.heap.size W w' := by
  cases ho : (okG gw gh cs && inB gw gh x y)
  · rw [atG_no ho]
    exact impl_GridAt_no gw gh A n c cs x y W h.rd h.len (by omega) ho
  · rw [Bool.and_eq_true] at ho
    obtain ⟨h1, h2⟩ := ho
    obtain ⟨hx0, hx1, hy0, hy1⟩ := inB_t h2
    obtain ⟨Wn, Hn, rfl, rfl, w1, w2, w3, w4, w5, hl⟩ := sides h1
    obtain ⟨xn, rfl⟩ := Int.eq_ofNat_of_zero_le hx0
    obtain ⟨yn, rfl⟩ := Int.eq_ofNat_of_zero_le hy0
    have hlt := row_lt (W := Wn) (H := Hn) (x := xn) (y := yn) (by omega) (by omega)
    have hkl : yn * Wn + xn < cs.length := by omega
    have hk : ((yn : Int) * (Wn : Int) + (xn : Int)).toNat = yn * Wn + xn := by rw [← Int.natCast_mul, ← Int.natCast_add]; rfl
    rw [atG_yes h1 h2 _ hk hkl]
    obtain ⟨g, rfl⟩ := h.addr (by have := h.len; omega)
    exact impl_GridAt_yes Wn Hn g 0 n c cs xn yn W h.rd h.len (by omega) h.cap.1 h.cap.2 h1 (by omega) (by omega) _ rfl hkl

end Go.Proofs.Ytgejjdkgeoojmaa.Gr

