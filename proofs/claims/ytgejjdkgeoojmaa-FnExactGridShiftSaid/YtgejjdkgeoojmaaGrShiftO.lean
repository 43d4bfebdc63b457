/- GridShift over a grid of the call's own: the grid that both answer. -/
import Derived.Test.YtgejjdkgeoojmaaGrShiftV
import Derived.Test.YtgejjdkgeoojmaaGrShiftS
import Derived.Test.YtgejjdkgeoojmaaGrShift
namespace Go.Proofs.Ytgejjdkgeoojmaa.Gr
open Go.RowKit Go.Proofs.Ytgejjdkgeoojmaa.Bytes Go.Proofs.Ytgejjdkgeoojmaa.Rows_ Go.Proofs.Ytgejjdkgeoojmaa.RowK
set_option linter.unusedVariables false
theorem impl_GridShift_own (gw gh : Int) {A : Option Addr} {n c : Nat} {cs : List CellD} (x y d : Int) {W : World} {B : Nat} (h : OwnC W B A n c cs) (hn : n ≤ 1048576) :
    Calls Try.prog 30 #[.agg #[.int .i64 gw, .int .i64 gh, .slice A n c], .int .i64 x, .int .i64 y, .int .i64 d] W (AnsT W (shiftT gw gh cs x y d)) := by
  cases ho : (okG gw gh cs && inB gw gh x y)
  · rw [shiftT_no ho]
    exact impl_GridShift_no gw gh A n c cs x y d W h.rd h.len (by omega) ho
  · have ho' := ho
    rw [Bool.and_eq_true] at ho
    obtain ⟨h1, h2⟩ := ho
    obtain ⟨hx0, hx1, hy0, hy1⟩ := inB_t h2
    obtain ⟨Wn, Hn, rfl, rfl, w1, w2, w3, w4, w5, hl⟩ := sides h1
    obtain ⟨xn, rfl⟩ := Int.eq_ofNat_of_zero_le hx0
    obtain ⟨yn, rfl⟩ := Int.eq_ofNat_of_zero_le hy0
    have hlt := row_lt (W := Wn) (H := Hn) (x := xn) (y := yn) (by omega) (by omega)
    have hlen := h.len
    obtain ⟨g, rfl⟩ := h.addr (by omega)
    rw [shiftT_yes ho' (by omega)]
    exact impl_GridShift_yes Wn Hn g 0 n c cs xn yn d W h.rd h.len hn h1 (by omega) (by omega) w2 w4 (by omega)
theorem shiftT_len {gw gh x y d : Int} {cs : List CellD} {n : Nat} (hl : cs.length = n) (hn : n ≤ 1048576) : (shiftT gw gh cs x y d).2.2.length ≤ 1048576 := by
  cases ho : (okG gw gh cs && inB gw gh x y)
  · rw [shiftT_no ho]; simp [zeroT]
  · have ho' := ho
    rw [Bool.and_eq_true] at ho
    obtain ⟨h1, h2⟩ := ho
    obtain ⟨hx0, hx1, hy0, hy1⟩ := inB_t h2
    obtain ⟨Wn, Hn, rfl, rfl, w1, w2, w3, w4, w5, hl'⟩ := sides h1
    obtain ⟨xn, rfl⟩ := Int.eq_ofNat_of_zero_le hx0
    obtain ⟨yn, rfl⟩ := Int.eq_ofNat_of_zero_le hy0
    have hlt := row_lt (W := Wn) (H := Hn) (x := xn) (y := yn) (by omega) (by omega)
    have hlt2 := row_lt (W := Wn) (H := Hn) (x := Wn - 1) (y := yn) (by omega) (by omega)
    rw [shiftT_yes ho' (by omega)]
    show (over cs _ _).length ≤ 1048576
    rw [over_len (by rw [shiftL_len]; omega)]; omega

end Go.Proofs.Ytgejjdkgeoojmaa.Gr

