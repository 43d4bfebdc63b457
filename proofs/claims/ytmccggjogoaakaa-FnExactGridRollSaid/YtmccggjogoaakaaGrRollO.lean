/- GridRoll over a grid of the call's own: the grid that both answer. -/
import Derived.Test.YtmccggjogoaakaaKiP
import Derived.Test.YtmccggjogoaakaaGrRoll
namespace Go.Proofs.Ytmccggjogoaakaa.Gr
open Go.RowKit Go.Proofs.Ytmccggjogoaakaa.Bytes Go.Proofs.Ytmccggjogoaakaa.Rows_ Go.Proofs.Ytmccggjogoaakaa.RowK
set_option linter.unusedVariables false

theorem impl_GridRoll_own (gw gh : Int) {A : Option Addr} {n c : Nat} {cs : List CellD} (x y d : Int) {W : World} {B : Nat} (h : OwnC W B A n c cs) (hn : n ≤ 1048576) :
    Calls Try.prog 12 #[.agg #[.int .i64 gw, .int .i64 gh, .slice A n c], .int .i64 x, .int .i64 y, .int .i64 d] W (AnsT W (rollT gw gh cs x y d)) := by
  cases ho : (okG gw gh cs && inR gh x y)
  · rw [rollT_no ho]
    exact impl_GridRoll_no gw gh A n c cs x y d W h.rd h.len (by omega) ho
  · have ho' := ho
    rw [Bool.and_eq_true] at ho
    obtain ⟨h1, h2⟩ := ho
    obtain ⟨hx0, hx1, hx2⟩ := inR_t h2
    obtain ⟨Wn, Hn, rfl, rfl, w1, w2, w3, w4, w5, hl⟩ := sides h1
    obtain ⟨xn, rfl⟩ := Int.eq_ofNat_of_zero_le hx0
    obtain ⟨yn, rfl⟩ := Int.eq_ofNat_of_zero_le (show 0 ≤ y by omega)
    have hlen := h.len
    have hpos : 1 * 1 ≤ Wn * Hn := Nat.mul_le_mul w1 w3
    obtain ⟨g, rfl⟩ := h.addr (by omega)
    rw [rollT_yes ho' (by omega)]
    exact impl_GridRoll_yes Wn Hn g 0 n c cs xn yn d W h.rd h.len hn h1 (by omega) (by omega) w1 w2 w4 (by omega)
end Go.Proofs.Ytmccggjogoaakaa.Gr

