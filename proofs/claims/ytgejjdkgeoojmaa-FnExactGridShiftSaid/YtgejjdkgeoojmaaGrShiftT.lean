/- Parts that several texts use, moved out of GrShift. -/
import Derived.Test.YtgejjdkgeoojmaaKiE
import Derived.Test.YtgejjdkgeoojmaaGrSlide
import Derived.Test.YtgejjdkgeoojmaaGrCopy
namespace Go.Proofs.Ytgejjdkgeoojmaa.Gr
open Go.RowKit Go.Proofs.Ytgejjdkgeoojmaa.Bytes Go.Proofs.Ytgejjdkgeoojmaa.Rows_ Go.Proofs.Ytgejjdkgeoojmaa.RowK
set_option linter.unusedVariables false
def shiftT (gw gh : Int) (cs : List CellD) (x y d : Int) : GridT :=
  if okG gw gh cs && inB gw gh x y then (gw, gh, over cs (y * gw + x).toNat (shiftL cs (y * gw + x).toNat (gw - x).toNat d)) else zeroT
theorem shiftT_no {gw gh x y d : Int} {cs : List CellD} (h : (okG gw gh cs && inB gw gh x y) = false) : shiftT gw gh cs x y d = zeroT := by unfold shiftT; rw [h]; rfl
theorem shiftT_yes {W H x y : Nat} {d : Int} {cs : List CellD} (h : (okG (W : Int) (H : Int) cs && inB (W : Int) (H : Int) (x : Int) (y : Int)) = true) (hx : x < W) : shiftT (W : Int) (H : Int) cs (x : Int) (y : Int) d = ((W : Int), (H : Int), over cs (y * W + x) (shiftL cs (y * W + x) (W - x) d)) := by
  unfold shiftT; rw [h, ← Int.natCast_mul, ← Int.natCast_add, show ((W : Int) - (x : Int)).toNat = W - x by omega]; rfl

end Go.Proofs.Ytgejjdkgeoojmaa.Gr

