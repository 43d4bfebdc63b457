/- Words of the laws over screens: sizes as data, equal screens. -/
import Derived.Test.YthlpchojlddnbaaScSz
namespace Go.Proofs.Ythlpchojlddnbaa.Sc
open Go.RowKit Go.Proofs.Ythlpchojlddnbaa.Bytes Go.Proofs.Ythlpchojlddnbaa.Rows_ Go.Proofs.Ythlpchojlddnbaa.RowK Go.Proofs.Ythlpchojlddnbaa.Gr Go.Proofs.Ythlpchojlddnbaa.DOk Go.Proofs.Ythlpchojlddnbaa.Opq
set_option linter.unusedVariables false
def szD (d : ScrD) : Nat := d.M.length + d.A.length + d.tabs.length + (d.rows.length + (d.rows.map List.length).sum)
theorem szS_data (s : ScrS) : szS s = szD s.data := by
  unfold szS szD ScrS.data tot
  simp only [List.length_map, List.map_map]; rfl
theorem szS_of {s : ScrS} {d : ScrD} (h : s.data = d) : szS s = szD d := by rw [szS_data, h]
theorem eqS {s s' : ScrS} {w : World} {b1 b2 : Nat} (h1 : OwnS w b1 s) (h2 : OwnS w b2 s') (he : s'.data = s.data) (hn : szS s ≤ 1048576) :
    Calls Try.prog 26 #[.agg (scrA s), .agg (scrA s')] w fun e w' => e = .returned (.bool true) ∧ Below w.heap.size w w' := eqScr_yes h1.rd h2.rd he hn
end Go.Proofs.Ythlpchojlddnbaa.Sc

