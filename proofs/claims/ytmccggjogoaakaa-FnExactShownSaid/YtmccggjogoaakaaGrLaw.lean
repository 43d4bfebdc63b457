/- Words for the laws over grids: a block that holds a list's cells, what a function answers that makes a grid. -/
import Derived.Test.YtmccggjogoaakaaKiA
import Derived.Test.YtmccggjogoaakaaGrTo
namespace Go.Proofs.Ytmccggjogoaakaa.Gr
open Go.RowKit Go.Proofs.Ytmccggjogoaakaa.Bytes Go.Proofs.Ytmccggjogoaakaa.Rows_ Go.Proofs.Ytmccggjogoaakaa.RowK
set_option linter.unusedVariables false
theorem eqG {w : World} {b1 b2 : Nat} (gw gh : Int) {A A' : Option Addr} {n c c' : Nat} {cs : List CellD} (h1 : OwnC w b1 A n c cs) (h2 : OwnC w b2 A' n c' cs) (hn : n ≤ 1099511627776) :
    Calls Try.prog 13 #[.agg #[.int .i64 gw, .int .i64 gh, .slice A n c], .agg #[.int .i64 gw, .int .i64 gh, .slice A' n c']] w fun e w' => e = .returned (.bool true) ∧ Below w.heap.size w w' :=
  eqGrid_yes gw gh A A' n c c' cs w h1.rd h2.rd h1.len hn
/-- what toGrid answers -/
def ToG (gw gh : Int) (n : Nat) (cs : List CellD) (w : World) (e : Ending) (w' : World) : Prop :=
  ∃ A' c', e = .returned (.agg #[.int .i64 gw, .int .i64 gh, .slice A' n c']) ∧ OwnC w' w.heap.size A' n c' cs ∧ Below w.heap.size w w'
theorem toG {B : Nat} {W w : World} (gw gh : Int) (A : Option Addr) (n c : Nat) (cs : List CellD) (hr : RdC w w.heap.size A cs) (hl : cs.length = n) (hn : n ≤ 1048576) (h : Below w.heap.size w W) :
    Calls Try.prog 11 #[.agg #[.int .i64 gw, .int .i64 gh, .slice A n c]] W (ToG gw gh n cs W) :=
  toGrid_any gw gh A n c cs W ((hr.below (Nat.le_refl _) h).more h.size) hl (by omega)

end Go.Proofs.Ytmccggjogoaakaa.Gr

