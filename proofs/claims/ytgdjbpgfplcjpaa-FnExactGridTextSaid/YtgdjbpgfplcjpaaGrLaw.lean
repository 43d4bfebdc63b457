/- Words for the laws over grids: a block that holds a list's cells, what a function answers that makes a grid. -/
import Derived.Test.YtgdjbpgfplcjpaaGrTo
namespace Go.Proofs.Ytgdjbpgfplcjpaa.Gr
open Go.RowKit Go.Proofs.Ytgdjbpgfplcjpaa.Bytes Go.Proofs.Ytgdjbpgfplcjpaa.Rows_ Go.Proofs.Ytgdjbpgfplcjpaa.RowK
set_option linter.unusedVariables false
/-- block b holds these cells, from its head on -/
def BoxK (w : World) (b : Nat) (l : List Value) : Prop := ∀ j v, l[j]? = some v → w.cell? ⟨b, j, none⟩ = some v
theorem BoxK.below {w w' : World} {b B : Nat} {l : List Value} (h : BoxK w b l) (hb : Below B w w') (hB : b < B) : BoxK w' b l := fun j v hv => (hb.cell (p := ⟨b, j, none⟩) hB).trans (h j v hv)
theorem BoxK.only {S : Nat → Prop} {w w' : World} {b : Nat} {l : List Value} (h : BoxK w b l) (on : Only S w w') (hn : ¬ S b) : BoxK w' b l := fun j v hv => on.cell (h j v hv) hn
theorem BoxK.new (w : World) (l : List Value) (t : TypeId) : BoxK (w.alloc (.cells l.toArray t)) w.heap.size l := by
  intro j v hv
  rw [World.cell?_alloc_at _ _ _ _ rfl]; simpa using hv
theorem BoxK.alloc {w : World} {b : Nat} {l : List Value} (h : BoxK w b l) (hb : b < w.heap.size) (o : Obj) : BoxK (w.alloc o) b l := BoxK.below h ((Below.refl w.heap.size w).alloc (Nat.le_refl _) o) hb
/-- what is answered by a function that makes a grid -/
def AnsG (B : Nat) (w : World) (rw rh : Int) (rcs : List CellD) (e : Ending) (w' : World) : Prop :=
  ∃ A c, e = .returned (.agg #[.int .i64 rw, .int .i64 rh, .slice A rcs.length c]) ∧ OwnC w' w.heap.size A rcs.length c rcs ∧ Below B w w'
theorem eqG {w : World} {b1 b2 : Nat} (gw gh : Int) {A A' : Option Addr} {n c c' : Nat} {cs : List CellD} (h1 : OwnC w b1 A n c cs) (h2 : OwnC w b2 A' n c' cs) (hn : n ≤ 1099511627776) :
    Calls Try.prog 17 #[.agg #[.int .i64 gw, .int .i64 gh, .slice A n c], .agg #[.int .i64 gw, .int .i64 gh, .slice A' n c']] w fun e w' => e = .returned (.bool true) ∧ Below w.heap.size w w' :=
  eqGrid_yes gw gh A A' n c c' cs w h1.rd h2.rd h1.len hn
/-- what toGrid answers -/
def ToG (gw gh : Int) (n : Nat) (cs : List CellD) (w : World) (e : Ending) (w' : World) : Prop :=
  ∃ A' c', e = .returned (.agg #[.int .i64 gw, .int .i64 gh, .slice A' n c']) ∧ OwnC w' w.heap.size A' n c' cs ∧ Below w.heap.size w w'
theorem toG {B : Nat} {W w : World} (gw gh : Int) (A : Option Addr) (n c : Nat) (cs : List CellD) (hr : RdC w w.heap.size A cs) (hl : cs.length = n) (hn : n ≤ 1048576) (h : Below w.heap.size w W) :
    Calls Try.prog 16 #[.agg #[.int .i64 gw, .int .i64 gh, .slice A n c]] W (ToG gw gh n cs W) :=
  toGrid_any gw gh A n c cs W ((hr.below (Nat.le_refl _) h).more h.size) hl (by omega)
end Go.Proofs.Ytgdjbpgfplcjpaa.Gr
