/- Parts that several texts use, moved out of GrLaw. -/
import Derived.Test.YtmjainacnhobnaaRowK
namespace Go.Proofs.Ytmjainacnhobnaa.Gr
open Go.RowKit Go.Proofs.Ytmjainacnhobnaa.Bytes Go.Proofs.Ytmjainacnhobnaa.Rows_ Go.Proofs.Ytmjainacnhobnaa.RowK
set_option linter.unusedVariables false
/-- block b holds these cells, from its head on -/
def BoxK (w : World) (b : Nat) (l : List Value) : Prop := ∀ j v, l[j]? = some v → w.cell? ⟨b, j, none⟩ = some v
theorem BoxK.below {w w' : World} {b B : Nat} {l : List Value} (h : BoxK w b l) (hb : Below B w w') (hB : b < B) : BoxK w' b l := fun j v hv => (hb.cell (p := ⟨b, j, none⟩) hB).trans (h j v hv)
theorem BoxK.only {S : Nat → Prop} {w w' : World} {b : Nat} {l : List Value} (h : BoxK w b l) (on : Only S w w') (hn : ¬ S b) : BoxK w' b l := fun j v hv => on.cell (h j v hv) hn
theorem BoxK.new (w : World) (l : List Value) (t : TypeId) : BoxK (w.alloc (.cells l.toArray t)) w.heap.size l := by
  intro j v hv
  rw [World.cell?_alloc_at _ _ _ _ rfl]; simpa using hv
theorem BoxK.alloc {w : World} {b : Nat} {l : List Value} (h : BoxK w b l) (hb : b < w.heap.size) (o : Obj) : BoxK (w.alloc o) b l := BoxK.below h ((Below.refl w.heap.size w).alloc (Nat.le_refl _) o) hb
end Go.Proofs.Ytmjainacnhobnaa.Gr
