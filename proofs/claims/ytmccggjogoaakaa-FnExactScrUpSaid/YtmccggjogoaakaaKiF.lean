/- Words and lemmas, merged (once: GrOver, GrOnly6, GrFillM) -/
import Derived.Test.YtmccggjogoaakaaKiE
import Derived.Deep.RegionHeld3
import Derived.Deep.DrawnRows
namespace Go.Proofs.Ytmccggjogoaakaa.Gr
open Go.RowKit Go.Proofs.Ytmccggjogoaakaa.Bytes Go.Proofs.Ytmccggjogoaakaa.Rows_ Go.Proofs.Ytmccggjogoaakaa.RowK
set_option linter.unusedVariables false
theorem over_next {cs l : List CellD} {lo i : Nat} {z : CellD} (h : lo + l.length ≤ cs.length) (hz : l[i]? = some z) : (over cs lo (l.take i)).set (lo + i) z = over cs lo (l.take (i + 1)) := by
  have hi : i < l.length := (List.getElem?_eq_some_iff.1 hz).1
  have h1 : (l.take i).length = i := by rw [List.length_take]; omega
  have h2 : (l.take (i + 1)).length = i + 1 := by rw [List.length_take]; omega
  apply List.ext_getElem?
  intro j
  rw [over_get (by omega), List.getElem?_set]
  rw [over_len (by omega), over_get (by omega), h1, h2]
  by_cases a : lo + i = j
  · subst a
    rw [if_pos rfl, if_pos (by omega), if_neg (by omega), if_pos (by omega), show lo + i - lo = i by omega, List.getElem?_take_of_lt (by omega), hz]
  · rw [if_neg a]
    by_cases b : j < lo
    · rw [if_pos b, if_pos b]
    · rw [if_neg b, if_neg b]
      by_cases c : j < lo + i
      · rw [if_pos c, if_pos (by omega), List.getElem?_take_of_lt (by omega), List.getElem?_take_of_lt (by omega)]
      · rw [if_neg c, if_neg (by omega)]
theorem ownC_drew {w : World} {base : Nat} {A : Option Addr} {n c : Nat} {cs : List CellD} (h : OwnC w base A n c cs) : OwnC w.drew base A n c cs := h
theorem BoxG.only6 {w : World} {b g : Nat} {l : Array Value} (h : BoxG w b l) (hne : b ≠ g) (i0 i1 i2 i3 i4 i5 : Nat) (x0 x1 x2 x3 x4 x5 : Value) : BoxG ((((((w.setCell ⟨g, i0, none⟩ x0).setCell ⟨g, i1, none⟩ x1).setCell ⟨g, i2, none⟩ x2).setCell ⟨g, i3, none⟩ x3).setCell ⟨g, i4, none⟩ x4).setCell ⟨g, i5, none⟩ x5) b l :=
  (((((h.other hne).other hne).other hne).other hne).other hne).other hne
theorem below6 {w0 w : World} {B g : Nat} (h : Below B w0 w) (hg : B ≤ g) (i0 i1 i2 i3 i4 i5 : Nat) (x0 x1 x2 x3 x4 x5 : Value) : Below B w0 ((((((w.setCell ⟨g, i0, none⟩ x0).setCell ⟨g, i1, none⟩ x1).setCell ⟨g, i2, none⟩ x2).setCell ⟨g, i3, none⟩ x3).setCell ⟨g, i4, none⟩ x4).setCell ⟨g, i5, none⟩ x5) :=
  (((((h.setCell (p := ⟨g, i0, none⟩) hg _).setCell (p := ⟨g, i1, none⟩) hg _).setCell (p := ⟨g, i2, none⟩) hg _).setCell (p := ⟨g, i3, none⟩) hg _).setCell (p := ⟨g, i4, none⟩) hg _).setCell (p := ⟨g, i5, none⟩) hg _

end Go.Proofs.Ytmccggjogoaakaa.Gr
namespace Go.Proofs.Ytmccggjogoaakaa.Gr
open Go.RowKit Go.Proofs.Ytmccggjogoaakaa.Bytes Go.Proofs.Ytmccggjogoaakaa.Rows_ Go.Proofs.Ytmccggjogoaakaa.RowK
set_option linter.unusedVariables false
end Go.Proofs.Ytmccggjogoaakaa.Gr
namespace Go.Proofs.Ytmccggjogoaakaa.Gr
open Go.RowKit Go.Proofs.Ytmccggjogoaakaa.Bytes Go.Proofs.Ytmccggjogoaakaa.Rows_ Go.Proofs.Ytmccggjogoaakaa.RowK
set_option linter.unusedVariables false
end Go.Proofs.Ytmccggjogoaakaa.Gr

