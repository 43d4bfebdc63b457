/- A grid as a text: the cells of each row up to its last that is not a space, and a line's end; as a list of bytes. -/
import Derived.Test.YtgdjbpgfplcjpaaGrAtC
import Derived.Test.YtgdjbpgfplcjpaaRuneBs
import Derived.Test.YtgdjbpgfplcjpaaAppend
namespace Go.Proofs.Ytgdjbpgfplcjpaa.Gr
open Go.RowKit Go.Proofs.Ytgdjbpgfplcjpaa.Bytes Go.Proofs.Ytgdjbpgfplcjpaa.Rows_ Go.Proofs.Ytgdjbpgfplcjpaa.RowK
set_option linter.unusedVariables false
def endC (l : List CellD) : Nat → Nat
  | 0 => 0
  | k + 1 => if (l.getD k blankC_).r = 32 then endC l k else k + 1
where blankC_ : CellD := ⟨32, 0, 0, false, false, false⟩
theorem endC_le (l : List CellD) : ∀ k, endC l k ≤ k
  | 0 => Nat.le_refl _
  | k + 1 => by
    unfold endC
    split
    · have := endC_le l k; omega
    · omega
theorem endC_skip {l : List CellD} {k : Nat} (hk : k < l.length) (h : l[k].r = 32) : endC l (k + 1) = endC l k := by
  rw [endC, if_pos]; simpa [List.getD, hk] using h
theorem endC_stop {l : List CellD} {k : Nat} (hk : k < l.length) (h : l[k].r ≠ 32) : endC l (k + 1) = k + 1 := by
  rw [endC, if_neg]; simpa [List.getD, hk] using h
/-- the bytes of the first j cells of a row -/
def runC (l : List CellD) (j : Nat) : List Int := ((l.take j).map fun z => Rune.rb z.r).flatten
theorem runC_next {l : List CellD} {j : Nat} (hj : j < l.length) : runC l (j + 1) = runC l j ++ Rune.rb l[j].r := by
  unfold runC
  rw [List.take_succ_eq_append_getElem hj, List.map_append, List.flatten_append, List.map_cons, List.map_nil, List.flatten_cons, List.flatten_nil, List.append_nil]
theorem runC_len (l : List CellD) (j : Nat) : (runC l j).length ≤ 3 * j := by
  unfold runC
  rw [List.length_flatten]
  have : ∀ (xs : List CellD), ((xs.map fun z => Rune.rb z.r).map List.length).sum ≤ 3 * xs.length := by
    intro xs
    induction xs with
    | nil => simp
    | cons x xs ih =>
      have := Rune.rb_len x.r
      simp only [List.map_cons, List.sum_cons, List.length_cons]
      omega
  have h := this (l.take j)
  have h2 : (l.take j).length ≤ j := List.length_take_le _ _
  omega
def rowL (cs : List CellD) (W y : Nat) : List CellD := (cs.drop (y * W)).take W
theorem rowL_len {cs : List CellD} {W y : Nat} (h : y * W + W ≤ cs.length) : (rowL cs W y).length = W := by unfold rowL; simp; omega
theorem rowL_get {cs : List CellD} {W y j : Nat} (h : y * W + W ≤ cs.length) (hj : j < W) : (rowL cs W y)[j]'(by rw [rowL_len h]; exact hj) = cs[y * W + j]'(by omega) := by
  unfold rowL; simp
def lineC (l : List CellD) : List Int := runC l (endC l l.length) ++ [10]
def textN (cs : List CellD) (W : Nat) : Nat → List Int
  | 0 => []
  | y + 1 => textN cs W y ++ lineC (rowL cs W y)
theorem textN_len {cs : List CellD} {W : Nat} (hW : W ≤ 120) : ∀ y, (textN cs W y).length ≤ 361 * y
  | 0 => by simp [textN]
  | y + 1 => by
    have h1 := textN_len (cs := cs) hW y
    have h2 := runC_len (rowL cs W y) (endC (rowL cs W y) (rowL cs W y).length)
    have h3 := endC_le (rowL cs W y) (rowL cs W y).length
    have h4 : (rowL cs W y).length ≤ W := List.length_take_le _ _
    rw [textN, List.length_append, lineC, List.length_append]
    simp only [List.length_cons, List.length_nil]
    omega
def textG (gw gh : Int) (cs : List CellD) : ByteArray := if okG gw gh cs then strOfNums (textN cs gw.toNat gh.toNat) else ⟨#[]⟩
theorem textG_no {gw gh : Int} {cs : List CellD} (h : okG gw gh cs = false) : textG gw gh cs = ⟨#[]⟩ := by unfold textG; rw [h]; rfl
theorem textG_yes {W H : Nat} {cs : List CellD} (h : okG (W : Int) (H : Int) cs = true) : textG (W : Int) (H : Int) cs = strOfNums (textN cs W H) := by unfold textG; rw [h]; rfl
/-- a string of bytes that the call owns -/
theorem own_str {w : World} {base n c : Nat} {A : Option Addr} {zs : List Int} (h : Own w base A n c zs) : (convert 22 9 (.slice A n c)).run Try.prog w = .ok (.string (strOfNums zs)) w := by
  have hl := h.len
  have hsp := fun (g : Nat) (e : A = some ⟨g, 0, none⟩) (i : Nat) (hi : i < n) => (by subst e; exact (h.spot hi).1 : w.cell? ⟨g, i, none⟩ = some (.int .u8 (zs.getD i 0)))
  rcases h.2 with ⟨hv, h0⟩ | ⟨g, cap, cur, hv, _⟩
  · injection hv with e1 e2 e3
    subst e1 e2 e3
    obtain rfl : zs = [] := List.eq_nil_of_length_eq_zero hl
    exact run_convert_bytes_nil (P := Try.prog) w 22 5 Try.underlying22 Try.underlying5 0 0 9 Try.underlying9
  · injection hv with e1 e2 e3
    subst e1
    exact run_convert_bytes_arg w 22 5 Try.underlying22 Try.underlying5 g 0 n c zs hl (fun i hi => by
      have := hsp g rfl i hi
      simpa using this) 9 Try.underlying9
end Go.Proofs.Ytgdjbpgfplcjpaa.Gr
