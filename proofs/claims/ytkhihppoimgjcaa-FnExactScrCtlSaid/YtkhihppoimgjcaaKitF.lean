/- Texts that lay in modules of their own: ScDownZ, ScCtlD. -/
import Derived.Test.YtkhihppoimgjcaaKiV
namespace Go.Proofs.Ytkhihppoimgjcaa.Sc
open Go.Proofs.Ytkhihppoimgjcaa.Gr
theorem keepL_sz {L : Nat} {rows : List (List CellD)} {r : List CellD} (h1 : rows.length ≤ 100) (h2 : ∀ x ∈ rows, x.length ≤ 120) (h3 : r.length ≤ 120) : (keepL L rows r).length + ((keepL L rows r).map List.length).sum ≤ 101 * 121 := by
  have hall : ∀ x ∈ rows ++ [r], x.length ≤ 120 := fun x hx => by
    rcases List.mem_append.1 hx with hx | hx
    · exact h2 x hx
    · rw [List.mem_singleton] at hx; subst hx; exact h3
  refine sz_rows (n := 101) ?_ (fun x hx => hall x (List.mem_of_mem_drop hx))
  unfold keepL; simp; omega
theorem sz_down (d : ScrD) : szD (okF downD d) ≤ 1048576 := sz_okF fun h => by
  have h1 := ok_size h
  obtain ⟨W, H, X, Y, T, Bt, L, f⟩ := ok_fit h
  obtain ⟨r1, r2⟩ := ok_rows h
  unfold downD
  split
  · unfold roll1D
    have hR := rollC_len f 1
    have hrow : (rowD d 0).length ≤ 120 := by
      unfold rowD; rw [show d.w.toNat = W by rw [f.w]; rfl, List.length_take]; have := f.w2; omega
    have hk := keepL_sz (L := d.lim.toNat) r1 r2 hrow
    have e1 : szD { d with wrap := false } = szD d := rfl
    split
    · refine Nat.le_trans (Nat.le_of_eq (sz_put (d := keepD { d with wrap := false } 0) (cs := rollC d d.top d.bot 1) hR)) ?_
      show d.M.length + d.A.length + d.tabs.length + ((keepL d.lim.toNat d.rows (rowD d 0)).length + ((keepL d.lim.toNat d.rows (rowD d 0)).map List.length).sum) ≤ _
      unfold szD at h1; omega
    · refine Nat.le_trans (Nat.le_of_eq (sz_put (d := { d with wrap := false }) (cs := rollC d d.top d.bot 1) hR)) ?_
      rw [e1]; omega
  · show szD d ≤ _; omega
end Go.Proofs.Ytkhihppoimgjcaa.Sc
namespace Go.Proofs.Ytkhihppoimgjcaa.Sc
open Go.Proofs.Ytkhihppoimgjcaa.Gr
/-- the first stop behind x, else d -/
def tabN (x d : Int) : List Int → Int | [] => d | z :: zs => if x < z then z else tabN x d zs
theorem tabN_drop {x d : Int} {zs : List Int} {k : Nat} (h : k < zs.length) : tabN x d (zs.drop k) = if x < zs[k] then zs[k] else tabN x d (zs.drop (k + 1)) := by
  rw [List.drop_eq_getElem_cons h]; rfl
def ctlD (d : ScrD) (z : Int) : ScrD := if z = 8 then goD d (d.x - 1) d.y else if z = 9 then goD d (tabN d.x (d.w - 1) d.tabs) d.y else if z = 10 ∨ z = 11 ∨ z = 12 then downD d else if z = 13 then goD d 0 d.y else d
theorem sz_ctl (d : ScrD) (z : Int) : szD (okF (fun d => ctlD d z) d) ≤ 1048576 := by
  have h0 := sz_okF (F := fun d => d) (d := d) (fun h => by have := ok_size h; show szD d ≤ _; omega)
  by_cases h : okD d = true
  · rw [okF_yes h] at *
    have g (x y : Int) : szD (goD d x y) ≤ 1048576 := by have h1 := sz_go d x y; rwa [okF_yes h] at h1
    have g2 : szD (downD d) ≤ 1048576 := by have h1 := sz_down d; rwa [okF_yes h] at h1
    show szD (ctlD d z) ≤ _
    unfold ctlD
    split
    · exact g _ _
    · split
      · exact g _ _
      · split
        · exact g2
        · split
          · exact g _ _
          · exact h0
  · have h' : okD d = false := by simpa using h
    rw [okF_no h'] at *; exact h0
end Go.Proofs.Ytkhihppoimgjcaa.Sc
