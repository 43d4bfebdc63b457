/- The size of a screen whose cursor went down. No function of the program is named. -/
import Derived.Test.YtbifbeahakchjaaKiV
namespace Go.Proofs.Ytbifbeahakchjaa.Sc
open Go.Proofs.Ytbifbeahakchjaa.Gr
theorem keepL_sz {L : Nat} {rows : List (List CellD)} {r : List CellD} (h1 : rows.length ≤ 100) (h2 : ∀ x ∈ rows, x.length ≤ 120) (h3 : r.length ≤ 120) : (keepL L rows r).length + ((keepL L rows r).map List.length).sum ≤ 101 * 121 := by
  have hall : ∀ x ∈ rows ++ [r], x.length ≤ 120 := fun x hx => by
    rcases List.mem_append.1 hx with hx | hx
    · exact h2 x hx
    · rw [List.mem_singleton] at hx; subst hx; exact h3
  refine sz_rows (n := 101) ?_ (fun x hx => hall x (List.mem_of_mem_drop hx))
  unfold keepL; simp; omega
theorem sz_down (d : ScrD) : szD (okF downD d) ≤ 1048576 := sz_okF fun h => by
  have h1 := ok_size h
  obtain ⟨W, H, X, Y, T, Bt, L, f⟩ := ok_fit h
  obtain ⟨r1, r2⟩ := ok_rows h
  unfold downD
  split
  · unfold roll1D
    have hR := rollC_len f 1
    have hrow : (rowD d 0).length ≤ 120 := by
      unfold rowD; rw [show d.w.toNat = W by rw [f.w]; rfl, List.length_take]; have := f.w2; omega
    have hk := keepL_sz (L := d.lim.toNat) r1 r2 hrow
    have e1 : szD { d with wrap := false } = szD d := rfl
    split
    · refine Nat.le_trans (Nat.le_of_eq (sz_put (d := keepD { d with wrap := false } 0) (cs := rollC d d.top d.bot 1) hR)) ?_
      show d.M.length + d.A.length + d.tabs.length + ((keepL d.lim.toNat d.rows (rowD d 0)).length + ((keepL d.lim.toNat d.rows (rowD d 0)).map List.length).sum) ≤ _
      unfold szD at h1; omega
    · refine Nat.le_trans (Nat.le_of_eq (sz_put (d := { d with wrap := false }) (cs := rollC d d.top d.bot 1) hR)) ?_
      rw [e1]; omega
  · show szD d ≤ _; omega
end Go.Proofs.Ytbifbeahakchjaa.Sc
