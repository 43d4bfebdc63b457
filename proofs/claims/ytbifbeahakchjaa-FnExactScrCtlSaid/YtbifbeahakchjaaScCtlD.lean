/- What a control byte does to a screen's data. No function of the program is named. -/
import Derived.Test.YtbifbeahakchjaaScDownZ
namespace Go.Proofs.Ytbifbeahakchjaa.Sc
open Go.Proofs.Ytbifbeahakchjaa.Gr
/-- the first stop behind x, else d -/
def tabN (x d : Int) : List Int → Int | [] => d | z :: zs => if x < z then z else tabN x d zs
theorem tabN_drop {x d : Int} {zs : List Int} {k : Nat} (h : k < zs.length) : tabN x d (zs.drop k) = if x < zs[k] then zs[k] else tabN x d (zs.drop (k + 1)) := by
  rw [List.drop_eq_getElem_cons h]; rfl
def ctlD (d : ScrD) (z : Int) : ScrD := if z = 8 then goD d (d.x - 1) d.y else if z = 9 then goD d (tabN d.x (d.w - 1) d.tabs) d.y else if z = 10 ∨ z = 11 ∨ z = 12 then downD d else if z = 13 then goD d 0 d.y else d
theorem sz_ctl (d : ScrD) (z : Int) : szD (okF (fun d => ctlD d z) d) ≤ 1048576 := by
  have h0 := sz_okF (F := fun d => d) (d := d) (fun h => by have := ok_size h; show szD d ≤ _; omega)
  by_cases h : okD d = true
  · rw [okF_yes h] at *
    have g (x y : Int) : szD (goD d x y) ≤ 1048576 := by have h1 := sz_go d x y; rwa [okF_yes h] at h1
    have g2 : szD (downD d) ≤ 1048576 := by have h1 := sz_down d; rwa [okF_yes h] at h1
    show szD (ctlD d z) ≤ _
    unfold ctlD
    split
    · exact g _ _
    · split
      · exact g _ _
      · split
        · exact g2
        · split
          · exact g _ _
          · exact h0
  · have h' : okD d = false := by simpa using h
    rw [okF_no h'] at *; exact h0
end Go.Proofs.Ytbifbeahakchjaa.Sc
