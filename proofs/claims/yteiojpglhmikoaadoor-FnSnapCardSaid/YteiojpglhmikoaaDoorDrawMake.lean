/- Contract of the bytes that a law makes its input with. -/
import Derived.Test.YteiojpglhmikoaaDoorDraw
namespace Go.Proofs.YteiojpglhmikoaaDoor.Draw
open Go.RowKit Go.Proofs.YteiojpglhmikoaaDoor.Bytes
set_option linter.unusedVariables false
set_option maxRecDepth 100000 in
theorem make_any (A : Option Addr) (n c : Nat) (zs : List Int) (w : World) (hr : Rd w w.heap.size A zs) (hg : Rng zs) (hl : zs.length = n) (hn : n ≤ 1099511627776) :
    Calls Tryd.prog 5 #[.slice A n c] w fun e w' => ∃ A' m c' ys, e = .returned (.slice A' m c') ∧ m ≤ 40 ∧ Own w' w.heap.size A' m c' ys ∧ Rng ys ∧ Below w.heap.size w w' := by
  have HL := Lib.hid hl
  clear hl
  go_enter Tryd.func5, Tryd.ntmps5
  go_wp2_with fail
  refine (new_any A n c zs _ hr hg HL.out hn).mono ?_
  rintro e w1 ⟨h, rfl, hc, hb⟩
  have hr1 := hr.below (Nat.le_refl _) hb
  have hs := hb.size
  go_wp2_with fail
  refine (bytes_any w.heap.size A n c 0 h zs _ 40 (by omega) hc hr1 hg HL.out hn (by omega)).mono ?_
  rintro e w2 ⟨A2, m, c2, ys, i2, h2, rfl, hm, ho, hy, _, _, hgr⟩
  have hb2 := hb.grown hgr hs (fun k hk => by injection hk; omega)
  have ho2 := ho.more hs
  clear ho hgr hb hc hr hr1
  go_wp2_with fail
  go_ret
  exact ⟨A2, m, c2, ys, rfl, hm, ho2, hy, hb2⟩
end Go.Proofs.YteiojpglhmikoaaDoor.Draw

