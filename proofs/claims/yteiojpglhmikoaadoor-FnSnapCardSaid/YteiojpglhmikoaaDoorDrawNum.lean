/- Contract of the draw of a number. -/
import Derived.Test.YteiojpglhmikoaaDoorDraw
namespace Go.Proofs.YteiojpglhmikoaaDoor.Draw
open Go.RowKit Go.Proofs.YteiojpglhmikoaaDoor.Bytes
set_option linter.unusedVariables false

set_option maxRecDepth 100000 in
set_option maxHeartbeats 800000 in
theorem makeNum_any (A : Option Addr) (n c : Nat) (zs : List Int) (m : Int) (w : World) (hr : Rd w w.heap.size A zs) (hg : Rng zs) (hl : zs.length = n) (hn : n ≤ 1099511627776) (m1 : 1 ≤ m) (m2 : m ≤ 256) :
    Calls Tryd.prog 8 #[.slice A n c, .int .i64 m] w fun e w' => ∃ x, e = .returned (.int .i64 x) ∧ 0 ≤ x ∧ x < m ∧ Below w.heap.size w w' := by
  have HL := Lib.hid hl
  clear hl
  go_enter Tryd.func8, Tryd.ntmps8
  go_wp2_with fail
  refine (new_any A n c zs _ hr hg HL.out hn).mono ?_
  rintro e w1 ⟨h, rfl, hc, hb⟩
  have g2 := hc.c2
  have f2 := hc.fr 2
  have HC := Lib.hid hc
  have HB := Lib.hid hb
  have hs := hb.size
  clear hc hb
  go_wp2_with fail
  obtain ⟨h1, hh1⟩ : ∃ h1, h1 = wrap64 (h + 777) := ⟨_, rfl⟩
  rw [← hh1]
  clear hh1 g2 f2
  have hc1 := HC.out.set2 h1
  have hb1 := HB.out.setCell (p := ⟨w.heap.size, 2, none⟩) (Nat.le_refl _) (.int .i64 h1)
  have hr1 := hr.below (Nat.le_refl _) hb1
  have hs1 := hb1.size
  refine (below_any w.heap.size A n c 0 h1 zs _ m hc1 hr1 hg HL.out hn (by omega) m1 m2).mono ?_
  rintro e w3 ⟨x, i3, h3, rfl, hx0, hx1, _, _, hgr⟩
  have hb3 := hb1.grown hgr hs1 (fun k hk => by injection hk; omega)
  clear hgr hb1 hc1 hr1 hr
  go_wp2_with fail
  go_ret
  exact ⟨x, rfl, hx0, hx1, hb3⟩
end Go.Proofs.YteiojpglhmikoaaDoor.Draw

