/- The draw of a few bytes. -/
import Derived.Test.YteiojpglhmikoaaDoorDrawC
import Derived.Deep.QuietTactic
import Derived.BigQuiet
namespace Go.Proofs.YteiojpglhmikoaaDoor.Draw
open Go.RowKit Go.Proofs.YteiojpglhmikoaaDoor.Bytes
set_option linter.unusedVariables false
set_option maxRecDepth 100000 in
set_option maxHeartbeats 1600000 in
theorem bytes_any (R : Nat) (A : Option Addr) (n c i : Nat) (h : Int) (zs : List Int) (w : World) (most : Nat) (hm : most ≤ 255) (hc : Cur w R A n c i h) (hr : Rd w R A zs) (hg : Rng zs) (hl : zs.length = n) (hn : n ≤ 1099511627776) (hi : i ≤ n) :
    Calls Tryd.prog 19 #[.pointer (some ⟨R, 0, none⟩), .int .i64 most] w fun e w' => ∃ A' m c' ys i' h', e = .returned (.slice A' m c') ∧ m ≤ most ∧ Own w' w.heap.size A' m c' ys ∧ Rng ys ∧ i' ≤ n ∧ Cur w' R A n c i' h' ∧ w.grownBy w' (some R) := by
  have HL := Lib.hid hl
  have hRlt := hc.lt
  clear hl
  go_enter Tryd.func19, Tryd.ntmps19
  go_wp2_with fail
  refine (below_any R A n c i h zs _ _ hc hr hg HL.out hn hi (by omega) (by omega)).mono ?_
  rintro e w1 ⟨x, i1, h1, rfl, hx0, hx1, hi1, hc1, hg1⟩
  obtain ⟨t, rfl⟩ := Int.eq_ofNat_of_zero_le hx0
  have hr1 := rd_grown hr hg1 (Nat.le_refl _)
  have hs1 := hg1.size
  have hown1 : Own (w1.alloc (.cells #[] 5)) w1.heap.size (some ⟨w1.heap.size, 0, none⟩) 0 0 [] := World.ownsRow_lit w1 #[] 0 (Nat.le_refl _) (by decide) rfl
  have hown0 := hown1.more hs1
  clear hown1
  have hb0 : Below w1.heap.size w1 (w1.alloc (.cells #[] 5)) := (Below.refl _ _).alloc (Nat.le_refl _) _
  have hc2 := hc1.below hb0 (by omega)
  have hr2 := hr1.below (by omega) hb0
  have hg2 := grown_below hg1 hb0 hs1
  clear hc1 hr1 hg1 hb0 hc hr
  go_wp2_with fail
  go_loopw [6, 7] (fun v j wr => ∃ (k : Nat) (A2 : Option Addr) (c2 : Nat) (ys : List Int) (i2 : Nat) (h2 : Int), j = .int .i64 k ∧ k ≤ t ∧ v = .slice A2 k c2 ∧ Own wr w.heap.size A2 k c2 ys ∧ Rng ys ∧ i2 ≤ n ∧ Cur wr R A n c i2 h2 ∧ Rd wr R A zs ∧ w.grownBy wr (some R)) (fun _ j _ => t - (intOf j).toNat)
  case atStart => exact ⟨0, _, _, [], i1, h1, rfl, Nat.zero_le _, rfl, hown0, fun z hz => by simp at hz, hi1, hc2, hr2, hg2⟩
  case round =>
    obtain ⟨k, A2, c2, ys, i2, h2, rfl, hk, rfl, ho, hy, hi2, hcu, hrd, hgr⟩ := hrel
    clear hown0 hc2 hr2 hg2
    by_cases hlt : k < t
    · go_wp2_with fail
      refine (byte_any R A n c i2 h2 zs _ hcu hrd hg HL.out hn hi2).mono ?_
      rintro e w3 ⟨z, i3, h3, rfl, hz0, hz1, hi3, hc3, hg3⟩
      have ho3 := ho.keep hg3 (fun g hg' => by have := (ho.blk g hg').1; intro e2; injection e2; omega)
      have hr3 := rd_grown hrd hg3 (Nat.le_refl _)
      have hg4 := grown_trans hgr hg3
      have hs4 := hg4.size
      clear ho hrd hgr hg3 hcu
      go_wp2_with (at_builtin; refine append_byte rfl _ _ rfl rfl rfl ho3 (by omega) (by omega) ?_)
      intro A5 c5 w5 ho5 hb5
      have hc5 := hc3.below hb5 (by omega)
      have hr5 := hr3.below (by omega) hb5
      have hg5 := grown_below hg4 hb5 (Nat.le_refl _)
      clear ho3 hr3 hg4 hb5 hc3
      go_wp2_with fail
      refine ⟨⟨k + 1, A5, c5, _, i3, h3, by go_num, by omega, rfl, ho5, ?_, hi3, hc5, hr5, hg5⟩, by simp [intOf]; omega⟩
      intro y hy'
      rcases List.mem_append.1 hy' with hy' | hy'
      · exact hy y hy'
      · rw [List.mem_singleton] at hy'; subst hy'; exact ⟨hz0, hz1⟩
    · obtain rfl : t = k := by omega
      go_wp2_with fail
      go_ret
      exact ⟨A2, _, c2, ys, i2, h2, rfl, by omega, ho, hy, hi2, hcu, hgr⟩

end Go.Proofs.YteiojpglhmikoaaDoor.Draw

