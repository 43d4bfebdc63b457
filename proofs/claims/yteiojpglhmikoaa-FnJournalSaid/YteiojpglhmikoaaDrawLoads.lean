/- Contracts of the loads and numbers that a law makes its input with. -/
import Derived.Test.YteiojpglhmikoaaDraw
import Derived.Test.YteiojpglhmikoaaJourRead
namespace Go.Proofs.Yteiojpglhmikoaa.Draw
open Go.RowKit Go.Proofs.Yteiojpglhmikoaa.Bytes Go.Proofs.Yteiojpglhmikoaa.Loads Go.Proofs.Yteiojpglhmikoaa.Frame
set_option linter.unusedVariables false

set_option maxRecDepth 100000 in
set_option maxHeartbeats 1600000 in
theorem below_big (R : Nat) (A : Option Addr) (n c i : Nat) (h : Int) (zs : List Int) (w : World) (m : Int) (hc : Cur w R A n c i h) (hr : Rd w R A zs) (hg : Rng zs) (hl : zs.length = n) (hn : n ≤ 1099511627776) (hi : i ≤ n) (m1 : 256 < m) (m2 : m ≤ 4294967295) :
    Calls Try.prog 46 #[.pointer (some ⟨R, 0, none⟩), .int .i64 m] w fun e w' => ∃ x i' h', e = .returned (.int .i64 x) ∧ 0 ≤ x ∧ x < m ∧ i' ≤ n ∧ Cur w' R A n c i' h' ∧ w.grownBy w' (some R) := by
  have HL := Lib.hid hl
  clear hl
  go_enter Try.func46, Try.ntmps46
  go_wp2_with fail
  refine (byte_any R A n c i h zs _ hc hr hg HL.out hn hi).mono ?_
  rintro e w1 ⟨x1, i1, h1, rfl, a1, b1, hi1, hc1, hg1⟩
  have hr1 := rd_grown hr hg1 (Nat.le_refl _)
  go_wp2_with fail
  refine (byte_any R A n c i1 h1 zs _ hc1 hr1 hg HL.out hn hi1).mono ?_
  rintro e w2 ⟨x2, i2, h2, rfl, a2, b2, hi2, hc2, hg2⟩
  have hr2 := rd_grown hr1 hg2 (Nat.le_refl _)
  go_wp2_with fail
  refine (byte_any R A n c i2 h2 zs _ hc2 hr2 hg HL.out hn hi2).mono ?_
  rintro e w3 ⟨x3, i3, h3, rfl, a3, b3, hi3, hc3, hg3⟩
  have hr3 := rd_grown hr2 hg3 (Nat.le_refl _)
  go_wp2_with fail
  refine (byte_any R A n c i3 h3 zs _ hc3 hr3 hg HL.out hn hi3).mono ?_
  rintro e w4 ⟨x4, i4, h4, rfl, a4, b4, hi4, hc4, hg4⟩
  have hge := grown_trans (grown_trans hg1 hg2) (grown_trans hg3 hg4)
  go_wp2_with fail
  go_ret
  exact ⟨_, i4, h4, rfl, Int.emod_nonneg _ (by omega), Int.emod_lt_of_pos _ (by omega), hi4, hc4, hge⟩

theorem kept_R {w w' : World} {base K n R : Nat} {E : TypeId} {v : Value} {xs : List Value} (h : w.ownsRow base E K v n xs) (hg : w.grownBy w' (some R)) (hR : R < base) : w'.ownsRow base E K v n xs := by
  refine World.ownsRow.kept h hg ?_
  rcases hv : v.ownBlock with _ | g
  · exact .inl rfl
  · refine .inr fun e => ?_
    have := (World.ownsRow.lt h g hv).1
    injection e with e; omega
theorem bs_snoc {w v : World} {base base' R : Nat} {gs : List LoadD} {g : LoadD} (h : OwnBs w base gs) (hg : w.grownBy v (some R)) (hR : R < base) (ho : Own v base' g.A g.n g.c g.bytes) (hB : w.heap.size ≤ base') (hbase : base ≤ base') : OwnBs v base (gs ++ [g]) := by
  refine ⟨fun f hf => ?_, List.pairwise_append.2 ⟨h.2, List.pairwise_singleton _ _, fun a ha b hb' => ?_⟩⟩
  · rcases List.mem_append.1 hf with hf | hf
    · exact kept_R (h.1 f hf) hg hR
    · rw [List.mem_singleton] at hf; subst hf; exact ho.more hbase
  · rw [List.mem_singleton] at hb'; subst hb'
    exact (h.1 a ha).ne_ ho hB

set_option maxRecDepth 100000 in
set_option maxHeartbeats 1600000 in
theorem loads_any (R : Nat) (A : Option Addr) (n c i : Nat) (h : Int) (zs : List Int) (w : World) (most : Nat) (hm : most ≤ 255) (hc : Cur w R A n c i h) (hr : Rd w R A zs) (hg : Rng zs) (hl : zs.length = n) (hn : n ≤ 1099511627776) (hi : i ≤ n) :
    Calls Try.prog 47 #[.pointer (some ⟨R, 0, none⟩), .int .i64 most] w fun e w' => ∃ A' m c' gs i' h', e = .returned (.slice A' m c') ∧ m ≤ most ∧ OwnLo w' w.heap.size A' m c' gs ∧ OwnBs w' w.heap.size gs ∧ (∀ g ∈ gs, Rng g.bytes ∧ g.n ≤ 9) ∧ i' ≤ n ∧ Cur w' R A n c i' h' ∧ w.grownBy w' (some R) := by
  have HL := Lib.hid hl
  have hRlt := hc.lt
  clear hl
  have hown1 : OwnLo (w.alloc (.cells #[] 32)) w.heap.size (some ⟨w.heap.size, 0, none⟩) 0 0 [] := World.ownsRow_lit w #[] 0 (Nat.le_refl _) (by decide) rfl
  have hb0 : Below w.heap.size w (w.alloc (.cells #[] 32)) := (Below.refl _ _).alloc (Nat.le_refl _) _
  have hc0 := hc.below hb0 hRlt
  have hr0 := hr.below (Nat.le_of_lt hRlt) hb0
  have hg0 : w.grownBy (w.alloc (.cells #[] 32)) (some R) := grown_below (World.grownBy.refl _ _) hb0 (Nat.le_refl _)
  have hsz : w.heap.size ≤ (w.alloc (.cells #[] 32)).heap.size := hb0.size
  have HO := Lib.hid hown1
  have HC := Lib.hid hc0
  have HR := Lib.hid hr0
  have HG := Lib.hid hg0
  clear hown1 hb0 hc0 hr0 hg0 hc hr
  go_enter Try.func47, Try.ntmps47
  go_wp2_with fail
  refine (below_any R A n c i h zs _ _ HC.out HR.out hg HL.out hn hi (by omega) (by omega)).mono ?_
  rintro e w1 ⟨x, i1, h1, rfl, hx0, hx1, hi1, hc1, hg1⟩
  obtain ⟨t, rfl⟩ := Int.eq_ofNat_of_zero_le hx0
  have hr1 := rd_grown HR.out hg1 (Nat.le_refl _)
  have ho1 : OwnLo w1 w.heap.size (some ⟨w.heap.size, 0, none⟩) 0 0 [] := kept_R HO.out hg1 hRlt
  have hg2 := grown_trans HG.out hg1
  clear hg1
  go_wp2_with fail
  go_loopw [5, 6] (fun v j wr => ∃ (k u : Nat) (A2 : Option Addr) (c2 : Nat) (gs : List LoadD) (i2 : Nat) (h2 : Int), j = .int .i64 u ∧ k + u = t ∧ v = .slice A2 k c2 ∧ OwnLo wr w.heap.size A2 k c2 gs ∧ OwnBs wr w.heap.size gs ∧ Hid (∀ g ∈ gs, Rng g.bytes ∧ g.n ≤ 9) ∧ i2 ≤ n ∧ Cur wr R A n c i2 h2 ∧ Rd wr R A zs ∧ w.grownBy wr (some R)) (fun _ j _ => (intOf j).toNat)
  case atStart => exact ⟨0, t, _, _, [], i1, h1, rfl, by omega, rfl, ho1, OwnBs.nil _ _, Lib.hid (fun g hg => by cases hg), hi1, hc1, hr1, hg2⟩
  case round =>
    obtain ⟨k, u, A2, c2, gs, i2, h2, rfl, hku, rfl, ho, hbs, HY, hi2, hcu, hrd, hgr⟩ := hrel
    clear ho1 hc1 hr1 hg2
    have HKU := Lib.hid hku
    by_cases hlt : 0 < u
    · have hk255 : k ≤ 255 := by omega
      have hu255 : u ≤ 255 := by omega
      have hB := Lib.hid hbs
      clear hbs hku
      go_wp2_with fail
      refine (bytes_any R A n c i2 h2 zs _ 9 (by omega) hcu hrd hg HL.out hn hi2).mono ?_
      rintro e w3 ⟨A3, m3, c3, ys, i3, h3, rfl, hm3, ho3, hy3, hi3, hc3, hg3⟩
      have hgs := hgr.size
      have hol : OwnLo w3 w.heap.size A2 k c2 gs := kept_R ho hg3 hRlt
      have HB3 := Lib.hid (bs_snoc (g := ⟨A3, m3, c3, ys⟩) hB.out hg3 hRlt ho3 (Nat.le_refl _) hgs)
      have hr3 := rd_grown hrd hg3 (Nat.le_refl _)
      have hg4 := grown_trans hgr hg3
      have hs4 := hg4.size
      clear ho hrd hgr hg3 hcu ho3
      go_wp2_with (at_builtin; refine append_load (g := ⟨A3, m3, c3, ys⟩) rfl _ _ rfl rfl rfl hol (by omega) hs4 ?_)
      intro A5 c5 w5 ho5 hb5 hk5
      have hc5 := hc3.below hb5 hRlt
      have hr5 := hr3.below (Nat.le_of_lt hRlt) hb5
      have hg5 := grown_below hg4 hb5 (Nat.le_refl _)
      have HB5 := Lib.hid (hk5 _ _ HB3.out)
      clear hol hr3 hg4 hb5 hc3 hk5
      have HY5 := Lib.hid (show ∀ g ∈ gs ++ [(⟨A3, m3, c3, ys⟩ : LoadD)], Rng g.bytes ∧ g.n ≤ 9 from fun g hg => by
        rcases List.mem_append.1 hg with hg | hg
        · exact HY.out g hg
        · rw [List.mem_singleton] at hg; subst hg; exact ⟨hy3, hm3⟩)
      go_wp2_with fail
      exact ⟨⟨k + 1, u - 1, A5, c5, gs ++ [⟨A3, m3, c3, ys⟩], i3, h3, by go_num, by have := HKU.out; omega, rfl, ho5, HB5.out, HY5, hi3, hc5, hr5, hg5⟩, by simp [intOf]; omega⟩
    · obtain rfl : u = 0 := by omega
      have HB := Lib.hid hbs
      clear hbs hku
      go_wp2_with fail
      go_ret
      exact ⟨A2, _, c2, gs, i2, h2, rfl, by have := HKU.out; omega, ho, HB.out, HY.out, hi2, hcu, hgr⟩

set_option maxRecDepth 100000 in
set_option maxHeartbeats 800000 in
theorem makeLoads_any (A : Option Addr) (n c : Nat) (zs : List Int) (w : World) (hr : Rd w w.heap.size A zs) (hg : Rng zs) (hl : zs.length = n) (hn : n ≤ 1099511627776) :
    Calls Try.prog 11 #[.slice A n c] w fun e w' => ∃ s A' m c' gs, e = .returned (.tuple #[.int .i64 s, .slice A' m c']) ∧ 1 ≤ s ∧ s ≤ 300 ∧ m ≤ 6 ∧ OwnLo w' w.heap.size A' m c' gs ∧ OwnBs w' w.heap.size gs ∧ (∀ g ∈ gs, Rng g.bytes ∧ g.n ≤ 9) ∧ Below w.heap.size w w' := by
  have HL := Lib.hid hl
  clear hl
  go_enter Try.func11, Try.ntmps11
  go_wp2_with fail
  refine (new_any A n c zs _ hr hg HL.out hn).mono ?_
  rintro e w1 ⟨h, rfl, hc, hb⟩
  have hr1 := hr.below (Nat.le_refl _) hb
  have hs := hb.size
  go_wp2_with fail
  refine (below_big w.heap.size A n c 0 h zs _ 300 hc hr1 hg HL.out hn (by omega) (by omega) (by omega)).mono ?_
  rintro e w2 ⟨x, i2, h2, rfl, hx0, hx1, hi2, hc2, hg2⟩
  have hr2 := rd_grown hr1 hg2 (Nat.le_refl _)
  have hb2 := hb.grown hg2 hs (fun k hk => by injection hk; omega)
  have hs2 := hb2.size
  clear hg2 hc hr1 hb
  go_wp2_with fail
  refine (loads_any w.heap.size A n c i2 h2 zs _ 6 (by omega) hc2 hr2 hg HL.out hn hi2).mono ?_
  rintro e w3 ⟨A3, m, c3, gs, i3, h3, rfl, hm, ho, hbs, hy, _, _, hgr⟩
  have hb3 := hb2.grown hgr hs2 (fun k hk => by injection hk; omega)
  have HO := Lib.hid (OwnLo.more ho hs2)
  have HB := Lib.hid (OwnBs.more hbs hs2)
  have HY := Lib.hid hy
  clear ho hgr hb2 hc2 hr hr2 hbs hy
  go_wp2_with fail
  go_ret2
  exact ⟨_, A3, m, c3, gs, rfl, by omega, by omega, hm, HO.out, HB.out, HY.out, hb3⟩

set_option maxRecDepth 100000 in
set_option maxHeartbeats 800000 in
theorem makeNum_any (A : Option Addr) (n c : Nat) (zs : List Int) (m : Int) (w : World) (hr : Rd w w.heap.size A zs) (hg : Rng zs) (hl : zs.length = n) (hn : n ≤ 1099511627776) (m1 : 1 ≤ m) (m2 : m ≤ 256) :
    Calls Try.prog 14 #[.slice A n c, .int .i64 m] w fun e w' => ∃ x, e = .returned (.int .i64 x) ∧ 0 ≤ x ∧ x < m ∧ Below w.heap.size w w' := by
  have HL := Lib.hid hl
  clear hl
  go_enter Try.func14, Try.ntmps14
  go_wp2_with fail
  refine (new_any A n c zs _ hr hg HL.out hn).mono ?_
  rintro e w1 ⟨h, rfl, hc, hb⟩
  have g2 := hc.c2
  have f2 := hc.fr 2
  have HC := Lib.hid hc
  have HB := Lib.hid hb
  have hs := hb.size
  clear hc hb
  go_wp2_with fail
  obtain ⟨h1, hh1⟩ : ∃ h1, h1 = wrap64 (h + 777) := ⟨_, rfl⟩
  rw [← hh1]
  clear hh1 g2 f2
  have hc1 := HC.out.set2 h1
  have hb1 := HB.out.setCell (p := ⟨w.heap.size, 2, none⟩) (Nat.le_refl _) (.int .i64 h1)
  have hr1 := hr.below (Nat.le_refl _) hb1
  have hs1 := hb1.size
  refine (below_any w.heap.size A n c 0 h1 zs _ m hc1 hr1 hg HL.out hn (by omega) m1 m2).mono ?_
  rintro e w3 ⟨x, i3, h3, rfl, hx0, hx1, _, _, hgr⟩
  have hb3 := hb1.grown hgr hs1 (fun k hk => by injection hk; omega)
  clear hgr hb1 hc1 hr1 hr
  go_wp2_with fail
  go_ret
  exact ⟨x, rfl, hx0, hx1, hb3⟩
end Go.Proofs.Yteiojpglhmikoaa.Draw

