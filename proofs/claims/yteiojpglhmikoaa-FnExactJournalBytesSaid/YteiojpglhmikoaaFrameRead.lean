/- Contract of the reading of a frame, in the program: a deferred function recovers the code that the decoding gave up with. -/
import Derived.Test.YteiojpglhmikoaaFrameAt
import Derived.Defers
import Derived.Recover
import Derived.OneCell
import Derived.Lib.BufferWrite
namespace Go.Proofs.Yteiojpglhmikoaa.Frame
open Go.RowKit Go.Proofs.Yteiojpglhmikoaa.Bytes Go.Proofs.Yteiojpglhmikoaa.Var Go.Proofs.Yteiojpglhmikoaa.Crc
set_option linter.unusedVariables false

/-! ### the decoding, at every offset -/
theorem frameAt_bad (A : Option Addr) (n c : Nat) (zs : List Int) (a : Int) (w : World) (hr : Rd w w.heap.size A zs) (hg : Rng zs) (hl : zs.length = n) (hn : n ≤ 1099511627776) (hnc : n ≤ c) (h64 : -9223372036854775808 ≤ a ∧ a ≤ 9223372036854775807) (h : frC zs a ≠ 0) :
    Calls Try.prog 84 #[.slice A n c, .int .i64 a] w fun e w' => e = gives (frC zs a) ∧ Below w.heap.size w w' := by
  have same : ∀ k : Nat, frC zs a = k → Calls Try.prog 84 #[.slice A n c, .int .i64 a] w (fun e w' => e = gives k ∧ w = w') → Calls Try.prog 84 #[.slice A n c, .int .i64 a] w fun e w' => e = gives (frC zs a) ∧ Below w.heap.size w w' := by
    intro k hk hc
    rw [hk]
    exact hc.mono fun e w' ⟨h1, h2⟩ => ⟨h1, h2 ▸ Below.refl _ _⟩
  by_cases h1 : a < 0 ∨ (zs.length : Int) < a
  · exact same 1 (frC_1 h1) (at_1 A n c zs a w hr hg hl hn (by rw [← hl]; exact h1) h64)
  · obtain ⟨a, rfl⟩ := Int.eq_ofNat_of_zero_le (show 0 ≤ a by omega)
    by_cases h2 : a = zs.length ∨ zs.getD a 0 ≠ 167
    · exact same 2 (frC_2 (by omega) h2) (at_2 A n c zs a w hr hg hl hn (by omega) (by rw [← hl]; exact h2))
    · have h0 : a < n := by omega
      have hz : zs.getD a 0 = 167 := Classical.byContradiction fun h' => h2 (.inr h')
      have h0' : a < zs.length := by omega
      cases h3 : fOk3 zs (a : Int)
      · exact same 3 (frC_3 h0' hz h3) (at_3 A n c zs a w hr hg hl hn h0 hz h3)
      · obtain ⟨P1, P2, P3, S, Z, C, hN, b1, b2, b3, b4, b5, b6, b7, b8, e1, e2, e3, e4, e5, e6⟩ := nums_of h3
        by_cases h4 : S < 1 ∨ 1000000000 < S ∨ 60000 < Z
        · exact same 4 (frC_4 h0' hz h3 (by rw [e1, e2]; omega)) (at_4 A n c zs a P1 P2 P3 S Z C w hr hg hl hn h0 hz hN b1 b2 b3 (by omega) b6 b7 b8 h4)
        · by_cases h5 : n < P3 + Z
          · exact same 5 (frC_5 h0' hz h3 (by rw [e1, e2]; omega) (by rw [e2, e4]; omega)) (at_5 A n c zs a P1 P2 P3 S Z C w hr hg hl hn h0 hz hN b1 b2 b3 (by omega) b6 b7 b8 (by omega) (by omega) (by omega) h5)
          · by_cases h6 : C = crcN ((zs.drop a).take (P2 - a) ++ (zs.drop P3).take Z)
            · exact absurd (frC_0 h0' hz h3 (by rw [e1, e2]; omega) (by rw [e2, e4]; omega) (by rw [e3, e5, e6, h6])) h
            · rw [frC_6 h0' hz h3 (by rw [e1, e2]; omega) (by rw [e2, e4]; omega) (by rw [e3, e5, e6]; intro e; exact h6 (by omega))]
              exact at_6 A n c zs a P1 P2 P3 S Z C w hr hg hl hn h0 hz hN b1 b2 b3 (by omega) b6 b7 b8 (by omega) (by omega) (by omega) (by omega) hnc h6

/-- a frame that is right: all in natural numbers -/
theorem good_nums {zs : List Int} {a : Int} (h : frC zs a = 0) : ∃ a' P1 P2 P3 S Z C : Nat, a = (a' : Int) ∧ a' < zs.length ∧ zs.getD a' 0 = 167 ∧ fOk3 zs (a' : Int) = true ∧ Nums zs a' P1 P2 P3 S Z C ∧ a' + 1 < P1 ∧ P1 < P2 ∧ P2 < P3 ∧ P3 + Z ≤ zs.length ∧ P3 ≤ a' + 16 ∧
    1 ≤ S ∧ S ≤ 1000000000 ∧ Z ≤ 60000 ∧ C ≤ 4294967295 ∧ C = crcN ((zs.drop a').take (P2 - a') ++ (zs.drop P3).take Z) ∧ frSeq zs a = (S : Int) ∧ frData zs a = (zs.drop P3).take Z ∧ frNext zs a = (P3 : Int) + (Z : Int) := by
  by_cases h1 : a < 0 ∨ (zs.length : Int) < a
  · rw [frC_1 h1] at h; omega
  · obtain ⟨a, rfl⟩ := Int.eq_ofNat_of_zero_le (show 0 ≤ a by omega)
    by_cases h2 : a = zs.length ∨ zs.getD a 0 ≠ 167
    · rw [frC_2 (by omega) h2] at h; omega
    · have hz : zs.getD a 0 = 167 := Classical.byContradiction fun h' => h2 (.inr h')
      have h0' : a < zs.length := by omega
      cases h3 : fOk3 zs (a : Int)
      · rw [frC_3 h0' hz h3] at h; omega
      · obtain ⟨P1, P2, P3, S, Z, C, hN, b1, b2, b3, b4, b5, b6, b7, b8, e1, e2, e3, e4, e5, e6⟩ := nums_of h3
        obtain ⟨g1, g2, g3⟩ := fr_good h
        rw [e1] at g1
        rw [e5] at g2
        rw [e4, e2] at g3
        by_cases h4 : S < 1 ∨ 1000000000 < S ∨ 60000 < Z
        · rw [frC_4 h0' hz h3 (by rw [e1, e2]; omega)] at h; omega
        · by_cases h5 : zs.length < P3 + Z
          · rw [frC_5 h0' hz h3 (by rw [e1, e2]; omega) (by rw [e2, e4]; omega)] at h; omega
          · by_cases h6 : C = crcN ((zs.drop a).take (P2 - a) ++ (zs.drop P3).take Z)
            · exact ⟨a, P1, P2, P3, S, Z, C, rfl, h0', hz, h3, hN, b1, b2, b3, by omega, b5, by omega, by omega, by omega, b8, h6, g1, g2, g3⟩
            · rw [frC_6 h0' hz h3 (by rw [e1, e2]; omega) (by rw [e2, e4]; omega) (by rw [e3, e5, e6]; intro e; exact h6 (by omega))] at h; omega
theorem frameAt_good (A : Option Addr) (n c : Nat) (zs : List Int) (a : Int) (w : World) (hr : Rd w w.heap.size A zs) (hg : Rng zs) (hl : zs.length = n) (hn : n ≤ 1099511627776) (hnc : n ≤ c) (h : frC zs a = 0) :
    Calls Try.prog 84 #[.slice A n c, .int .i64 a] w fun e w' => ∃ A' n' c', e = .returned (.tuple #[.int .i64 (frSeq zs a), .slice A' n' c', .int .i64 (frNext zs a)]) ∧ Own w' w.heap.size A' n' c' (frData zs a) ∧ Below w.heap.size w w' := by
  obtain ⟨a, P1, P2, P3, S, Z, C, rfl, h0, hz, h3, hN, b1, b2, b3, b4, b5, b6, b7, b8, b9, hC, e1, e2, e3⟩ := good_nums h
  rw [e1, e2, e3]
  refine (at_0 A n c zs a P1 P2 P3 S Z C w hr hg hl hn (by omega) hz hN b1 b2 b3 (by omega) (by omega) (by omega) b9 b6 b7 b8 (by omega) hnc hC).mono ?_
  rintro e w' ⟨A', c', rfl, ho, hb⟩
  exact ⟨A', Z, c', rfl, ho, hb⟩

/-! ### the deferred function -/
theorem catch_panicking (p : Addr) (x k : Int) (older : List PanicEntry) (w : World) (hc : w.cell? p = some (.int .i64 x)) (hz : w.frozen? p = false) :
    CallsD Try.prog 83 #[.pointer (some p)] (.panicking ({ v := .iface 3 (.int .i64 k), recovered := false } :: older)) w fun e u' w' =>
      e = .returned (.tuple #[]) ∧ u' = .panicking ({ v := .iface 3 (.int .i64 k), recovered := true } :: older) ∧ w' = w.setCell p (.int .i64 k) := by
  have hta : (Instr.typeAssert (.iface 3 (.int .i64 k)) 20 3 false).run Try.prog w = .ok (.int .i64 k) w := by kernel_rfl
  refine callsD_of_wpS Try.func83 rfl fun c₀ cs hu => ?_
  apply wpS_seq
  apply wpS_region
  simp [wpOpsS, go_sem, recoverD, hu, Try.ntmps83, Exit.thenS]
  apply wpS_seq
  apply wpS_region
  simp [wpOpsS, go_sem, Exit.thenS]
  refine wpS_cond (t := true) (by simp [Act.eval, Array.replicate]) ?_
  simp only [if_true]
  apply wpS_region
  simp [wpOpsS, go_sem, hta, hc, hz, bodyPostS, results, Try.results83]
theorem catch_idle (p : Addr) (w : World) :
    CallsD Try.prog 83 #[.pointer (some p)] .returning w fun e u' w' => e = .returned (.tuple #[]) ∧ u' = .returning ∧ w' = w := by
  refine callsD_of_wpS Try.func83 rfl fun c₀ cs hu => ?_
  apply wpS_seq
  apply wpS_region
  simp [wpOpsS, go_sem, recoverD, hu, Try.ntmps83, Exit.thenS]
  apply wpS_seq
  apply wpS_region
  simp [wpOpsS, go_sem, Exit.thenS]
  refine wpS_cond (t := false) (by simp [Act.eval, Array.replicate]) ?_
  simp only [Bool.false_eq_true, if_false]
  refine wpS_of_wp (wp_skip ?_)
  cases c₀
  simp_all [bodyPostS, results, Try.results83]

/-! ### FrameRead -/
theorem own_set {w : World} {base : Nat} {A : Option Addr} {n c : Nat} {zs : List Int} (h : Own w base A n c zs) (b i : Nat) (v : Value) (hb : b < base) : Own (w.setCell ⟨b, i, none⟩ v) base A n c zs := by
  refine World.ownsRow.kept h (Go.Lib.grownBy_setCell w b i v) (.inr ?_)
  intro e
  have := (h.blk b e).1
  omega
set_option maxRecDepth 100000 in
set_option maxHeartbeats 1600000 in
theorem read_bad (A : Option Addr) (n c : Nat) (zs : List Int) (a : Int) (w : World) (hr : Rd w w.heap.size A zs) (hg : Rng zs) (hl : zs.length = n) (hn : n ≤ 1099511627776) (hnc : n ≤ c) (h64 : -9223372036854775808 ≤ a ∧ a ≤ 9223372036854775807) (h : frC zs a ≠ 0) :
    Calls Try.prog 48 #[.slice A n c, .int .i64 a] w fun e w' => e = .returned (.tuple #[.int .i64 0, .slice none 0 0, .int .i64 0, .int .i64 (frC zs a)]) ∧ Below w.heap.size w w' := by
  have hmf : ∀ (fn : Fn) (first cap : Array Value) (w : World), (Instr.makeFunc fn first cap).run Try.prog w = .ok (.func fn first cap) w := fun _ _ _ _ => rfl
  have hb0 : Below w.heap.size w (w.alloc (.cells #[.int .i64 0] 3)) := (Below.refl w.heap.size w).alloc (Nat.le_refl _) _
  have HC := Lib.hid (frameAt_bad A n c zs a (w.alloc (.cells #[.int .i64 0] 3)) ((hr.below (Nat.le_refl _) hb0).more hb0.size) hg hl hn hnc h64 h)
  have HB0 := Lib.hid hb0
  generalize frC zs a = k at *
  clear hb0 hr hl h h64
  go_enter_defers Try.func48, Try.ntmps48
  go_wp2_with fail
  refine HC.out.mono ?_
  rintro e w1 ⟨he, hb1⟩
  unfold gives at he
  subst he
  have hcell : w1.cell? ⟨w.heap.size, 0, none⟩ = some (.int .i64 0) := by
    rw [hb1.cell (by simp)]; simp
  have hfree : w1.frozen? ⟨w.heap.size, 0, none⟩ = false := by
    rw [hb1.frozen (by simp)]; simp
  have HB1 := Lib.hid (HB0.out.trans (hb1.mono HB0.out.size))
  clear hb1
  go_wp2_with fail
  refine leaves_cons (f := 83) (args := #[.pointer (some ⟨w.heap.size, 0, none⟩)]) (by simp) (by simp [go_sem]) ?_
  refine (catch_panicking ⟨w.heap.size, 0, none⟩ 0 _ [] _ hcell hfree).mono ?_
  rintro e u' w'' ⟨rfl, rfl, rfl⟩
  have hc2 : (w1.setCell ⟨w.heap.size, 0, none⟩ (.int .i64 k)).cell? ⟨w.heap.size, 0, none⟩ = some (.int .i64 k) := World.cell?_setCell_same' _ _ _ (by rw [hcell]; rfl)
  have HB2 := Lib.hid (HB1.out.setCell (p := ⟨w.heap.size, 0, none⟩) (Nat.le_refl _) (.int .i64 k))
  simp [Leaves, settle, results, Try.results48, go_sem, hc2]
  exact HB2.out

set_option maxRecDepth 100000 in
set_option maxHeartbeats 1600000 in
theorem read_good (A : Option Addr) (n c : Nat) (zs : List Int) (a : Int) (w : World) (hr : Rd w w.heap.size A zs) (hg : Rng zs) (hl : zs.length = n) (hn : n ≤ 1099511627776) (hnc : n ≤ c) (h : frC zs a = 0) :
    Calls Try.prog 48 #[.slice A n c, .int .i64 a] w fun e w' => ∃ A' n' c', e = .returned (.tuple #[.int .i64 (frSeq zs a), .slice A' n' c', .int .i64 (frNext zs a), .int .i64 0]) ∧ Own w' w.heap.size A' n' c' (frData zs a) ∧ Below w.heap.size w w' := by
  have hmf : ∀ (fn : Fn) (first cap : Array Value) (w : World), (Instr.makeFunc fn first cap).run Try.prog w = .ok (.func fn first cap) w := fun _ _ _ _ => rfl
  have hb0 : Below w.heap.size w (w.alloc (.cells #[.int .i64 0] 3)) := (Below.refl w.heap.size w).alloc (Nat.le_refl _) _
  have HC := Lib.hid (frameAt_good A n c zs a (w.alloc (.cells #[.int .i64 0] 3)) ((hr.below (Nat.le_refl _) hb0).more hb0.size) hg hl hn hnc h)
  have HB0 := Lib.hid hb0
  generalize frSeq zs a = s at *
  generalize frData zs a = ds at *
  generalize frNext zs a = nx at *
  clear hb0 hr hl h
  go_enter_defers Try.func48, Try.ntmps48
  go_wp2_with fail
  refine HC.out.mono ?_
  rintro e w1 ⟨A1, n1, c1, rfl, ho1, hb1⟩
  have hcell : w1.cell? ⟨w.heap.size, 0, none⟩ = some (.int .i64 0) := by
    rw [hb1.cell (by simp)]; simp
  have hfree : w1.frozen? ⟨w.heap.size, 0, none⟩ = false := by
    rw [hb1.frozen (by simp)]; simp
  have HB1 := Lib.hid ((HB0.out.trans (hb1.mono HB0.out.size)).setCell (p := ⟨w.heap.size, 0, none⟩) (Nat.le_refl _) (.int .i64 0))
  have HO1 := Lib.hid ((own_set ho1 w.heap.size 0 (.int .i64 0) (by simp)).more HB0.out.size)
  have hc2 : (w1.setCell ⟨w.heap.size, 0, none⟩ (.int .i64 0)).cell? ⟨w.heap.size, 0, none⟩ = some (.int .i64 0) := World.cell?_setCell_same' _ _ _ (by rw [hcell]; rfl)
  clear hb1 ho1
  go_wp2_with fail
  refine leaves_cons (f := 83) (args := #[.pointer (some ⟨w.heap.size, 0, none⟩)]) (by simp) (by simp [go_sem]) ?_
  refine (catch_idle ⟨w.heap.size, 0, none⟩ _).mono ?_
  rintro e u' w'' ⟨rfl, rfl, rfl⟩
  simp [Leaves, settle, results, Try.results48, go_sem, hc2]
  exact ⟨_, _, _, ⟨rfl, rfl, rfl⟩, HO1.out, HB1.out⟩

/-- both -/
theorem frData_len (zs : List Int) (a : Int) : (frData zs a).length ≤ 60000 := by
  by_cases h : frC zs a = 0
  · obtain ⟨a, P1, P2, P3, S, Z, C, rfl, h0, hz, h3, hN, b1, b2, b3, b4, b5, b6, b7, b8, b9, hC, e1, e2, e3⟩ := good_nums h
    rw [e2, List.length_take]; omega
  · rw [(fr_bad h).2.1]; simp
theorem impl_FrameRead_any (A : Option Addr) (n c : Nat) (zs : List Int) (a : Int) (w : World) (hr : Rd w w.heap.size A zs) (hg : Rng zs) (hl : zs.length = n) (hn : n ≤ 1099511627776) (hnc : n ≤ c) (h1 : -9223372036854775808 ≤ a) (h2 : a ≤ 9223372036854775807) :
    Calls Try.prog 48 #[.slice A n c, .int .i64 a] w fun e w' => ∃ A' n' c', e = .returned (.tuple #[.int .i64 (frSeq zs a), .slice A' n' c', .int .i64 (frNext zs a), .int .i64 (frC zs a)]) ∧ Own w' w.heap.size A' n' c' (frData zs a) ∧ Below w.heap.size w w' := by
  by_cases h : frC zs a = 0
  · rw [h]; exact read_good A n c zs a w hr hg hl hn hnc h
  · obtain ⟨g1, g2, g3⟩ := fr_bad h
    rw [g1, g2, g3]
    refine (read_bad A n c zs a w hr hg hl hn hnc ⟨h1, h2⟩ h).mono ?_
    rintro e w' ⟨rfl, hb⟩
    exact ⟨none, 0, 0, rfl, own_nil _ _, hb⟩
end Go.Proofs.Yteiojpglhmikoaa.Frame

