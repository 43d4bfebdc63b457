/- Contracts of the draws that the laws make their inputs with: a cursor over the bytes that came in; what a draw answers lies within its bounds. -/
import Derived.Test.YteiojpglhmikoaaDoorAppend
import Derived.Laws.BitsAllLaws
import Derived.Laws.BitsLemmas
import Derived.Deep.QuietTactic
import Derived.BigQuiet
namespace Go.Proofs.YteiojpglhmikoaaDoor.Draw
open Go.RowKit Go.Proofs.YteiojpglhmikoaaDoor.Bytes
set_option linter.unusedVariables false

/-- the cursor: a block of three cells -/
def Cur (w : World) (R : Nat) (A : Option Addr) (n c i : Nat) (h : Int) : Prop := w.heap[R]? = some (.cells #[.slice A n c, .int .i64 (i : Int), .int .i64 h] 57 (0, 0))
theorem Cur.c0 {w : World} {R n c i : Nat} {A : Option Addr} {h : Int} (hc : Cur w R A n c i h) : w.cell? ⟨R, 0, none⟩ = some (.slice A n c) := by unfold Cur at hc; simp [World.cell?, hc]
theorem Cur.c1 {w : World} {R n c i : Nat} {A : Option Addr} {h : Int} (hc : Cur w R A n c i h) : w.cell? ⟨R, 1, none⟩ = some (.int .i64 (i : Int)) := by unfold Cur at hc; simp [World.cell?, hc]
theorem Cur.c2 {w : World} {R n c i : Nat} {A : Option Addr} {h : Int} (hc : Cur w R A n c i h) : w.cell? ⟨R, 2, none⟩ = some (.int .i64 h) := by unfold Cur at hc; simp [World.cell?, hc]
theorem Cur.fr {w : World} {R n c i : Nat} {A : Option Addr} {h : Int} (hc : Cur w R A n c i h) (j : Nat) : w.frozen? ⟨R, j, none⟩ = false := by unfold Cur at hc; simp [World.frozen?, hc]
theorem Cur.lt {w : World} {R n c i : Nat} {A : Option Addr} {h : Int} (hc : Cur w R A n c i h) : R < w.heap.size := (Array.getElem?_eq_some_iff.1 hc).1
theorem Cur.set2 {w : World} {R n c i : Nat} {A : Option Addr} {h : Int} (hc : Cur w R A n c i h) (h' : Int) : Cur (w.setCell ⟨R, 2, none⟩ (.int .i64 h')) R A n c i h' := by
  unfold Cur at hc ⊢
  simp [World.setCell, Array.getElem?_modify, hc]
theorem Cur.set1 {w : World} {R n c i : Nat} {A : Option Addr} {h : Int} (hc : Cur w R A n c i h) (i' : Nat) : Cur (w.setCell ⟨R, 1, none⟩ (.int .i64 (i' : Int))) R A n c i' h := by
  unfold Cur at hc ⊢
  simp [World.setCell, Array.getElem?_modify, hc]
theorem grown_set (w : World) (R j : Nat) (u : Value) : w.grownBy (w.setCell ⟨R, j, none⟩ u) (some R) :=
  ⟨rfl, rfl, rfl, by simp [World.setCell], fun k _ hk => Below.heap_setCell _ _ _ _ (fun e => hk (by rw [e]))⟩
theorem grown_drewN {w w' : World} {row : Option Nat} (h : w.grownBy w' row) (n : Nat) : w.grownBy (w'.drewN n) row := ⟨h.os, h.tape, h.output, h.size, h.block⟩
theorem grown_drewN_set {w w' : World} {R : Nat} (h : w.grownBy w' (some R)) (n j : Nat) (u : Value) : w.grownBy ((w'.drewN n).setCell ⟨R, j, none⟩ u) (some R) :=
  grown_trans (grown_drewN h n) (grown_set _ R j u)
theorem and255 (x : Int) : 0 ≤ bits .and .i64 x 255 ∧ bits .and .i64 x 255 < 256 := by
  have h1 : ((BitVec.ofInt 64 x &&& BitVec.ofInt 64 255).toNat) ≤ 255 := by
    rw [BitVec.toNat_and]
    have : (BitVec.ofInt 64 255).toNat = 255 := by decide
    rw [this]
    exact Nat.and_le_right
  show 0 ≤ IntKind.i64.wrap ((BitVec.ofInt 64 x &&& BitVec.ofInt 64 255).toNat : Int) ∧ IntKind.i64.wrap ((BitVec.ofInt 64 x &&& BitVec.ofInt 64 255).toNat : Int) < 256
  rw [IntKind.wrap_i64]
  omega

theorem and30 (x : Int) : 0 ≤ bits .and .i64 x 1073741823 ∧ bits .and .i64 x 1073741823 ≤ 1073741823 := by
  have h1 : ((BitVec.ofInt 64 x &&& BitVec.ofInt 64 1073741823).toNat) ≤ 1073741823 := by
    rw [BitVec.toNat_and]
    have : (BitVec.ofInt 64 1073741823).toNat = 1073741823 := by decide
    rw [this]
    exact Nat.and_le_right
  show 0 ≤ IntKind.i64.wrap ((BitVec.ofInt 64 x &&& BitVec.ofInt 64 1073741823).toNat : Int) ∧ IntKind.i64.wrap ((BitVec.ofInt 64 x &&& BitVec.ofInt 64 1073741823).toNat : Int) ≤ 1073741823
  rw [IntKind.wrap_i64]
  omega

set_option maxRecDepth 100000 in
set_option maxHeartbeats 1600000 in
theorem byte_any (R : Nat) (A : Option Addr) (n c i : Nat) (h : Int) (zs : List Int) (w : World) (hc : Cur w R A n c i h) (hr : Rd w R A zs) (hg : Rng zs) (hl : zs.length = n) (hn : n ≤ 1099511627776) (hi : i ≤ n) :
    Calls Tryd.prog 37 #[.pointer (some ⟨R, 0, none⟩)] w fun e w' => ∃ x i' h', e = .returned (.int .i64 x) ∧ 0 ≤ x ∧ x < 256 ∧ i' ≤ n ∧ Cur w' R A n c i' h' ∧ w.grownBy w' (some R) := by
  have g0 := hc.c0
  have g1 := hc.c1
  have g2 := hc.c2
  have f1 := hc.fr 1
  have f2 := hc.fr 2
  have HC := Lib.hid hc
  have HL := Lib.hid hl
  clear hc hl
  by_cases hin : i < n
  · obtain ⟨b, o, rfl, hB, hz⟩ := hr.at_ (k := i) (by rw [HL.out]; exact hin)
    have hd := hg.at_ i
    generalize zs.getD i 0 = z at *
    go_enter Tryd.func37, Tryd.ntmps37
    go_wp2_with fail
    obtain ⟨h1, hh1⟩ : ∃ h1, h1 = wrap64 (wrap64 (h * 6364136223846793005) + 1442695040888963407) := ⟨_, rfl⟩
    rw [← hh1]
    clear hh1
    have HC1 := HC.out.set2 h1
    have HG1 := Lib.hid (grown_set w R 2 (.int .i64 h1))
    have hz1 : (w.setCell ⟨R, 2, none⟩ (.int .i64 h1)).cell? ⟨b, o + i, none⟩ = some (.int .u8 z) := by
      rw [World.cell?_setCell_other _ _ _ _ (by intro e; injection e; omega)]; exact hz
    generalize w.setCell ⟨R, 2, none⟩ (.int .i64 h1) = w1 at *
    clear g0 g1 g2 f1 f2 hz
    have g0 := HC1.c0
    have g1 := HC1.c1
    have g2 := HC1.c2
    have f1 := HC1.fr 1
    have HCC := Lib.hid HC1
    clear HC1 HC
    have hi0 : (0 : Int) ≤ (i : Int) := by omega
    have hin' : (i : Int) < (n : Int) := by omega
    go_quiet (fail)
    generalize bits .xor .i64 (h1 / 8589934592) (h1 / 35184372088832) = y
    have hx0 := and255 y
    generalize bits .and .i64 y 255 = x0 at *
    go_wp2_with fail
    go_quiet (fail)
    go_wp2_with fail
    go_quiet (fail)
    go_wp2_with fail
    go_ret
    exact ⟨_, i + 1, h1, rfl, (and255 _).1, (and255 _).2, by omega, HCC.out.set1 (i + 1), grown_drewN_set HG1.out _ _ _⟩
  · obtain rfl : i = n := by omega
    go_enter Tryd.func37, Tryd.ntmps37
    go_wp2_with fail
    obtain ⟨h1, hh1⟩ : ∃ h1, h1 = wrap64 (wrap64 (h * 6364136223846793005) + 1442695040888963407) := ⟨_, rfl⟩
    rw [← hh1]
    clear hh1
    have HC1 := HC.out.set2 h1
    have HG1 := Lib.hid (grown_set w R 2 (.int .i64 h1))
    generalize w.setCell ⟨R, 2, none⟩ (.int .i64 h1) = w1 at *
    clear g0 g1 g2 f1 f2
    have g0 := HC1.c0
    have g1 := HC1.c1
    have g2 := HC1.c2
    have f1 := HC1.fr 1
    have HCC := Lib.hid HC1
    clear HC1 HC
    go_quiet (fail)
    generalize bits .xor .i64 (h1 / 8589934592) (h1 / 35184372088832) = y
    have hx0 := and255 y
    generalize bits .and .i64 y 255 = x0 at *
    go_wp2_with fail
    go_quiet (fail)
    go_wp2_with fail
    go_ret
    exact ⟨_, i, h1, rfl, hx0.1, hx0.2, Nat.le_refl _, HCC.out, grown_drewN (grown_drewN HG1.out _) _⟩

theorem rd_grown {w w' : World} {B R : Nat} {A : Option Addr} {zs : List Int} (h : Rd w B A zs) (hg : w.grownBy w' (some R)) (hB : B ≤ R) : Rd w' B A zs := by
  intro hn
  obtain ⟨b, o, e, hlt, hc⟩ := h hn
  exact ⟨b, o, e, hlt, fun k hk => hg.cell (hc k hk) (by intro e2; injection e2 with e2; simp at e2; omega)⟩
theorem Cur.below {w w' : World} {R n c i B : Nat} {A : Option Addr} {h : Int} (hc : Cur w R A n c i h) (hb : Below B w w') (hB : R < B) : Cur w' R A n c i h := by
  unfold Cur at hc ⊢; rw [hb.block R hB]; exact hc
theorem grown_below {w w1 w2 : World} {row : Option Nat} {B : Nat} (h : w.grownBy w1 row) (hb : Below B w1 w2) (hB : w.heap.size ≤ B) : w.grownBy w2 row :=
  ⟨hb.os.trans h.os, hb.tape.trans h.tape, hb.output.trans h.output, Nat.le_trans h.size hb.size, fun k hk hne => (hb.block k (Nat.lt_of_lt_of_le hk hB)).trans (h.block k hk hne)⟩

set_option maxRecDepth 100000 in
set_option maxHeartbeats 800000 in
theorem below_any (R : Nat) (A : Option Addr) (n c i : Nat) (h : Int) (zs : List Int) (w : World) (m : Int) (hc : Cur w R A n c i h) (hr : Rd w R A zs) (hg : Rng zs) (hl : zs.length = n) (hn : n ≤ 1099511627776) (hi : i ≤ n) (m1 : 1 ≤ m) (m2 : m ≤ 256) :
    Calls Tryd.prog 27 #[.pointer (some ⟨R, 0, none⟩), .int .i64 m] w fun e w' => ∃ x i' h', e = .returned (.int .i64 x) ∧ 0 ≤ x ∧ x < m ∧ i' ≤ n ∧ Cur w' R A n c i' h' ∧ w.grownBy w' (some R) := by
  have HL := Lib.hid hl
  clear hl
  go_enter Tryd.func27, Tryd.ntmps27
  go_wp2_with fail
  refine (byte_any R A n c i h zs _ hc hr hg HL.out hn hi).mono ?_
  rintro e w1 ⟨x, i1, h1, rfl, hx0, hx1, hi1, hc1, hg1⟩
  go_wp2_with fail
  go_ret
  exact ⟨_, i1, h1, rfl, Int.emod_nonneg _ (by omega), Int.emod_lt_of_pos _ (by omega), hi1, hc1, hg1⟩

set_option maxRecDepth 100000 in
set_option maxHeartbeats 1600000 in
theorem new_any (A : Option Addr) (n c : Nat) (zs : List Int) (w : World) (hr : Rd w w.heap.size A zs) (hg : Rng zs) (hl : zs.length = n) (hn : n ≤ 1099511627776) :
    Calls Tryd.prog 18 #[.slice A n c] w fun e w' => ∃ h, e = .returned (.pointer (some ⟨w.heap.size, 0, none⟩)) ∧ Cur w' w.heap.size A n c 0 h ∧ Below w.heap.size w w' := by
  have HL := Lib.hid hl
  clear hl
  go_enter Tryd.func18, Tryd.ntmps18
  go_wp2_with fail
  go_loop [3, 4] (fun v i => ∃ (k : Nat) (h : Int), k ≤ n ∧ k ≤ 4000 ∧ i = .int .i64 k ∧ v = .int .i64 h ∧ 0 ≤ h ∧ h ≤ 1099512627776) (fun _ i => n - (intOf i).toNat)
  case atStart => exact ⟨0, _, Nat.zero_le _, by omega, rfl, rfl, by omega, by omega⟩
  case round =>
    obtain ⟨k, h, hk, hk4, rfl, rfl, h0, h1⟩ := hrel
    by_cases hlt : k < n ∧ k < 4000
    · obtain ⟨hl1, hl2⟩ := hlt
      obtain ⟨b, o, rfl, hB, hz⟩ := hr.at_ (k := k) (by rw [HL.out]; omega)
      have hd := hg.at_ k
      generalize zs.getD k 0 = z at *
      go_wp2_with fail
      exact ⟨⟨k + 1, _, by omega, by omega, by go_num, rfl, (and30 _).1, by have := (and30 (h * 139 + z + 7)).2; omega⟩, by simp [intOf]; omega⟩
    · have hB := Lib.hid (fun u => Below.alloc (Below.refl w.heap.size w) (Nat.le_refl _) u)
      have hC := Lib.hid (show Cur (w.alloc (.cells #[.slice A n c, .int .i64 ((0 : Nat) : Int), .int .i64 h] 57)) w.heap.size A n c 0 h from heap_alloc_new w _)
      by_cases h1 : k < n
      · have h2 : (4000 : Int) ≤ (k : Int) := by omega
        clear hlt
        go_wp2_with fail
        go_ret
        exact ⟨rfl, ⟨h, hC.out⟩, hB.out _⟩
      · have h2 : (n : Int) ≤ (k : Int) := by omega
        clear hlt
        go_wp2_with fail
        go_ret
        exact ⟨rfl, ⟨h, hC.out⟩, hB.out _⟩

end Go.Proofs.YteiojpglhmikoaaDoor.Draw

