/- The program's RuneBegin and the library's FullRune: whether the bytes begin a rune's encoding; at every byte slice. -/
import Derived.Test.YtgnpgkkjcloghaaGreatDoorKm13
import Derived.Test.YtgnpgkkjcloghaaGreatDoorDecTab
import Derived.Deep.QuietTactic
import Derived.BigQuiet
import Derived.Outline
namespace Go.Proofs.YtgnpgkkjcloghaaGreatDoor.Rune
open Go.RowKit Go.Proofs.YtgnpgkkjcloghaaGreatDoor.Bytes Go.Proofs.YtgnpgkkjcloghaaGreatDoor.RunePl
set_option linter.unusedVariables false
theorem bl_drewN2 {B : Nat} {a w : World} (h : Below B a w) (n : Nat) : Below B a (w.drewN n) := h.trans ⟨rfl, rfl, rfl, Nat.le_refl _, fun _ _ => rfl⟩
theorem fst_a {m : Nat} (h : m < 128) : Lib.firstT m = 240 := by unfold Lib.firstT; rw [if_pos h]
theorem fst_b {m : Nat} (h : 128 ≤ m) (h1 : m < 194) : Lib.firstT m = 241 := by unfold Lib.firstT; rw [if_neg (by omega), if_pos h1]
theorem fst_c {m : Nat} (h : 194 ≤ m) (h1 : m < 224) : Lib.firstT m = 2 := by unfold Lib.firstT; rw [if_neg (by omega), if_neg (by omega), if_pos h1]
theorem fst_e {m : Nat} (h : m = 224) : Lib.firstT m = 19 := by subst h; rfl
theorem fst_d {m : Nat} (h : 225 ≤ m) (h1 : m < 240) (h2 : m ≠ 237) : Lib.firstT m = 3 := by
  unfold Lib.firstT; rw [if_neg (by omega), if_neg (by omega), if_neg (by omega), if_neg (by omega)]
  by_cases c : m < 237
  · rw [if_pos c]
  · rw [if_neg c, if_neg h2, if_pos h1]
theorem fst_f {m : Nat} (h : m = 237) : Lib.firstT m = 35 := by subst h; rfl

set_option maxRecDepth 100000 in
set_option maxHeartbeats 1600000 in
theorem full_all (b o n c m x : Nat) (w : World) (hn : 1 ≤ n) (hm : m < 240) (h0 : w.cell? ⟨b, o, none⟩ = some (.int .u8 m)) (ht : w.cell? ⟨0, m, none⟩ = some (.int .u8 x)) (hx : (x = 240 ∧ True) ∨ (x = 241 ∧ True) ∨ (x = 2 ∧ 2 ≤ n) ∨ (x = 19 ∧ 3 ≤ n) ∨ (x = 3 ∧ 3 ≤ n) ∨ (x = 35 ∧ 3 ≤ n)) :
    Calls Tryz.prog 174 #[.slice (some ⟨b, o, none⟩) n c] w fun e w' => e = .returned (.bool true) ∧ Below w.heap.size w w' := by
  have hn0 : ((n : Int) == 0) = false := by simp; omega
  rcases hx with ⟨rfl, h⟩ | ⟨rfl, h⟩ | ⟨rfl, h⟩ | ⟨rfl, h⟩ | ⟨rfl, h⟩ | ⟨rfl, h⟩
  all_goals
    go_enter Tryz.func174, Tryz.ntmps174
    go_wp2_with fail
    go_ret
    exact ⟨rfl, Below.refl _ _⟩

set_option maxRecDepth 100000 in
set_option maxHeartbeats 3200000 in
/-- one byte that is a lead byte -/
theorem full_one (b o c m x lo hi i : Nat) (w : World) (hm : m < 240) (h0 : w.cell? ⟨b, o, none⟩ = some (.int .u8 m)) (ht : w.cell? ⟨0, m, none⟩ = some (.int .u8 x)) (ha0 : w.cell? ⟨1, 2 * i, none⟩ = some (.int .u8 lo)) (ha1 : w.cell? ⟨1, 2 * i + 1, none⟩ = some (.int .u8 hi))
    (hx : (x = 2 ∧ i = 0) ∨ (x = 19 ∧ i = 1) ∨ (x = 3 ∧ i = 0) ∨ (x = 35 ∧ i = 2)) :
    Calls Tryz.prog 174 #[.slice (some ⟨b, o, none⟩) 1 c] w fun e w' => e = .returned (.bool false) ∧ Below w.heap.size w w' := by
  rcases hx with ⟨rfl, rfl⟩ | ⟨rfl, rfl⟩ | ⟨rfl, rfl⟩ | ⟨rfl, rfl⟩
  all_goals
    simp only [Nat.mul_zero, Nat.mul_one, Nat.zero_add, Nat.reduceMul, Nat.reduceAdd] at ha0 ha1
    go_enter Tryz.func174, Tryz.ntmps174
    go_wp2_with fail
    go_quiet (fail)
    go_wp2_with fail
    go_ret
    refine ⟨rfl, bl_drewN2 ((Below.refl _ _).alloc (Nat.le_refl _) _) nq⟩

set_option maxRecDepth 100000 in
set_option maxHeartbeats 3200000 in
/-- two bytes, of which the first leads three -/
theorem full_two (b o c m x lo hi i y : Nat) (w : World) (hm : m < 240) (h0 : w.cell? ⟨b, o, none⟩ = some (.int .u8 m)) (h1 : w.cell? ⟨b, o + 1, none⟩ = some (.int .u8 y)) (hb : b < w.heap.size) (hy : y < 256) (hlo : lo < 256) (hhi : hi < 256)
    (ht : w.cell? ⟨0, m, none⟩ = some (.int .u8 x)) (ha0 : w.cell? ⟨1, 2 * i, none⟩ = some (.int .u8 lo)) (ha1 : w.cell? ⟨1, 2 * i + 1, none⟩ = some (.int .u8 hi))
    (hx : (x = 19 ∧ i = 1) ∨ (x = 3 ∧ i = 0) ∨ (x = 35 ∧ i = 2)) :
    Calls Tryz.prog 174 #[.slice (some ⟨b, o, none⟩) 2 c] w fun e w' => e = .returned (.bool (decide (y < lo ∨ hi < y))) ∧ Below w.heap.size w w' := by
  rcases hx with ⟨rfl, rfl⟩ | ⟨rfl, rfl⟩ | ⟨rfl, rfl⟩
  all_goals
    simp only [Nat.mul_zero, Nat.mul_one, Nat.zero_add, Nat.reduceMul, Nat.reduceAdd] at ha0 ha1
    by_cases c1 : y < lo
    · have e : decide (y < lo ∨ hi < y) = true := decide_eq_true (Or.inl c1)
      rw [e]
      have c1' : decide (y < lo) = true := decide_eq_true c1
      clear e
      go_enter Tryz.func174, Tryz.ntmps174
      go_wp2_with fail
      go_quiet (fail)
      go_wp2_with fail
      go_ret
      refine ⟨rfl, bl_drewN2 ((Below.refl _ _).alloc (Nat.le_refl _) _) nq⟩
    · have c1' : decide (y < lo) = false := decide_eq_false c1
      by_cases c2 : hi < y
      · have e : decide (y < lo ∨ hi < y) = true := decide_eq_true (Or.inr c2)
        rw [e]
        have c2' : decide (hi < y) = true := decide_eq_true c2
        clear e
        go_enter Tryz.func174, Tryz.ntmps174
        go_wp2_with fail
        go_quiet (fail)
        go_wp2_with fail
        go_ret
        refine ⟨rfl, bl_drewN2 ((Below.refl _ _).alloc (Nat.le_refl _) _) nq⟩
      · have e : decide (y < lo ∨ hi < y) = false := decide_eq_false (by rintro (h | h); exact c1 h; exact c2 h)
        rw [e]
        have c2' : decide (hi < y) = false := decide_eq_false c2
        clear e
        go_enter Tryz.func174, Tryz.ntmps174
        go_wp2_with fail
        go_quiet (fail)
        go_wp2_with fail
        go_ret
        refine ⟨rfl, bl_drewN2 ((Below.refl _ _).alloc (Nat.le_refl _) _) nq⟩

theorem beg_no {zs : List Int} (h : ¬ begP zs) : begB zs = false := decide_eq_false h
theorem beg_yes {zs : List Int} (h : begP zs) : begB zs = true := decide_eq_true h
theorem rb_flip {e : Ending} {a b : Bool} (h : a = b) (he : e = .returned (.bool a)) : e = .returned (.bool b) := by rw [he, h]
theorem full_any (b o n c m : Nat) (zs : List Int) (w : World) (hT : Dec.Tabs8 w) (hb : b < w.heap.size) (hg : Rng zs) (hc : ∀ k, k < zs.length → w.cell? ⟨b, o + k, none⟩ = some (.int .u8 (zs.getD k 0))) (hl : zs.length = n) (hn : 1 ≤ n) (hm0 : zs.getD 0 0 = (m : Int)) (hm : m < 240) :
    Calls Tryz.prog 174 #[.slice (some ⟨b, o, none⟩) n c] w fun e w' => e = .returned (.bool (!begB zs)) ∧ Below w.heap.size w w' := by
  have q0 : w.cell? ⟨b, o, none⟩ = some (.int .u8 (m : Int)) := by have := hc 0 (by omega); rw [hm0] at this; simpa using this
  have ht := hT.1 m (by omega)
  have fin := fun (x : Nat) (hx : Lib.firstT m = x) (hh : (x = 240 ∧ True) ∨ (x = 241 ∧ True) ∨ (x = 2 ∧ 2 ≤ n) ∨ (x = 19 ∧ 3 ≤ n) ∨ (x = 3 ∧ 3 ≤ n) ∨ (x = 35 ∧ 3 ≤ n)) (hB : ¬ begP zs) =>
    (full_all b o n c m x w hn hm q0 (by rw [hx] at ht; exact ht) hh).mono fun e w' h => (⟨rb_flip (by rw [beg_no hB]; rfl) h.1, h.2⟩ : e = .returned (.bool (!begB zs)) ∧ Below w.heap.size w w')
  by_cases c1 : m < 128
  · exact fin 240 (fst_a c1) (Or.inl ⟨rfl, trivial⟩) (by unfold begP; rw [hm0]; omega)
  by_cases c2 : m < 194
  · exact fin 241 (fst_b (by omega) c2) (Or.inr (Or.inl ⟨rfl, trivial⟩)) (by unfold begP; rw [hm0]; omega)
  by_cases c3 : m < 224
  · by_cases n1 : n = 1
    · subst n1
      obtain ⟨a0, a1⟩ := hT.2 0 (by omega)
      refine (full_one b o c m 2 128 191 0 w hm q0 (by rw [fst_c (by omega) c3] at ht; exact ht) (by simpa [Lib.accLo] using a0) (by simpa [Lib.accHi] using a1) (Or.inl ⟨rfl, rfl⟩)).mono fun e w' h => ⟨rb_flip (by rw [beg_yes (Or.inl ⟨hl, by rw [hm0]; omega⟩)]; rfl) h.1, h.2⟩
    · exact fin 2 (fst_c (by omega) c3) (Or.inr (Or.inr (Or.inl ⟨rfl, by omega⟩))) (by unfold begP; rw [hm0]; omega)
  by_cases n3 : 3 ≤ n
  · by_cases e1 : m = 224
    · exact fin 19 (fst_e e1) (Or.inr (Or.inr (Or.inr (Or.inl ⟨rfl, n3⟩)))) (by unfold begP; omega)
    by_cases e2 : m = 237
    · exact fin 35 (fst_f e2) (Or.inr (Or.inr (Or.inr (Or.inr (Or.inr ⟨rfl, n3⟩))))) (by unfold begP; omega)
    · exact fin 3 (fst_d (by omega) hm e2) (Or.inr (Or.inr (Or.inr (Or.inr (Or.inl ⟨rfl, n3⟩))))) (by unfold begP; omega)
  have hx : ∃ x i lo hi : Nat, Lib.firstT m = x ∧ ((x = 19 ∧ i = 1) ∨ (x = 3 ∧ i = 0) ∨ (x = 35 ∧ i = 2)) ∧ Lib.accLo i = lo ∧ Lib.accHi i = hi ∧ i < 16 ∧ lo < 256 ∧ hi < 256 ∧ (∀ y : Int, (128 ≤ y ∧ y ≤ 191 ∧ ((m : Int) = 224 → 160 ≤ y) ∧ ((m : Int) = 237 → y ≤ 159)) ↔ ((lo : Int) ≤ y ∧ y ≤ (hi : Int))) := by
    by_cases e1 : m = 224
    · exact ⟨19, 1, 160, 191, fst_e e1, Or.inl ⟨rfl, rfl⟩, rfl, rfl, by omega, by omega, by omega, fun y => by omega⟩
    by_cases e2 : m = 237
    · exact ⟨35, 2, 128, 159, fst_f e2, Or.inr (Or.inr ⟨rfl, rfl⟩), rfl, rfl, by omega, by omega, by omega, fun y => by omega⟩
    · exact ⟨3, 0, 128, 191, fst_d (by omega) hm e2, Or.inr (Or.inl ⟨rfl, rfl⟩), rfl, rfl, by omega, by omega, by omega, fun y => by omega⟩
  obtain ⟨x, i, lo, hi, hfx, hxi, hlo, hhi, hi16, hlo2, hhi2, hy⟩ := hx
  rw [hfx] at ht
  obtain ⟨a0, a1⟩ := hT.2 i hi16
  rw [hlo] at a0
  rw [hhi] at a1
  by_cases n1 : n = 1
  · subst n1
    refine (full_one b o c m x lo hi i w hm q0 ht a0 a1 (by omega)).mono fun e w' h => ⟨rb_flip (by rw [beg_yes (Or.inl ⟨hl, by rw [hm0]; omega⟩)]; rfl) h.1, h.2⟩
  · obtain rfl : n = 2 := by omega
    have g1 := hg.at_ 1
    obtain ⟨y, hy1, hy2⟩ := natb g1.1 g1.2
    have q1 : w.cell? ⟨b, o + 1, none⟩ = some (.int .u8 (y : Int)) := by have := hc 1 (by omega); rw [hy1] at this; exact this
    refine (full_two b o c m x lo hi i y w hm q0 q1 hb hy2 hlo2 hhi2 ht a0 a1 hxi).mono fun e w' h => ⟨rb_flip ?_ h.1, h.2⟩
    have hh := hy (y : Int)
    by_cases cc : y < lo ∨ hi < y
    · rw [decide_eq_true cc, beg_no (by unfold begP; rw [hm0, hy1]; omega)]; rfl
    · rw [decide_eq_false cc, beg_yes (Or.inr ⟨hl, by rw [hm0, hy1]; omega⟩)]; rfl

set_option maxRecDepth 100000 in
set_option maxHeartbeats 1600000 in
theorem impl_RuneBegin_any (A : Option Addr) (n c : Nat) (zs : List Int) (w : World) (hT : Dec.Tabs8 w) (hr : Rd w w.heap.size A zs) (hg : Rng zs) (hl : zs.length = n) :
    Calls Tryz.prog 154 #[.slice A n c] w fun e w' => e = .returned (.bool (begB zs)) ∧ Below w.heap.size w w' := by
  by_cases hn : 1 ≤ n
  · obtain ⟨b, o, rfl, hB, hcell⟩ := hr (by omega)
    have g0 := hg.at_ 0
    obtain ⟨m, hm0, hm⟩ := natb g0.1 g0.2
    have q0 : w.cell? ⟨b, o, none⟩ = some (.int .u8 (m : Int)) := by have := hcell 0 (by omega); rw [hm0] at this; simpa using this
    by_cases c1 : m < 240
    · have HC := Lib.hid (full_any b o n c m zs w hT hB hg hcell hl hn hm0 c1)
      clear hr hg hcell hT hm0 hl
      cases hv : begB zs <;> have HV := Lib.hid hv <;> clear hv <;> rw [HV.out] at HC <;>
      · go_enter Tryz.func154, Tryz.ntmps154
        go_wp2_with fail
        refine (HC.out).mono ?_
        rintro e w' ⟨rfl, hb⟩
        have HB := Lib.hid hb
        clear hb
        go_wp2_with fail
        go_ret
        exact ⟨rfl, HB.out⟩
    · have HV := Lib.hid (beg_no (zs := zs) (by unfold begP; rw [hm0]; omega))
      clear hr hg hcell hT hm0 hl
      go_enter Tryz.func154, Tryz.ntmps154
      go_wp2_with fail
      go_ret
      exact ⟨rt_bool HV.out.symm, Below.refl _ _⟩
  · have HV := Lib.hid (beg_no (zs := zs) (by unfold begP; omega))
    have hn' : n = 0 := by omega
    subst hn'
    clear hr hg hT
    go_enter Tryz.func154, Tryz.ntmps154
    go_wp2_with fail
    go_ret
    exact ⟨rt_bool HV.out.symm, Below.refl _ _⟩
end Go.Proofs.YtgnpgkkjcloghaaGreatDoor.Rune

