/- FnExactSgr: the walk of the law from the contracts of the program, of its model and of the laws' helpers; at every attribute and every list, no condition. -/
import Derived.Test.YtmmdggmnjmoebaaSgr
namespace Go.Proofs.Ytmmdggmnjmoebaa.fnExactSgr
open Go.RowKit Go.Proofs.Ytmmdggmnjmoebaa.Attr Go.Proofs.Ytmmdggmnjmoebaa.DOk
set_option linter.unusedVariables false
theorem own : ownKnob Try.prog.godebug = none := by kernel_rfl
set_option maxRecDepth 100000 in
set_option maxHeartbeats 1600000 in
theorem walk (fg bg : Int) (b u t : Bool) (A : Option Addr) (n c : Nat) (zs : List Int) (w : World) (w0 : (Lit.int .i64 fg).wf = true) (w1 : (Lit.int .i64 bg).wf = true) (hr : RdI w w.heap.size A zs) (hl : zs.length = n) (hm : n ≤ maxLen) :
    Calls Try.prog 6 #[.agg #[.int .i64 fg, .int .i64 bg, .bool b, .bool u, .bool t], .slice A n c] w fun e w' => e = .returned (.bool true) ∧ Below w.heap.size w w' := by
  clear w0 w1
  unfold maxLen at hm
  by_cases hn : n ≤ 1048576
  · have HL := Lib.hid hl
    have HR := Lib.hid hr
    clear hl hr
    have HB0 := Lib.hid ((Below.refl w.heap.size w).alloc (Nat.le_refl _) (.cells #[.int .i64 fg, .int .i64 bg, .bool b, .bool u, .bool t] 28))
    have HS := fun W A' c' (h : RdI W W.heap.size A' zs) => spec_Sgr_any fg bg b u t A' n c' zs W h HL.out (by omega)
    have HI := fun W A' c' (h : RdI W W.heap.size A' zs) => impl_Sgr_any fg bg b u t A' n c' zs W h HL.out (by omega)
    generalize sgr ⟨fg, bg, b, u, t⟩ zs = aS at *
    obtain ⟨fS, gS, bS, uS, tS⟩ := aS
    simp only [AD.v] at HS HI
    have HS := Lib.hid HS
    have HI := Lib.hid HI
    go_enter Try.func6, Try.ntmps6
    go_wp2_with fail
    refine (toAttr_any fg bg b u t _).mono ?_
    rintro e v1 ⟨rfl, hb1⟩
    have HB1 := Lib.hid (HB0.out.trans (hb1.mono (by simp)))
    have s1 : w.heap.size < v1.heap.size := by have := hb1.size; simp at this; omega
    obtain ⟨hc1, hf1⟩ := bcell hb1
    clear hb1
    go_wp2_with fail
    refine (toIntS_any A n c zs _ ((HR.out.below (Nat.le_refl _) HB1.out).more (by omega)) HL.out (by omega)).mono ?_
    rintro e v2 ⟨A2, c2, rfl, ho2, hb2⟩
    have HB2 := Lib.hid (HB1.out.trans (hb2.mono (by omega)))
    have s2 : w.heap.size < v2.heap.size := by have := hb2.size; omega
    obtain ⟨hc2, hf2⟩ := bcell hb2
    have HO2 := Lib.hid ho2.rd
    clear hb2 ho2
    go_wp2_with fail
    refine (HS.out _ _ _ HO2.out).mono ?_
    rintro e v3 ⟨rfl, hb3⟩
    have HB3 := Lib.hid (HB2.out.trans (hb3.mono (by omega)))
    have s3 : w.heap.size < v3.heap.size := by have := hb3.size; omega
    obtain ⟨hc3, hf3⟩ := bcell hb3
    clear hb3 HO2
    have HB3' := Lib.hid (HB3.out.alloc (by omega) (.cells #[.int .i64 fS, .int .i64 gS, .bool bS, .bool uS, .bool tS] 30))
    go_wp2_with fail
    refine (toIntS_any A n c zs _ ((HR.out.below (Nat.le_refl _) HB3'.out).more (by simp; omega)) HL.out (by omega)).mono ?_
    rintro e v4 ⟨A4, c4, rfl, ho4, hb4⟩
    have HB4 := Lib.hid (HB3'.out.trans (hb4.mono (by simp; omega)))
    have s4 : v3.heap.size < v4.heap.size := by have := hb4.size; simp at this; omega
    obtain ⟨hc4, hf4⟩ := bcell hb4
    have HO4 := Lib.hid ho4.rd
    clear hb4 ho4
    go_wp2_with fail
    refine (toAttr_any fg bg b u t _).mono ?_
    rintro e v5 ⟨rfl, hb5⟩
    have HB5 := Lib.hid (HB4.out.trans (hb5.mono (by omega)))
    have s5 : v3.heap.size < v5.heap.size := by have := hb5.size; omega
    have HO5 := Lib.hid ((HO4.out.below (Nat.le_refl _) hb5).more hb5.size)
    obtain ⟨hc5, hf5⟩ := bcell hb5
    clear hb5 HO4
    go_wp2_with fail
    refine (HI.out _ _ _ HO5.out).mono ?_
    rintro e v6 ⟨rfl, hb6⟩
    have HB6 := Lib.hid (HB5.out.trans (hb6.mono (by omega)))
    have s6 : v3.heap.size < v6.heap.size := by have := hb6.size; omega
    have HO6 := Lib.hid ((HO5.out.below (Nat.le_refl _) hb6).more hb6.size)
    obtain ⟨hc6, hf6⟩ := bcell hb6
    clear hb6 HO5
    have HB6' := Lib.hid (HB6.out.alloc (by omega) (.cells #[.int .i64 fS, .int .i64 gS, .bool bS, .bool uS, .bool tS] 30))
    have HO6' := Lib.hid (HO6.out.below (Nat.le_refl _) ((Below.refl v6.heap.size v6).alloc (Nat.le_refl _) (.cells #[.int .i64 fS, .int .i64 gS, .bool bS, .bool uS, .bool tS] 30)))
    go_wp2_with fail
    refine (eqAttr_yes fS gS bS uS tS _).mono ?_
    rintro e v7 ⟨rfl, hb7⟩
    have HB7 := Lib.hid (HB6'.out.trans (hb7.mono (by simp; omega)))
    have s7 : v6.heap.size < v7.heap.size := by have := hb7.size; simp at this; omega
    have HO7 := Lib.hid ((HO6'.out.below (by simp) hb7).more (B' := v7.heap.size) (by omega))
    clear hb7 HO6 HO6' hc1 hf1 hc2 hf2 hc3 hf3 hc4 hf4 hc5 hf5 hc6 hf6
    go_wp2_with fail
    refine (toIntS_any A n c zs _ ((HR.out.below (Nat.le_refl _) HB7.out).more (by omega)) HL.out (by omega)).mono ?_
    rintro e v8 ⟨A8, c8, rfl, ho8, hb8⟩
    have HB8 := Lib.hid (HB7.out.trans (hb8.mono (by omega)))
    have s8 : v7.heap.size ≤ v8.heap.size := hb8.size
    have HO8 := Lib.hid ho8.rd
    have HO8' := Lib.hid ((HO7.out.below (Nat.le_refl _) hb8).more (B' := v8.heap.size) (by omega))
    clear hb8 ho8
    go_wp2_with fail
    refine (eqIntS_yes A4 A8 n c4 c8 zs _ HO8'.out HO8.out HL.out (by omega)).mono ?_
    rintro e v9 ⟨rfl, hb9⟩
    have HB9 := Lib.hid (HB8.out.trans (hb9.mono (by omega)))
    clear hb9
    go_wp2_with fail
    go_ret
    exact ⟨rfl, HB9.out⟩
  · have hn' : 1048576 < n := by omega
    go_enter Try.func6, Try.ntmps6
    go_wp2_with fail
    go_ret
    exact ⟨rfl, (Below.refl _ _).alloc (Nat.le_refl _) _⟩
end Go.Proofs.Ytmmdggmnjmoebaa.fnExactSgr
