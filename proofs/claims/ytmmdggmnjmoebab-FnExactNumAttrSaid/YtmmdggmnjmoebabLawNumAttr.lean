/- FnExactNumAttr: the walk of the law from the contracts of the program, of its model and of the laws' helpers; at every int, no condition. -/
import Derived.Test.YtmmdggmnjmoebabNumA
namespace Go.Proofs.Ytmmdggmnjmoebab.fnExactNumAttr
open Go.RowKit Go.Proofs.Ytmmdggmnjmoebab.Attr
set_option linter.unusedVariables false
theorem own : ownKnob Try.prog.godebug = none := by kernel_rfl
set_option maxRecDepth 100000 in
theorem walk (n : Int) (w : World) (w0 : (Lit.int .i64 n).wf = true) :
    Calls Try.prog 4 #[.int .i64 n] w fun e w' => e = .returned (.bool true) ∧ Below w.heap.size w w' := by
  clear w0
  by_cases h : n < 0 ∨ 648 ≤ n
  · have H := Lib.hid h
    clear h
    go_enter Try.func4, Try.ntmps4
    go_wp2_with fail
    refine (spec_NumAttr_no n _ H.out).mono ?_
    rintro e v1 ⟨rfl, hb1⟩
    have s1 : w.heap.size ≤ v1.heap.size := hb1.size
    have HB1 := Lib.hid (hb1.alloc s1 (.cells #[.int .i64 0, .int .i64 0, .bool false, .bool false, .bool false] 25))
    clear hb1
    go_wp2_with fail
    refine (impl_NumAttr_no n _ H.out).mono ?_
    rintro e v2 ⟨rfl, hb2⟩
    have s2 : v1.heap.size < v2.heap.size := by have := hb2.size; simp at this; omega
    have HB2 := Lib.hid ((HB1.out.trans (hb2.mono (by simp; omega))).alloc (by omega) (.cells #[.int .i64 0, .int .i64 0, .bool false, .bool false, .bool false] 25))
    obtain ⟨hc, hf⟩ := bcell hb2
    clear hb2
    go_wp2_with fail
    refine (eqAttr_yes 0 0 false false false _).mono ?_
    rintro e v3 ⟨rfl, hb3⟩
    have HB3 := Lib.hid (HB2.out.trans (hb3.mono (by simp; omega)))
    clear hb3
    go_wp2_with fail
    go_ret
    exact ⟨rfl, HB3.out⟩
  · have h0 : 0 ≤ n := by omega
    have h1 : n < 648 := by omega
    clear h
    obtain ⟨fg, bg, b, u, t, hn⟩ : ∃ fg bg b u t, naV n = .agg #[.int .i64 fg, .int .i64 bg, .bool b, .bool u, .bool t] := ⟨_, _, _, _, _, rfl⟩
    have HN := Lib.hid hn
    clear hn
    go_enter Try.func4, Try.ntmps4
    go_wp2_with fail
    refine (spec_NumAttr_yes n _ h0 h1 fg bg b u t HN.out).mono ?_
    rintro e v1 ⟨rfl, hb1⟩
    have s1 : w.heap.size ≤ v1.heap.size := hb1.size
    have HB1 := Lib.hid (hb1.alloc s1 (.cells #[.int .i64 fg, .int .i64 bg, .bool b, .bool u, .bool t] 25))
    clear hb1
    go_wp2_with fail
    refine (impl_NumAttr_yes n _ h0 h1 fg bg b u t HN.out).mono ?_
    rintro e v2 ⟨rfl, hb2⟩
    have s2 : v1.heap.size < v2.heap.size := by have := hb2.size; simp at this; omega
    have HB2 := Lib.hid ((HB1.out.trans (hb2.mono (by simp; omega))).alloc (by omega) (.cells #[.int .i64 fg, .int .i64 bg, .bool b, .bool u, .bool t] 25))
    obtain ⟨hc, hf⟩ := bcell hb2
    clear hb2
    go_wp2_with fail
    refine (eqAttr_yes fg bg b u t _).mono ?_
    rintro e v3 ⟨rfl, hb3⟩
    have HB3 := Lib.hid (HB2.out.trans (hb3.mono (by simp; omega)))
    clear hb3
    go_wp2_with fail
    go_ret
    exact ⟨rfl, HB3.out⟩
end Go.Proofs.Ytmmdggmnjmoebab.fnExactNumAttr
