/- Parts that several texts use, moved out of GrFill. -/
import Derived.Test.YtgdjbpgfplcjpaaGrOver
namespace Go.Proofs.Ytgdjbpgfplcjpaa.Gr
open Go.RowKit Go.Proofs.Ytgdjbpgfplcjpaa.Bytes Go.Proofs.Ytgdjbpgfplcjpaa.Rows_ Go.Proofs.Ytgdjbpgfplcjpaa.RowK
set_option linter.unusedVariables false
theorem only6c {S : Nat → Prop} (w : World) (g : Nat) (h : S g) (i0 i1 i2 i3 i4 i5 : Nat) (x0 x1 x2 x3 x4 x5 : Value) :
    Only S w ((((((w.setCell ⟨g, i0, none⟩ x0).setCell ⟨g, i1, none⟩ x1).setCell ⟨g, i2, none⟩ x2).setCell ⟨g, i3, none⟩ x3).setCell ⟨g, i4, none⟩ x4).setCell ⟨g, i5, none⟩ x5) :=
  (((((Only.cell_ _ g _ _ h).trans (Only.cell_ _ g _ _ h)).trans (Only.cell_ _ g _ _ h)).trans (Only.cell_ _ g _ _ h)).trans (Only.cell_ _ g _ _ h)).trans (Only.cell_ _ g _ _ h)
theorem only6b (w : World) (g : Nat) (i0 i1 i2 i3 i4 i5 : Nat) (x0 x1 x2 x3 x4 x5 : Value) :
    Only (fun i => i = g) w ((((((w.setCell ⟨g, i0, none⟩ x0).setCell ⟨g, i1, none⟩ x1).setCell ⟨g, i2, none⟩ x2).setCell ⟨g, i3, none⟩ x3).setCell ⟨g, i4, none⟩ x4).setCell ⟨g, i5, none⟩ x5) := only6c (S := fun i => i = g) w g rfl _ _ _ _ _ _ _ _ _ _ _ _
theorem clampV_bdF (x lo hi : Int) (h : lo ≤ hi) : lo ≤ clampV x lo hi ∧ clampV x lo hi ≤ hi := by unfold clampV; split <;> (try split) <;> omega
set_option maxRecDepth 100000 in
theorem within_any (a s t : Int) (w : World) (ha : -100000 ≤ a ∧ a ≤ 100000) (hs : -100000 ≤ s ∧ s ≤ 100000) (ht : 0 ≤ t) :
    Calls Try.prog 36 #[.int .i64 a, .int .i64 s, .int .i64 t] w fun e w' => e = .returned (.tuple #[.int .i64 (clampV a 0 t), .int .i64 (clampV (a + s) (clampV a 0 t) t)]) ∧ w = w' := by
  obtain ⟨p1, p2⟩ := ha
  obtain ⟨p3, p4⟩ := hs
  have HB := Lib.hid (clampV_bdF a 0 t ht)
  have HC1 := Lib.hid (fun V => clamp_anyG a 0 t ht V)
  have HC2 := Lib.hid (fun V => clamp_anyG (a + s) (clampV a 0 t) t HB.out.2 V)
  generalize clampV a 0 t = fr at *
  generalize clampV (a + s) fr t = to_ at *
  go_enter Try.func36, Try.ntmps36
  go_wp2_with fail
  (with_reducible refine (HC1.out _).mono ?_)
  rintro e v ⟨rfl, rfl⟩
  go_wp2_with fail
  (with_reducible refine (HC2.out _).mono ?_)
  rintro e v ⟨rfl, rfl⟩
  go_wp2_with fail
  go_ret2
  exact ⟨rfl, rfl⟩

end Go.Proofs.Ytgdjbpgfplcjpaa.Gr
