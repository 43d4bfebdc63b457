/- The joined flags, and the comparison of two rows of flags, in the program. -/
import Derived.Test.YteiojpglhmikoaaOqI
namespace Go.Proofs.Yteiojpglhmikoaa.Oq
open Go.RowKit Go.Proofs.Yteiojpglhmikoaa.Bytes Go.Proofs.Yteiojpglhmikoaa.OpOk Go.Proofs.Yteiojpglhmikoaa.Opq Go.Proofs.Yteiojpglhmikoaa.Made
set_option linter.unusedVariables false
set_option linter.unusedSimpArgs false

/-- after k rounds: the first k flags are joined -/
def mixA (k : Nat) (us fs : List Bool) : Array Value := ((List.range 7).map fun j => Value.bool (if j < k then us.getD j false || fs.getD j false else us.getD j false)).toArray
def WithR (w : World) (b2 : Nat) (p0 p1 p2 p3 p4 p5 p6 g0 g1 g2 g3 g4 g5 g6 : Bool) (k : Nat) (wr : World) : Prop :=
  RowB wr w.heap.size (mixA k [p0, p1, p2, p3, p4, p5, p6] [g0, g1, g2, g3, g4, g5, g6]) ∧ RowB wr (w.heap.size + 1 + 1) #[.bool false, .bool false, .bool false, .bool false, .bool false, .bool false, .bool false] ∧ Below w.heap.size w wr ∧ w.heap.size + 1 + 1 < wr.heap.size
set_option maxRecDepth 100000 in
set_option maxHeartbeats 3200000 in
theorem with_any (p0 p1 p2 p3 p4 p5 p6 g0 g1 g2 g3 g4 g5 g6 : Bool) (w : World) :
    Calls Try.prog 70 #[.agg #[.bool p0, .bool p1, .bool p2, .bool p3, .bool p4, .bool p5, .bool p6], .agg #[.bool g0, .bool g1, .bool g2, .bool g3, .bool g4, .bool g5, .bool g6]] w fun e w' => e = .returned (.agg #[.bool (p0 || g0), .bool (p1 || g1), .bool (p2 || g2), .bool (p3 || g3), .bool (p4 || g4), .bool (p5 || g5), .bool (p6 || g6)]) ∧ Below w.heap.size w w' := by
  have i0 : ∀ W, (Instr.index 102 (.agg #[.bool g0, .bool g1, .bool g2, .bool g3, .bool g4, .bool g5, .bool g6]) (.int .i64 0)).run Try.prog W = .ok (.bool g0) W := fun _ => by kernel_rfl
  have i1 : ∀ W, (Instr.index 102 (.agg #[.bool g0, .bool g1, .bool g2, .bool g3, .bool g4, .bool g5, .bool g6]) (.int .i64 1)).run Try.prog W = .ok (.bool g1) W := fun _ => by kernel_rfl
  have i2 : ∀ W, (Instr.index 102 (.agg #[.bool g0, .bool g1, .bool g2, .bool g3, .bool g4, .bool g5, .bool g6]) (.int .i64 2)).run Try.prog W = .ok (.bool g2) W := fun _ => by kernel_rfl
  have i3 : ∀ W, (Instr.index 102 (.agg #[.bool g0, .bool g1, .bool g2, .bool g3, .bool g4, .bool g5, .bool g6]) (.int .i64 3)).run Try.prog W = .ok (.bool g3) W := fun _ => by kernel_rfl
  have i4 : ∀ W, (Instr.index 102 (.agg #[.bool g0, .bool g1, .bool g2, .bool g3, .bool g4, .bool g5, .bool g6]) (.int .i64 4)).run Try.prog W = .ok (.bool g4) W := fun _ => by kernel_rfl
  have i5 : ∀ W, (Instr.index 102 (.agg #[.bool g0, .bool g1, .bool g2, .bool g3, .bool g4, .bool g5, .bool g6]) (.int .i64 5)).run Try.prog W = .ok (.bool g5) W := fun _ => by kernel_rfl
  have i6 : ∀ W, (Instr.index 102 (.agg #[.bool g0, .bool g1, .bool g2, .bool g3, .bool g4, .bool g5, .bool g6]) (.int .i64 6)).run Try.prog W = .ok (.bool g6) W := fun _ => by kernel_rfl
  have H0 := Lib.hid (show ∀ W, W = ((w.alloc (.cells #[.bool p0, .bool p1, .bool p2, .bool p3, .bool p4, .bool p5, .bool p6] 102)).alloc (.cells #[.bool g0, .bool g1, .bool g2, .bool g3, .bool g4, .bool g5, .bool g6] 102)).alloc (.cells #[.bool false, .bool false, .bool false, .bool false, .bool false, .bool false, .bool false] 102) → WithR w 0 p0 p1 p2 p3 p4 p5 p6 g0 g1 g2 g3 g4 g5 g6 0 W from by
    rintro W rfl
    refine ⟨((RowB.new w _ _).alloc _).alloc _, ?_, (((Below.refl _ _).alloc (Nat.le_refl _) _).alloc (by simp) _).alloc (by simp; omega) _, by simp⟩
    have h := RowB.new ((w.alloc (.cells #[.bool p0, .bool p1, .bool p2, .bool p3, .bool p4, .bool p5, .bool p6] 102)).alloc (.cells #[.bool g0, .bool g1, .bool g2, .bool g3, .bool g4, .bool g5, .bool g6] 102)) #[.bool false, .bool false, .bool false, .bool false, .bool false, .bool false, .bool false] 102
    rw [World.size_alloc, World.size_alloc] at h; exact h)
  go_enter Try.func70, Try.ntmps70
  go_wp2_with fail
  go_loopw [8] (fun i wr => ∃ k : Nat, k ≤ 7 ∧ i = .int .i64 k ∧ WithR w 0 p0 p1 p2 p3 p4 p5 p6 g0 g1 g2 g3 g4 g5 g6 k wr) (fun i _ => 7 - (intOf i).toNat)
  case atStart => exact ⟨0, by omega, rfl, H0.out _ rfl⟩
  case round =>
    obtain ⟨k, hk, rfl, hR⟩ := hrel
    have HR := Lib.hid hR
    clear hR H0
    have lt0 : w.heap.size < wr.heap.size := HR.out.1.lt
    have lt2 : w.heap.size + 1 + 1 < wr.heap.size := HR.out.2.2.2
    rcases (show k = 0 ∨ k = 1 ∨ k = 2 ∨ k = 3 ∨ k = 4 ∨ k = 5 ∨ k = 6 ∨ k = 7 by omega) with rfl | rfl | rfl | rfl | rfl | rfl | rfl | rfl
    · have c0 : wr.cell? ⟨w.heap.size, 0, none⟩ = some (.bool p0) := HR.out.1.cell 0
      have z0 : wr.frozen? ⟨w.heap.size, 0, none⟩ = false := HR.out.1.free 0
      cases p0
      all_goals
        go_wp2_with fail
        refine ⟨⟨0 + 1, by omega, by go_num, HR.out.1.set, HR.out.2.1.other (by omega), HR.out.2.2.1.setCell (by simp) _, by simp; omega⟩, by simp [intOf]⟩
    · have c0 : wr.cell? ⟨w.heap.size, 1, none⟩ = some (.bool p1) := HR.out.1.cell 1
      have z0 : wr.frozen? ⟨w.heap.size, 1, none⟩ = false := HR.out.1.free 1
      cases p1
      all_goals
        go_wp2_with fail
        refine ⟨⟨1 + 1, by omega, by go_num, HR.out.1.set, HR.out.2.1.other (by omega), HR.out.2.2.1.setCell (by simp) _, by simp; omega⟩, by simp [intOf]⟩
    · have c0 : wr.cell? ⟨w.heap.size, 2, none⟩ = some (.bool p2) := HR.out.1.cell 2
      have z0 : wr.frozen? ⟨w.heap.size, 2, none⟩ = false := HR.out.1.free 2
      cases p2
      all_goals
        go_wp2_with fail
        refine ⟨⟨2 + 1, by omega, by go_num, HR.out.1.set, HR.out.2.1.other (by omega), HR.out.2.2.1.setCell (by simp) _, by simp; omega⟩, by simp [intOf]⟩
    · have c0 : wr.cell? ⟨w.heap.size, 3, none⟩ = some (.bool p3) := HR.out.1.cell 3
      have z0 : wr.frozen? ⟨w.heap.size, 3, none⟩ = false := HR.out.1.free 3
      cases p3
      all_goals
        go_wp2_with fail
        refine ⟨⟨3 + 1, by omega, by go_num, HR.out.1.set, HR.out.2.1.other (by omega), HR.out.2.2.1.setCell (by simp) _, by simp; omega⟩, by simp [intOf]⟩
    · have c0 : wr.cell? ⟨w.heap.size, 4, none⟩ = some (.bool p4) := HR.out.1.cell 4
      have z0 : wr.frozen? ⟨w.heap.size, 4, none⟩ = false := HR.out.1.free 4
      cases p4
      all_goals
        go_wp2_with fail
        refine ⟨⟨4 + 1, by omega, by go_num, HR.out.1.set, HR.out.2.1.other (by omega), HR.out.2.2.1.setCell (by simp) _, by simp; omega⟩, by simp [intOf]⟩
    · have c0 : wr.cell? ⟨w.heap.size, 5, none⟩ = some (.bool p5) := HR.out.1.cell 5
      have z0 : wr.frozen? ⟨w.heap.size, 5, none⟩ = false := HR.out.1.free 5
      cases p5
      all_goals
        go_wp2_with fail
        refine ⟨⟨5 + 1, by omega, by go_num, HR.out.1.set, HR.out.2.1.other (by omega), HR.out.2.2.1.setCell (by simp) _, by simp; omega⟩, by simp [intOf]⟩
    · have c0 : wr.cell? ⟨w.heap.size, 6, none⟩ = some (.bool p6) := HR.out.1.cell 6
      have z0 : wr.frozen? ⟨w.heap.size, 6, none⟩ = false := HR.out.1.free 6
      cases p6
      all_goals
        go_wp2_with fail
        refine ⟨⟨6 + 1, by omega, by go_num, HR.out.1.set, HR.out.2.1.other (by omega), HR.out.2.2.1.setCell (by simp) _, by simp; omega⟩, by simp [intOf]⟩
    · have R0 : RowB wr w.heap.size #[.bool (p0 || g0), .bool (p1 || g1), .bool (p2 || g2), .bool (p3 || g3), .bool (p4 || g4), .bool (p5 || g5), .bool (p6 || g6)] := HR.out.1
      have c0 : wr.cell? ⟨w.heap.size, 0, none⟩ = some (.bool (p0 || g0)) := R0.cell 0
      have c1 : wr.cell? ⟨w.heap.size, 1, none⟩ = some (.bool (p1 || g1)) := R0.cell 1
      have c2 : wr.cell? ⟨w.heap.size, 2, none⟩ = some (.bool (p2 || g2)) := R0.cell 2
      have c3 : wr.cell? ⟨w.heap.size, 3, none⟩ = some (.bool (p3 || g3)) := R0.cell 3
      have c4 : wr.cell? ⟨w.heap.size, 4, none⟩ = some (.bool (p4 || g4)) := R0.cell 4
      have c5 : wr.cell? ⟨w.heap.size, 5, none⟩ = some (.bool (p5 || g5)) := R0.cell 5
      have c6 : wr.cell? ⟨w.heap.size, 6, none⟩ = some (.bool (p6 || g6)) := R0.cell 6
      have d0 : wr.cell? ⟨w.heap.size + 1 + 1, 0, none⟩ = some (.bool false) := HR.out.2.1.cell 0
      have z0 : wr.frozen? ⟨w.heap.size + 1 + 1, 0, none⟩ = false := HR.out.2.1.free 0
      have d1 : wr.cell? ⟨w.heap.size + 1 + 1, 1, none⟩ = some (.bool false) := HR.out.2.1.cell 1
      have z1 : wr.frozen? ⟨w.heap.size + 1 + 1, 1, none⟩ = false := HR.out.2.1.free 1
      have d2 : wr.cell? ⟨w.heap.size + 1 + 1, 2, none⟩ = some (.bool false) := HR.out.2.1.cell 2
      have z2 : wr.frozen? ⟨w.heap.size + 1 + 1, 2, none⟩ = false := HR.out.2.1.free 2
      have d3 : wr.cell? ⟨w.heap.size + 1 + 1, 3, none⟩ = some (.bool false) := HR.out.2.1.cell 3
      have z3 : wr.frozen? ⟨w.heap.size + 1 + 1, 3, none⟩ = false := HR.out.2.1.free 3
      have d4 : wr.cell? ⟨w.heap.size + 1 + 1, 4, none⟩ = some (.bool false) := HR.out.2.1.cell 4
      have z4 : wr.frozen? ⟨w.heap.size + 1 + 1, 4, none⟩ = false := HR.out.2.1.free 4
      have d5 : wr.cell? ⟨w.heap.size + 1 + 1, 5, none⟩ = some (.bool false) := HR.out.2.1.cell 5
      have z5 : wr.frozen? ⟨w.heap.size + 1 + 1, 5, none⟩ = false := HR.out.2.1.free 5
      have d6 : wr.cell? ⟨w.heap.size + 1 + 1, 6, none⟩ = some (.bool false) := HR.out.2.1.cell 6
      have z6 : wr.frozen? ⟨w.heap.size + 1 + 1, 6, none⟩ = false := HR.out.2.1.free 6
      clear R0
      go_wp2_with fail
      refine bodyPost_ret (v := .agg #[.bool (p0 || g0), .bool (p1 || g1), .bool (p2 || g2), .bool (p3 || g3), .bool (p4 || g4), .bool (p5 || g5), .bool (p6 || g6)]) (by simp [results, Try.results70, go_sem, c0, c1, c2, c3, c4, c5, c6, d0, d1, d2, d3, d4, d5, d6, z0, z1, z2, z3, z4, z5, z6]) rfl ⟨rfl, ?_⟩
      exact ((((((HR.out.2.2.1.setCell (by simp; omega) _).setCell (by simp; omega) _).setCell (by simp; omega) _).setCell (by simp; omega) _).setCell (by simp; omega) _).setCell (by simp; omega) _).setCell (by simp; omega) _

theorem eqA (x0 x1 x2 x3 x4 x5 x6 p0 p1 p2 p3 p4 p5 p6 : Bool) (w : World) : (binOp .eql 102 (.agg #[.bool x0, .bool x1, .bool x2, .bool x3, .bool x4, .bool x5, .bool x6]) (.agg #[.bool p0, .bool p1, .bool p2, .bool p3, .bool p4, .bool p5, .bool p6])).run Try.prog w = .ok (.bool (x0 == p0 && (x1 == p1 && (x2 == p2 && (x3 == p3 && (x4 == p4 && (x5 == p5 && (x6 == p6)))))))) w := by
  by_cases h0 : x0 = p0
  rotate_left
  · cases x0 <;> cases p0 <;> first | exact absurd rfl h0 | (clear h0; kernel_rfl)
  subst h0
  cases x0
  all_goals
    by_cases h1 : x1 = p1
    rotate_left
    · cases x1 <;> cases p1 <;> first | exact absurd rfl h1 | (clear h1; kernel_rfl)
    subst h1
    cases x1
    all_goals
      by_cases h2 : x2 = p2
      rotate_left
      · cases x2 <;> cases p2 <;> first | exact absurd rfl h2 | (clear h2; kernel_rfl)
      subst h2
      cases x2
      all_goals
        by_cases h3 : x3 = p3
        rotate_left
        · cases x3 <;> cases p3 <;> first | exact absurd rfl h3 | (clear h3; kernel_rfl)
        subst h3
        cases x3
        all_goals
          by_cases h4 : x4 = p4
          rotate_left
          · cases x4 <;> cases p4 <;> first | exact absurd rfl h4 | (clear h4; kernel_rfl)
          subst h4
          cases x4
          all_goals
            by_cases h5 : x5 = p5
            rotate_left
            · cases x5 <;> cases p5 <;> first | exact absurd rfl h5 | (clear h5; kernel_rfl)
            subst h5
            cases x5
            all_goals
              by_cases h6 : x6 = p6
              rotate_left
              · cases x6 <;> cases p6 <;> first | exact absurd rfl h6 | (clear h6; kernel_rfl)
              subst h6
              cases x6
              all_goals
                kernel_rfl
end Go.Proofs.Yteiojpglhmikoaa.Oq

