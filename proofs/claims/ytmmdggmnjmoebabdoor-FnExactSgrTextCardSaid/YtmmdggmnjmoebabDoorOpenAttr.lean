/- Opening an attribute that came in as an argument. -/
import Derived.Test.YtmmdggmnjmoebabDoorOpenFld
namespace Go.Proofs.YtmmdggmnjmoebabDoor.Opens
open Go.ChangeShapes Go.WideShapes Go.ChangeAt Go.RowKit Go.Joins Go.Deep
set_option linter.unusedVariables false
variable {H : Type} {enc : TypeId × Value → H} {W : World} {base : Nat} {held : Bool}
theorem bool_of {n : Nat} {c : Value} {y : DataW H × List MemPlace} (h : DataW.trod enc Tryd.prog W base (fun _ => true) held n 4 [c] = some y) : ∃ b, c = .bool b := by
  cases n with
  | zero => simp [DataW.trod] at h
  | succ n =>
    unfold DataW.trod at h
    rw [Tryd.underlying4] at h
    cases c <;> simp at h
    exact ⟨_, rfl⟩
set_option maxRecDepth 100000 in
theorem open_Attr {r : Reach} {b0 : Nat} {v : Value} {d : DataW H} {p : List MemPlace} (hv : Value.okWide Tryd.prog W r b0 23 v) (h : DataW.Trod enc Tryd.prog W base (fun _ => true) held 23 v d p) :
    ∃ (fg bg : Int) (b u t : Bool), v = .agg #[.int .i64 fg, .int .i64 bg, .bool b, .bool u, .bool t] ∧ (Lit.int .i64 fg).wf = true ∧ (Lit.int .i64 bg).wf = true := by
  obtain ⟨cs, n, rfl, hsz, ha⟩ := fields_of Tryd.underlying23 (by kernel_rfl) (by kernel_rfl) hv h
  obtain ⟨c0, y0, q0, t0⟩ := ha 0 _ rfl
  obtain ⟨c1, y1, q1, t1⟩ := ha 1 _ rfl
  obtain ⟨c2, y2, q2, t2⟩ := ha 2 _ rfl
  obtain ⟨c3, y3, q3, t3⟩ := ha 3 _ rfl
  obtain ⟨c4, y4, q4, t4⟩ := ha 4 _ rfl
  obtain ⟨i0, e0, _, g0⟩ := DataW.trod_int Tryd.underlying3 t0
  obtain ⟨i1, e1, _, g1⟩ := DataW.trod_int Tryd.underlying3 t1
  obtain ⟨b, rfl⟩ := bool_of t2
  obtain ⟨u, rfl⟩ := bool_of t3
  obtain ⟨t, rfl⟩ := bool_of t4
  simp at e0 e1
  subst e0 e1
  refine ⟨i0, i1, b, u, t, ?_, g0, g1⟩
  have hs5 : cs.size = 5 := hsz
  congr 1
  refine Array.ext (by simp [hs5]) fun j h1 h2 => ?_
  have hj : j < 5 := by omega
  rcases j with _ | _ | _ | _ | _ | j
  all_goals first
    | omega
    | (first | (rw [Array.getElem?_eq_getElem h1] at q0; exact Option.some.inj q0) | (rw [Array.getElem?_eq_getElem h1] at q1; exact Option.some.inj q1) | (rw [Array.getElem?_eq_getElem h1] at q2; exact Option.some.inj q2) | (rw [Array.getElem?_eq_getElem h1] at q3; exact Option.some.inj q3) | (rw [Array.getElem?_eq_getElem h1] at q4; exact Option.some.inj q4))
end Go.Proofs.YtmmdggmnjmoebabDoor.Opens
