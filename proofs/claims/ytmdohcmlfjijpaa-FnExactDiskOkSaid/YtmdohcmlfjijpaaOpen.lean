/- Opening the arguments that are structs: what a frame says of them. -/
import Derived.Test.YtmdohcmlfjijpaaBase
import Derived.WalkKit
import Derived.ProofKit
import Derived.OpenShut
import Derived.ShutString
import Derived.ChangeOld
import Derived.Below
import Derived.Lib.SmallJoins
namespace Go.Proofs.Ytmdohcmlfjijpaa.Opens
open Go.ChangeShapes Go.WideShapes Go.ChangeAt Go.RowKit Go.Joins Go.Deep
open Go.Proofs.Ytmdohcmlfjijpaa.Bytes
set_option linter.unusedVariables false
variable {H : Type} {enc : TypeId × Value → H} {W : World} {base : Nat} {spare : Nat → Bool} {held : Bool}

theorem open_bytes {fuel : Nat} {v : Value} {x : DataW H × List MemPlace} (hw : DataW.trod enc Try.prog W base (fun _ => true) held fuel 22 [v] = some x) :
    ∃ A n c zs, v = .slice A n c ∧ IsRow .u8 W A n c zs := by
  rcases open_ints Try.underlying22 Try.underlying5 (by kernel_rfl) hw with ⟨hcs, _⟩ | ⟨a, l, c, zs, hcs, _, hl, hm, hz, _, hcell, hwz⟩
  · simp at hcs
    exact ⟨none, 0, 0, [], hcs, .inl ⟨rfl, rfl, rfl, rfl⟩⟩
  · simp at hcs
    exact ⟨some a, l, c, zs, hcs, .inr ⟨_, rfl, hl, hm, by simpa using hz, hcell, hwz⟩⟩

set_option maxRecDepth 100000 in
theorem open_DiskOp {r : Reach} {b0 : Nat} {v : Value} {d : DataW H} {p : List MemPlace} (hv : Value.okWide Try.prog W r b0 60 v) (h : DataW.Trod enc Try.prog W base (fun _ => true) held 60 v d p) :
    ∃ k name to_ A n c zs, v = .agg #[.int .i64 k, .string name, .string to_, .slice A n c] ∧ name.size ≤ maxLen ∧ to_.size ≤ maxLen ∧ IsRow .u8 W A n c zs := by
  obtain ⟨v0, v1, v2, v3, y0, y1, y2, y3, m, rfl, _, _, t0, t1, t2, t3⟩ := open_agg4 Try.underlying60 (by kernel_rfl) (by kernel_rfl) hv h
  obtain ⟨k, e0, _, _⟩ := DataW.trod_int Try.underlying3 t0
  obtain ⟨s1, e1, _, h1⟩ := DataW.trod_string Try.underlying9 t1
  obtain ⟨s2, e2, _, h2⟩ := DataW.trod_string Try.underlying9 t2
  obtain ⟨A, n, c, zs, rfl, hr⟩ := open_bytes t3
  simp at e0 e1 e2
  subst e0 e1 e2
  exact ⟨_, _, _, _, _, _, _, rfl, h1, h2, hr⟩
end Go.Proofs.Ytmdohcmlfjijpaa.Opens
