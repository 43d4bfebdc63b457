/- Opening a slice of loads that came in as an argument: what a frame says of it, as plain data. -/
import Derived.Test.YteiojpglhmikoaaOpenRows
import Derived.Test.YteiojpglhmikoaaLoads
namespace Go.Proofs.Yteiojpglhmikoaa.Opens
open Go.ChangeShapes Go.WideShapes Go.ChangeAt Go.RowKit Go.Joins Go.Deep
open Go.Proofs.Yteiojpglhmikoaa.Bytes Go.Proofs.Yteiojpglhmikoaa.Rows_ Go.Proofs.Yteiojpglhmikoaa.Loads
set_option linter.unusedVariables false
variable {H : Type} {enc : TypeId × Value → H} {W : World} {base : Nat} {held : Bool}
set_option maxRecDepth 100000 in
theorem open_Loads {r : Reach} {b0 : Nat} {v : Value} {d : DataW H} {p : List MemPlace} (hv : Value.okWide Try.prog W r b0 38 v) (h : DataW.Trod enc Try.prog W base (fun _ => true) held 38 v d p) :
    ∃ (A : Option Addr) (n c : Nat) (fs : List LoadD), v = .slice A n c ∧ RdLo W W.heap.size A fs ∧ fs.length = n ∧ n ≤ maxLen ∧ (∀ x ∈ fs, x.n ≤ maxLen ∧ Rd W W.heap.size x.A x.bytes ∧ x.bytes.length = x.n ∧ Rng x.bytes ∧ (x.A = none → x.n = 0 ∧ x.c = 0)) := by
  obtain ⟨a, l, c, rfl⟩ := okWide_slice Try.underlying38 hv
  obtain ⟨fuel, hf⟩ := h
  obtain ⟨A, n, c, fs, e, h1, h2, h3, h4⟩ := rows_of loadR (fun z => z.n ≤ maxLen ∧ Rd W W.heap.size z.A z.bytes ∧ z.bytes.length = z.n ∧ Rng z.bytes ∧ (z.A = none → z.n = 0 ∧ z.c = 0)) Try.underlying38 Try.underlying80 (by kernel_rfl) (by kernel_rfl) (by decide) hf (fun at_ ha => by
    obtain ⟨u0, m0, y0, c0, t0⟩ := ha 0 _ rfl
    obtain ⟨A, n, c, zs, rfl, hr⟩ := open_bytes t0
    have hn : n ≤ maxLen := by
      rcases hr with ⟨_, h, _⟩ | ⟨_, _, h, h', _⟩ <;> omega
    obtain ⟨hrd, hrl, hA, hg⟩ := hr.open_
    refine ⟨⟨A, n, c, zs.take n⟩, ⟨hn, hrd, hrl, hg, hA⟩, fun j u hu => ?_⟩
    rcases j with _ | j <;> simp [loadR] at hu
    subst hu; assumption)
  exact ⟨A, n, c, fs, e, RdLo.of_K h4, h2, h1, h3⟩
end Go.Proofs.Yteiojpglhmikoaa.Opens

