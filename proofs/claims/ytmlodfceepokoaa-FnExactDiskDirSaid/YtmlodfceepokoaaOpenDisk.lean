/- Opening a disk that came in as an argument: what a frame says of it, as plain data. -/
import Derived.Test.YtmlodfceepokoaaOpenRows
import Derived.Test.YtmlodfceepokoaaEqDisk
namespace Go.Proofs.Ytmlodfceepokoaa.Opens
open Go.ChangeShapes Go.WideShapes Go.ChangeAt Go.RowKit Go.Joins Go.Deep
open Go.Proofs.Ytmlodfceepokoaa.Bytes Go.Proofs.Ytmlodfceepokoaa.Rows_ Go.Proofs.Ytmlodfceepokoaa.DOk
set_option linter.unusedVariables false
variable {H : Type} {enc : TypeId × Value → H} {W : World} {base : Nat} {held : Bool}
/-- a disk that came in -/
def DiskIn (W : World) (F : Option Addr) (nf : Nat) (K : Option Addr) (nk : Nat) (T : Option Addr) (nt : Nat) (fs : List FileD) (ks : List LinkD) (ts : List TurnD) : Prop :=
  (RdF W W.heap.size F fs ∧ fs.length = nf ∧ nf ≤ 9223372036854775807 ∧ RdB W W.heap.size fs ∧ ∀ x ∈ fs, x.n ≤ 9223372036854775807 ∧ (Lit.int .i64 x.id).wf = true) ∧
  (RdL W W.heap.size K ks ∧ ks.length = nk ∧ nk ≤ 9223372036854775807 ∧ ∀ x ∈ ks, x.1.size ≤ maxLen ∧ (Lit.int .i64 x.2).wf = true) ∧
  (RdT W W.heap.size T ts ∧ ts.length = nt ∧ nt ≤ 9223372036854775807 ∧ ∀ x ∈ ts, x.name.size ≤ maxLen ∧ x.to_.size ≤ maxLen ∧ (Lit.int .i64 x.id).wf = true)
theorem max63 : maxLen ≤ 9223372036854775807 := by unfold maxLen; omega

set_option maxRecDepth 100000 in
theorem open_files {fuel : Nat} {v : Value} {x : DataW H × List MemPlace} (h : DataW.trod enc Try.prog W base (fun _ => true) held fuel 64 [v] = some x) :
    ∃ (A : Option Addr) (n c : Nat) (l : List FileD), v = .slice A n c ∧ n ≤ maxLen ∧ l.length = n ∧ (∀ z ∈ l, z.n ≤ maxLen ∧ (Lit.int .i64 z.id).wf = true ∧ Rd W W.heap.size z.A z.bytes ∧ z.bytes.length = z.n) ∧ RdF W W.heap.size A l := by
  refine rows_of fileR _ Try.underlying64 Try.underlying155 (by kernel_rfl) (by kernel_rfl) (by decide) h (fun at_ ha => ?_)
  obtain ⟨u0, m0, y0, c0, t0⟩ := ha 0 _ rfl
  obtain ⟨u1, m1, y1, c1, t1⟩ := ha 1 _ rfl
  obtain ⟨u2, m2, y2, c2, t2⟩ := ha 2 _ rfl
  obtain ⟨i0, e0, _, g0⟩ := DataW.trod_int Try.underlying3 t0
  obtain ⟨i2, e2, _, g2⟩ := DataW.trod_int Try.underlying3 t2
  obtain ⟨A, n, c, zs, rfl, hr⟩ := open_bytes t1
  simp at e0 e2
  subst e0 e2
  have hn : n ≤ maxLen := by
    rcases hr with ⟨_, h, _⟩ | ⟨_, _, h, h', _⟩ <;> omega
  obtain ⟨hrd, hrl, _, _⟩ := hr.open_
  refine ⟨⟨i0, A, n, c, i2, zs.take n⟩, ⟨hn, g0, hrd, hrl⟩, fun j u hu => ?_⟩
  rcases j with _ | _ | _ | j <;> simp [fileR] at hu <;> subst hu <;> assumption

set_option maxRecDepth 100000 in
theorem open_links {fuel : Nat} {v : Value} {x : DataW H × List MemPlace} (h : DataW.trod enc Try.prog W base (fun _ => true) held fuel 65 [v] = some x) :
    ∃ (A : Option Addr) (n c : Nat) (l : List LinkD), v = .slice A n c ∧ n ≤ maxLen ∧ l.length = n ∧ (∀ z ∈ l, z.1.size ≤ maxLen ∧ (Lit.int .i64 z.2).wf = true) ∧ RdL W W.heap.size A l := by
  refine rows_of linkR _ Try.underlying65 Try.underlying157 (by kernel_rfl) (by kernel_rfl) (by decide) h (fun at_ ha => ?_)
  obtain ⟨u0, m0, y0, c0, t0⟩ := ha 0 _ rfl
  obtain ⟨u1, m1, y1, c1, t1⟩ := ha 1 _ rfl
  obtain ⟨s0, e0, _, g0⟩ := DataW.trod_string Try.underlying9 t0
  obtain ⟨i1, e1, _, g1⟩ := DataW.trod_int Try.underlying3 t1
  simp at e0 e1
  subst e0 e1
  refine ⟨(s0, i1), ⟨g0, g1⟩, fun j u hu => ?_⟩
  rcases j with _ | _ | j <;> simp [linkR] at hu <;> subst hu <;> assumption

set_option maxRecDepth 100000 in
theorem open_turns {fuel : Nat} {v : Value} {x : DataW H × List MemPlace} (h : DataW.trod enc Try.prog W base (fun _ => true) held fuel 66 [v] = some x) :
    ∃ (A : Option Addr) (n c : Nat) (l : List TurnD), v = .slice A n c ∧ n ≤ maxLen ∧ l.length = n ∧ (∀ z ∈ l, z.name.size ≤ maxLen ∧ z.to_.size ≤ maxLen ∧ (Lit.int .i64 z.id).wf = true) ∧ RdT W W.heap.size A l := by
  refine rows_of turnR _ Try.underlying66 Try.underlying159 (by kernel_rfl) (by kernel_rfl) (by decide) h (fun at_ ha => ?_)
  obtain ⟨u0, m0, y0, c0, t0⟩ := ha 0 _ rfl
  obtain ⟨u1, m1, y1, c1, t1⟩ := ha 1 _ rfl
  obtain ⟨u2, m2, y2, c2, t2⟩ := ha 2 _ rfl
  obtain ⟨u3, m3, y3, c3, t3⟩ := ha 3 _ rfl
  obtain ⟨i0, e0, _, g0⟩ := DataW.trod_int Try.underlying3 t0
  obtain ⟨s1, e1, _, g1⟩ := DataW.trod_string Try.underlying9 t1
  obtain ⟨s2, e2, _, g2⟩ := DataW.trod_string Try.underlying9 t2
  obtain ⟨i3, e3, _, g3⟩ := DataW.trod_int Try.underlying3 t3
  simp at e0 e1 e2 e3
  subst e0 e1 e2 e3
  refine ⟨⟨i0, s1, s2, i3⟩, ⟨g1, g2, g3⟩, fun j u hu => ?_⟩
  rcases j with _ | _ | _ | _ | j <;> simp [turnR] at hu <;> subst hu <;> assumption

set_option maxRecDepth 100000 in
theorem open_Disk {r : Reach} {b0 : Nat} {v : Value} {d : DataW H} {p : List MemPlace} (hv : Value.okWide Try.prog W r b0 68 v) (h : DataW.Trod enc Try.prog W base (fun _ => true) held 68 v d p) :
    ∃ (room fuse next : Int) (F : Option Addr) (nf cf : Nat) (K : Option Addr) (nk ck : Nat) (T : Option Addr) (nt ct : Nat) (fs : List FileD) (ks : List LinkD) (ts : List TurnD), v = .agg #[.int .i64 room, .int .i64 fuse, .int .i64 next, .slice F nf cf, .slice K nk ck, .slice T nt ct] ∧ DiskIn W F nf K nk T nt fs ks ts := by
  obtain ⟨cs, n, rfl, hsz, ha⟩ := fields_of Try.underlying68 (by kernel_rfl) (by kernel_rfl) hv h
  obtain ⟨u0, y0, c0, t0⟩ := ha 0 _ rfl
  obtain ⟨u1, y1, c1, t1⟩ := ha 1 _ rfl
  obtain ⟨u2, y2, c2, t2⟩ := ha 2 _ rfl
  obtain ⟨u3, y3, c3, t3⟩ := ha 3 _ rfl
  obtain ⟨u4, y4, c4, t4⟩ := ha 4 _ rfl
  obtain ⟨u5, y5, c5, t5⟩ := ha 5 _ rfl
  obtain ⟨i0, e0, _, _⟩ := DataW.trod_int Try.underlying3 t0
  obtain ⟨i1, e1, _, _⟩ := DataW.trod_int Try.underlying3 t1
  obtain ⟨i2, e2, _, _⟩ := DataW.trod_int Try.underlying3 t2
  obtain ⟨F, nf, cf, fs, rfl, f1, f2, f3, f4⟩ := open_files t3
  obtain ⟨K, nk, ck, ks, rfl, k1, k2, k3, k4⟩ := open_links t4
  obtain ⟨T, nt, ct, ts, rfl, r1, r2, r3, r4⟩ := open_turns t5
  simp at e0 e1 e2
  subst e0 e1 e2
  have e : cs = #[.int .i64 i0, .int .i64 i1, .int .i64 i2, .slice F nf cf, .slice K nk ck, .slice T nt ct] := by
    apply Array.ext_getElem?
    intro j
    rcases j with _ | _ | _ | _ | _ | _ | j
    · exact c0
    · exact c1
    · exact c2
    · exact c3
    · exact c4
    · exact c5
    · rw [Array.getElem?_eq_none (by have : cs.size = 6 := hsz; omega)]; simp
  subst e
  exact ⟨i0, i1, i2, F, nf, cf, K, nk, ck, T, nt, ct, fs, ks, ts, rfl, ⟨f4, f2, Nat.le_trans f1 max63, fun x hx => (f3 x hx).2.2, fun x hx => ⟨Nat.le_trans (f3 x hx).1 max63, (f3 x hx).2.1⟩⟩, ⟨k4, k2, Nat.le_trans k1 max63, k3⟩, ⟨r4, r2, Nat.le_trans r1 max63, r3⟩⟩
end Go.Proofs.Ytmlodfceepokoaa.Opens
