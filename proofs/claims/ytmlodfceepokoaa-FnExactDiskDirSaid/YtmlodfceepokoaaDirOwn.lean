/- The contracts of the listing of a directory, over a disk of the call's own. -/
import Derived.Test.YtmlodfceepokoaaDiskLawE
import Derived.Test.YtmlodfceepokoaaDirImpl
namespace Go.Proofs.Ytmlodfceepokoaa.DOk
open Go.RowKit Go.Proofs.Ytmlodfceepokoaa.Bytes Go.Proofs.Ytmlodfceepokoaa.Rows_
set_option linter.unusedVariables false
def DirD (P : Prop) (l0 l : List LinkD) : Prop := (P ∧ l = l0) ∨ (¬ P ∧ l = [])
theorem DirD.same {P Q : Prop} {l0 l l' : List LinkD} (hPQ : P ↔ Q) (h : DirD P l0 l) (h' : DirD Q l0 l') : l' = l := by
  rcases h with ⟨p, rfl⟩ | ⟨p, rfl⟩ <;> rcases h' with ⟨q, rfl⟩ | ⟨q, rfl⟩
  · rfl
  · exact absurd (hPQ.1 p) q
  · exact absurd (hPQ.2 q) p
  · rfl
/-- what the listing answers over a disk of the call's own -/
def AnsL (P : Prop) (l0 : List LinkD) (w : World) (e : Ending) (w' : World) : Prop :=
  ∃ l A n c, e = .returned (.slice A n c) ∧ n ≤ 1048576 ∧ DirD P l0 l ∧ OwnL w' w.heap.size A n c l ∧ Below w.heap.size w w'
theorem OwnD.below {w w' : World} {base B : Nat} {F : Option Addr} {nf cf : Nat} {gs : List FileD} {K : Option Addr} {nk ck : Nat} {ks : List LinkD} {T : Option Addr} {nt ct : Nat} {ts : List TurnD} (h : OwnD w base F nf cf gs K nk ck ks T nt ct ts) (hB : w.heap.size ≤ B) (hb : Below B w w') : OwnD w' base F nf cf gs K nk ck ks T nt ct ts :=
  ⟨own_belowK h.f hB hb, h.b.below hB hb, own_belowK h.l hB hb, own_belowK h.t hB hb⟩
theorem dirAt_len (ts : List TurnD) : ∀ ks : List LinkD, (dirAt ks ts).length ≤ ks.length + ts.length := by
  induction ts with
  | nil => intro ks; exact Nat.le_refl _
  | cons t ts ih =>
    intro ks
    have h1 := ih (turnD ks t)
    have h2 := turnD_le ks t
    show (dirAt (turnD ks t) ts).length ≤ _
    rw [List.length_cons]; omega
section
variable (room fuse next : Int) {nf nk nt : Nat} {fs : List FileD} {ks : List LinkD} {ts : List TurnD} {W : World} {B : Nat} {F1 : Option Addr} {cf1 : Nat} {K1 : Option Addr} {ck1 : Nat} {T1 : Option Addr} {ct1 : Nat} {gs : List FileD}
theorem specD_own (h : OwnD W B F1 nf cf1 gs K1 nk ck1 ks T1 nt ct1 ts) (hk : gs.map keyF = fs.map keyF) (hn : nf + usedD fs + nk + nt ≤ 1048576) (hids : ∀ x ∈ fs, (Lit.int .i64 x.id).wf = true) (hks : ∀ x ∈ ks, x.1.size ≤ maxLen ∧ (Lit.int .i64 x.2).wf = true) (hts : ∀ x ∈ ts, x.name.size ≤ maxLen ∧ x.to_.size ≤ maxLen ∧ (Lit.int .i64 x.id).wf = true) :
    Calls Try.prog 38 #[.agg #[.int .i64 room, .int .i64 fuse, .int .i64 next, .slice F1 nf cf1, .slice K1 nk ck1, .slice T1 nt ct1]] W (AnsL (OkS room fuse next gs ks ts) (dirAt ks ts) W) := by
  refine (spec_DiskDir_any room fuse next F1 nf cf1 K1 nk ck1 T1 nt ct1 gs ks ts W h.f.rd h.lenF (by rw [keys_used hk]; omega) h.l.rd h.lenL (own_noneK h.l) (fun x hx => (hks x hx).1) h.t.rd h.lenT (fun x hx => ⟨(hts x hx).1, (hts x hx).2.1⟩)).mono ?_
  rintro e w' ⟨h1, h2⟩
  rcases h1 with ⟨hp, A, c, rfl, ho, hle⟩ | ⟨hp, rfl⟩
  · exact ⟨_, A, _, c, rfl, by omega, .inl ⟨hp, rfl⟩, ho, h2⟩
  · exact ⟨[], none, 0, 0, rfl, by omega, .inr ⟨hp, rfl⟩, World.ownsRow_nil _ _ _ _, h2⟩
theorem implD_own (h : OwnD W B F1 nf cf1 gs K1 nk ck1 ks T1 nt ct1 ts) (hk : gs.map keyF = fs.map keyF) (hn : nf + usedD fs + nk + nt ≤ 1048576) (hids : ∀ x ∈ fs, (Lit.int .i64 x.id).wf = true) (hks : ∀ x ∈ ks, x.1.size ≤ maxLen ∧ (Lit.int .i64 x.2).wf = true) (hts : ∀ x ∈ ts, x.name.size ≤ maxLen ∧ x.to_.size ≤ maxLen ∧ (Lit.int .i64 x.id).wf = true) :
    Calls Try.prog 36 #[.agg #[.int .i64 room, .int .i64 fuse, .int .i64 next, .slice F1 nf cf1, .slice K1 nk ck1, .slice T1 nt ct1]] W (AnsL (OkS room fuse next gs ks ts) (dirAt ks ts) W) := by
  refine (impl_DiskDir_any room fuse next F1 nf cf1 K1 nk ck1 T1 nt ct1 gs ks ts W h.f.rd h.lenF (by omega) (keys_mem hk (P := fun f => (Lit.int .i64 f.id).wf = true) (fun f g e h => by show (Lit.int .i64 g.id).wf = true; rw [key_id e]; exact h) hids) (by rw [keys_used hk]; omega) h.l.rd h.lenL (by omega) hks h.t.rd h.lenT hts).mono ?_
  rintro e w' ⟨h1, h2⟩
  rcases h1 with ⟨hp, A, n, c, rfl, ho⟩ | ⟨hp, rfl⟩
  · have h3 := ho.len
    have h4 := dirAt_len ts ks
    have h5 := h.lenL
    have h6 := h.lenT
    exact ⟨_, A, n, c, rfl, by omega, .inl ⟨hp, rfl⟩, ho, h2⟩
  · exact ⟨[], none, 0, 0, rfl, by omega, .inr ⟨hp, rfl⟩, World.ownsRow_nil _ _ _ _, h2⟩
end
end Go.Proofs.Ytmlodfceepokoaa.DOk
