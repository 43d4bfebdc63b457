/- Small facts for the laws whose function gives a disk: comparing, checking and carrying disks of the call's own. -/
import Derived.Test.YtehhophjhjeenaaSetImpl
import Derived.Test.YtehhophjhjeenaaHeldAll
import Derived.Test.YtehhophjhjeenaaSzDisk
namespace Go.Proofs.Ytehhophjhjeenaa.DOk
open Go.RowKit Go.Proofs.Ytehhophjhjeenaa.Bytes Go.Proofs.Ytehhophjhjeenaa.Rows_
set_option linter.unusedVariables false
section
variable {w w' : World} {base : Nat} {F : Option Addr} {nf cf : Nat} {gs : List FileD} {K : Option Addr} {nk ck : Nat} {ks : List LinkD} {T : Option Addr} {nt ct : Nat} {ts : List TurnD}
theorem OwnD.lenF (h : OwnD w base F nf cf gs K nk ck ks T nt ct ts) : gs.length = nf := by
  have h1 := h.f.1
  rw [flat_len 3 _ (file_len gs), List.length_map] at h1; omega
theorem OwnD.lenL (h : OwnD w base F nf cf gs K nk ck ks T nt ct ts) : ks.length = nk := by
  have h1 := h.l.1
  rw [flat_len 2 _ (link_len ks), List.length_map] at h1; omega
theorem OwnD.lenT (h : OwnD w base F nf cf gs K nk ck ks T nt ct ts) : ts.length = nt := by
  have h1 := h.t.1
  rw [flat_len 4 _ (turn_len ts), List.length_map] at h1; omega
theorem OwnD.only {S : Nat → Prop} (h : OwnD w base F nf cf gs K nk ck ks T nt ct ts) (on : Only S w w') (hd : ∀ i, SD F nf cf gs K nk ck T nt ct i → ¬ S i) : OwnD w' base F nf cf gs K nk ck ks T nt ct ts :=
  ⟨Only.own h.f on (fun g hg => hd g (.inl (.inl hg))), ⟨fun f hf => Only.own (h.b.1 f hf) on (fun g hg => hd g (.inl (.inr ⟨f, hf, hg⟩))), h.b.2⟩, Only.own h.l on (fun g hg => hd g (.inr (.inl hg))), Only.own h.t on (fun g hg => hd g (.inr (.inr hg)))⟩
end
theorem Only.below_ {S : Nat → Prop} {a w w' : World} {B : Nat} (h : Only S w w') (hb : Below B a w) (hB : B ≤ w.heap.size) (hS : ∀ i, S i → B ≤ i) : Below B a w' :=
  ⟨h.os.trans hb.os, h.tape.trans hb.tape, h.output.trans hb.output, Nat.le_trans hb.size h.size, fun i hi => (h.block i (Nat.lt_of_lt_of_le hi hB) fun hs => by have := hS i hs; omega).trans (hb.block i hi)⟩
theorem Box6.only {S : Nat → Prop} {w w' : World} {b : Nat} {x0 x1 x2 x3 x4 x5 : Value} (h : Box6 w b x0 x1 x2 x3 x4 x5) (on : Only S w w') (hn : ¬ S b) : Box6 w' b x0 x1 x2 x3 x4 x5 :=
  ⟨on.cell h.1 hn, on.cell h.2.1 hn, on.cell h.2.2.1 hn, on.cell h.2.2.2.1 hn, on.cell h.2.2.2.2.1 hn, on.cell h.2.2.2.2.2 hn⟩
theorem eqD {w : World} {base1 base2 : Nat} (room fuse next : Int) {F G : Option Addr} {nf cf cg : Nat} {K L : Option Addr} {nk ck cl : Nat} {T U : Option Addr} {nt ct cu : Nat} {fs gs : List FileD} {ks : List LinkD} {ts : List TurnD}
    (h1 : OwnD w base1 F nf cf fs K nk ck ks T nt ct ts) (h2 : OwnD w base2 G nf cg gs L nk cl ks U nt cu ts) (hk : gs.map keyF = fs.map keyF) (hu : usedD fs + nf + nk + nt ≤ 1099511627776) :
    Calls Try.prog 40 #[.agg #[.int .i64 room, .int .i64 fuse, .int .i64 next, .slice F nf cf, .slice K nk ck, .slice T nt ct], .agg #[.int .i64 room, .int .i64 fuse, .int .i64 next, .slice G nf cg, .slice L nk cl, .slice U nt cu]] w fun e w' => e = .returned (.bool true) ∧ Below w.heap.size w w' :=
  eqDisk_yes room fuse next F G nf cf cg K L nk ck cl T U nt ct cu fs gs ks ts w h1.f.rd h2.f.rd h1.lenF (same_of_keys hk) h1.b.rdB h2.b.rdB (by omega) (fun f hf => by have := n_used hf; omega) h1.l.rd h2.l.rd h1.lenL (by omega) h1.t.rd h2.t.rd h1.lenT (by omega)
theorem heldD {w : World} {base : Nat} (room fuse next : Int) {F : Option Addr} {nf cf : Nat} {K : Option Addr} {nk ck : Nat} {T : Option Addr} {nt ct : Nat} (gs : List FileD) (ks : List LinkD) (ts : List TurnD) (k : Nat)
    (h : OwnD w base F nf cf (markF k gs) K nk ck (markL (k + 2 * nf + usedD gs) ks) T nt ct (markT (k + 2 * nf + usedD gs + 2 * nk) ts)) (hf : gs.length = nf) (hk : ks.length = nk) (ht : ts.length = nt) (h0 : 1 ≤ k) (h1 : k + 2 * nf + usedD gs + 2 * nk + 4 * nt ≤ 1099511627776) :
    Calls Try.prog 42 #[.agg #[.int .i64 room, .int .i64 fuse, .int .i64 next, .slice F nf cf, .slice K nk ck, .slice T nt ct], .int .i64 k] w
      fun e w' => e = .returned (.int .i64 ((k + 2 * nf + usedD gs + 2 * nk + 4 * nt : Nat) : Int)) ∧ Below w.heap.size w w' :=
  heldDisk_any room fuse next F nf cf K nk ck T nt ct gs ks ts k w h.f.rd h.b.rdB h.l.rd h.t.rd hf hk ht h0 h1
theorem SetD.same {P : Prop} {room fuse next : Int} {fs : List FileD} {ks : List LinkD} {ts : List TurnD} {r f x r' f' x' : Int} {gs gs' : List FileD} {k k' : List LinkD} {t t' : List TurnD} {o o' : Value} (h : SetD P room fuse next fs ks ts r f x gs k t o) (h' : SetD P room fuse next fs ks ts r' f' x' gs' k' t' o') :
    r' = r ∧ f' = f ∧ x' = x ∧ gs'.map keyF = gs.map keyF ∧ k' = k ∧ t' = t ∧ o' = o := by
  rcases h with ⟨p, rfl, rfl, rfl, rfl, h1, rfl, rfl⟩ | ⟨p, rfl, rfl, rfl, rfl, rfl, rfl, rfl⟩ <;> rcases h' with ⟨p', rfl, rfl, rfl, rfl, h1', rfl, rfl⟩ | ⟨p', rfl, rfl, rfl, rfl, rfl, rfl, rfl⟩
  · exact ⟨rfl, rfl, rfl, h1'.trans h1.symm, rfl, rfl, rfl⟩
  · exact absurd p p'
  · exact absurd p' p
  · exact ⟨rfl, rfl, rfl, rfl, rfl, rfl, rfl⟩
theorem SetD.congr {P Q : Prop} (h : P ↔ Q) {room fuse next : Int} {fs : List FileD} {ks : List LinkD} {ts : List TurnD} {r f x : Int} {gs : List FileD} {k : List LinkD} {t : List TurnD} {o : Value} {fs' : List FileD} (hk : fs.map keyF = fs'.map keyF) (hs : SetD P room fuse next fs ks ts r f x gs k t o) : SetD Q room fuse next fs' ks ts r f x gs k t o := by
  rcases hs with ⟨p, h1, h2, h3, h4, h5, h6⟩ | ⟨p, h1⟩
  · exact .inl ⟨h.1 p, h1, h2, h3, h4, h5.trans hk, h6⟩
  · exact .inr ⟨fun q => p (h.2 q), h1⟩
theorem SetD.bool {P : Prop} {room fuse next : Int} {fs : List FileD} {ks : List LinkD} {ts : List TurnD} {r f x : Int} {gs : List FileD} {k : List LinkD} {t : List TurnD} {o : Value} (h : SetD P room fuse next fs ks ts r f x gs k t o) : ∃ b, o = .bool b := by
  rcases h with ⟨_, h, _⟩ | ⟨_, h, _⟩
  · exact ⟨_, h⟩
  · exact ⟨_, h⟩
theorem SetD.size {P : Prop} {room fuse next : Int} {fs : List FileD} {ks : List LinkD} {ts : List TurnD} {r f x : Int} {gs : List FileD} {k : List LinkD} {t : List TurnD} {o : Value} (h : SetD P room fuse next fs ks ts r f x gs k t o) : usedD gs ≤ usedD fs ∧ gs.length ≤ fs.length ∧ k.length ≤ ks.length ∧ t.length ≤ ts.length := by
  rcases h with ⟨_, _, _, _, _, h, rfl, rfl⟩ | ⟨_, _, _, _, _, rfl, rfl, rfl⟩
  · exact ⟨Nat.le_of_eq (keys_used h), Nat.le_of_eq (keys_len h), Nat.le_refl _, Nat.le_refl _⟩
  · exact ⟨by simp [usedD], by simp, by simp, by simp⟩
end Go.Proofs.Ytehhophjhjeenaa.DOk
