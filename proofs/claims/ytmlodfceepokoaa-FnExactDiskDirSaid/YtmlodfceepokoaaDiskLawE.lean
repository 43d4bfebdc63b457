/- Small facts for the laws over a disk: comparing, checking and carrying disks of the call's own. -/
import Derived.Test.YtmlodfceepokoaaMarkAll
import Derived.Test.YtmlodfceepokoaaDiskMath
import Derived.Test.YtmlodfceepokoaaEqDisk
import Derived.Test.YtmlodfceepokoaaClones
namespace Go.Proofs.Ytmlodfceepokoaa.DOk
open Go.RowKit Go.Proofs.Ytmlodfceepokoaa.Bytes Go.Proofs.Ytmlodfceepokoaa.Rows_
set_option linter.unusedVariables false
section
variable {w w' : World} {base : Nat} {F : Option Addr} {nf cf : Nat} {gs : List FileD} {K : Option Addr} {nk ck : Nat} {ks : List LinkD} {T : Option Addr} {nt ct : Nat} {ts : List TurnD}
theorem OwnD.lenF (h : OwnD w base F nf cf gs K nk ck ks T nt ct ts) : gs.length = nf := by
  have h1 := h.f.1
  rw [flat_len 3 _ (file_len gs), List.length_map] at h1; omega
theorem OwnD.lenL (h : OwnD w base F nf cf gs K nk ck ks T nt ct ts) : ks.length = nk := by
  have h1 := h.l.1
  rw [flat_len 2 _ (link_len ks), List.length_map] at h1; omega
theorem OwnD.lenT (h : OwnD w base F nf cf gs K nk ck ks T nt ct ts) : ts.length = nt := by
  have h1 := h.t.1
  rw [flat_len 4 _ (turn_len ts), List.length_map] at h1; omega
theorem OwnD.only {S : Nat → Prop} (h : OwnD w base F nf cf gs K nk ck ks T nt ct ts) (on : Only S w w') (hd : ∀ i, SD F nf cf gs K nk ck T nt ct i → ¬ S i) : OwnD w' base F nf cf gs K nk ck ks T nt ct ts :=
  ⟨Only.own h.f on (fun g hg => hd g (.inl (.inl hg))), ⟨fun f hf => Only.own (h.b.1 f hf) on (fun g hg => hd g (.inl (.inr ⟨f, hf, hg⟩))), h.b.2⟩, Only.own h.l on (fun g hg => hd g (.inr (.inl hg))), Only.own h.t on (fun g hg => hd g (.inr (.inr hg)))⟩
end
theorem Only.below_ {S : Nat → Prop} {a w w' : World} {B : Nat} (h : Only S w w') (hb : Below B a w) (hB : B ≤ w.heap.size) (hS : ∀ i, S i → B ≤ i) : Below B a w' :=
  ⟨h.os.trans hb.os, h.tape.trans hb.tape, h.output.trans hb.output, Nat.le_trans hb.size h.size, fun i hi => (h.block i (Nat.lt_of_lt_of_le hi hB) fun hs => by have := hS i hs; omega).trans (hb.block i hi)⟩
theorem Box6.only {S : Nat → Prop} {w w' : World} {b : Nat} {x0 x1 x2 x3 x4 x5 : Value} (h : Box6 w b x0 x1 x2 x3 x4 x5) (on : Only S w w') (hn : ¬ S b) : Box6 w' b x0 x1 x2 x3 x4 x5 :=
  ⟨on.cell h.1 hn, on.cell h.2.1 hn, on.cell h.2.2.1 hn, on.cell h.2.2.2.1 hn, on.cell h.2.2.2.2.1 hn, on.cell h.2.2.2.2.2 hn⟩
theorem eqD {w : World} {base1 base2 : Nat} (room fuse next : Int) {F G : Option Addr} {nf cf cg : Nat} {K L : Option Addr} {nk ck cl : Nat} {T U : Option Addr} {nt ct cu : Nat} {fs gs : List FileD} {ks : List LinkD} {ts : List TurnD}
    (h1 : OwnD w base1 F nf cf fs K nk ck ks T nt ct ts) (h2 : OwnD w base2 G nf cg gs L nk cl ks U nt cu ts) (hk : gs.map keyF = fs.map keyF) (hu : usedD fs + nf + nk + nt ≤ 1099511627776) :
    Calls Try.prog 41 #[.agg #[.int .i64 room, .int .i64 fuse, .int .i64 next, .slice F nf cf, .slice K nk ck, .slice T nt ct], .agg #[.int .i64 room, .int .i64 fuse, .int .i64 next, .slice G nf cg, .slice L nk cl, .slice U nt cu]] w fun e w' => e = .returned (.bool true) ∧ Below w.heap.size w w' :=
  eqDisk_yes room fuse next F G nf cf cg K L nk ck cl T U nt ct cu fs gs ks ts w h1.f.rd h2.f.rd h1.lenF (same_of_keys hk) h1.b.rdB h2.b.rdB (by omega) (fun f hf => by have := n_used hf; omega) h1.l.rd h2.l.rd h1.lenL (by omega) h1.t.rd h2.t.rd h1.lenT (by omega)
end Go.Proofs.Ytmlodfceepokoaa.DOk
