/- Small facts for functions that give a disk: boxes written, what is owned carried over, what they answer. -/
import Derived.Test.YtckiloacbanbmaaGreatCopySpec
import Derived.Test.YtckiloacbanbmaaGreatDiskMath
namespace Go.Proofs.YtckiloacbanbmaaGreat.DOk
open Go.RowKit Go.Proofs.YtckiloacbanbmaaGreat.Bytes Go.Proofs.YtckiloacbanbmaaGreat.Rows_
set_option linter.unusedVariables false

theorem BoxW.set0 {w : World} {b : Nat} {x0 x1 x2 x3 x4 x5 : Value} (h : BoxW w b #[x0, x1, x2, x3, x4, x5]) (v : Value) : BoxW (w.setCell ⟨b, 0, none⟩ v) b #[v, x1, x2, x3, x4, x5] := by
  unfold BoxW at h ⊢; simp [World.setCell, Array.getElem?_modify, h]
theorem BoxW.set1 {w : World} {b : Nat} {x0 x1 x2 x3 x4 x5 : Value} (h : BoxW w b #[x0, x1, x2, x3, x4, x5]) (v : Value) : BoxW (w.setCell ⟨b, 1, none⟩ v) b #[x0, v, x2, x3, x4, x5] := by
  unfold BoxW at h ⊢; simp [World.setCell, Array.getElem?_modify, h]
theorem BoxW.new (w : World) (cs : Array Value) : BoxW (w.alloc (.cells cs 36)) w.heap.size cs := heap_alloc_new w _
/-- what a function answers that gives a disk: one of the call's own, as 'D' says of its data -/
def AnsDisk (D : Int → Int → Int → List FileD → List LinkD → List TurnD → Value → Prop) (w : World) (e : Ending) (w' : World) : Prop :=
  ∃ (r f x : Int) (F : Option Addr) (nf cf : Nat) (gs : List FileD) (K : Option Addr) (nk ck : Nat) (ks : List LinkD) (T : Option Addr) (nt ct : Nat) (ts : List TurnD) (o : Value),
    e = .returned (.tuple #[.agg #[.int .i64 r, .int .i64 f, .int .i64 x, .slice F nf cf, .slice K nk ck, .slice T nt ct], o]) ∧ OwnD w' w.heap.size F nf cf gs K nk ck ks T nt ct ts ∧ D r f x gs ks ts o ∧ Below w.heap.size w w'
def SetD (P : Prop) (room fuse next : Int) (fs : List FileD) (ks : List LinkD) (ts : List TurnD) (r f x : Int) (gs : List FileD) (ks' : List LinkD) (ts' : List TurnD) (o : Value) : Prop :=
  (P ∧ o = .bool true ∧ r = room ∧ f = fuse ∧ x = next ∧ gs.map keyF = fs.map keyF ∧ ks' = ks ∧ ts' = ts) ∨ (¬ P ∧ o = .bool false ∧ r = 0 ∧ f = 0 ∧ x = 0 ∧ gs = [] ∧ ks' = [] ∧ ts' = [])
theorem ownD_nil (w : World) (B : Nat) : OwnD w B none 0 0 [] none 0 0 [] none 0 0 [] := ⟨World.ownsRow_nil w B _ _, OwnBs.nil w B, World.ownsRow_nil w B _ _, World.ownsRow_nil w B _ _⟩
theorem OwnD.below {w w' : World} {base B : Nat} {F : Option Addr} {nf cf : Nat} {gs : List FileD} {K : Option Addr} {nk ck : Nat} {ks : List LinkD} {T : Option Addr} {nt ct : Nat} {ts : List TurnD} (h : OwnD w base F nf cf gs K nk ck ks T nt ct ts) (hB : w.heap.size ≤ B) (hb : Below B w w') : OwnD w' base F nf cf gs K nk ck ks T nt ct ts :=
  ⟨own_belowK h.f hB hb, h.b.below hB hb, own_belowK h.l hB hb, own_belowK h.t hB hb⟩
theorem OwnD.more {w : World} {base base' : Nat} {F : Option Addr} {nf cf : Nat} {gs : List FileD} {K : Option Addr} {nk ck : Nat} {ks : List LinkD} {T : Option Addr} {nt ct : Nat} {ts : List TurnD} (h : OwnD w base F nf cf gs K nk ck ks T nt ct ts) (hB : base' ≤ base) : OwnD w base' F nf cf gs K nk ck ks T nt ct ts :=
  ⟨own_moreK h.f hB, ⟨fun f hf => (h.b.1 f hf).more hB, h.b.2⟩, own_moreK h.l hB, own_moreK h.t hB⟩
theorem OwnD.set {w : World} {base c j : Nat} {v : Value} {F : Option Addr} {nf cf : Nat} {gs : List FileD} {K : Option Addr} {nk ck : Nat} {ks : List LinkD} {T : Option Addr} {nt ct : Nat} {ts : List TurnD} (h : OwnD w base F nf cf gs K nk ck ks T nt ct ts) (hc : ∀ i, SD F nf cf gs K nk ck T nt ct i → i ≠ c) : OwnD (w.setCell ⟨c, j, none⟩ v) base F nf cf gs K nk ck ks T nt ct ts :=
  ⟨own_setNe h.f c j v (fun e => hc c (.inl (.inl e)) rfl), ⟨fun f hf => own_setNe (h.b.1 f hf) c j v (fun e => hc c (.inl (.inr ⟨f, hf, e⟩)) rfl), h.b.2⟩, own_setNe h.l c j v (fun e => hc c (.inr (.inl e)) rfl), own_setNe h.t c j v (fun e => hc c (.inr (.inr e)) rfl)⟩
theorem OwnD.set6 {w : World} {base c : Nat} {F : Option Addr} {nf cf : Nat} {gs : List FileD} {K : Option Addr} {nk ck : Nat} {ks : List LinkD} {T : Option Addr} {nt ct : Nat} {ts : List TurnD} (h : OwnD w base F nf cf gs K nk ck ks T nt ct ts) (hc : ∀ i, SD F nf cf gs K nk ck T nt ct i → i ≠ c) (x1 x2 x3 x4 x5 x6 : Value) :
    OwnD ((((((w.setCell ⟨c, 0, none⟩ x1).setCell ⟨c, 1, none⟩ x2).setCell ⟨c, 2, none⟩ x3).setCell ⟨c, 3, none⟩ x4).setCell ⟨c, 4, none⟩ x5).setCell ⟨c, 5, none⟩ x6) base F nf cf gs K nk ck ks T nt ct ts :=
  (((((h.set hc).set hc).set hc).set hc).set hc).set hc
theorem below_set6 {B c : Nat} {a w : World} (h : Below B a w) (hc : B ≤ c) (x1 x2 x3 x4 x5 x6 : Value) :
    Below B a ((((((w.setCell ⟨c, 0, none⟩ x1).setCell ⟨c, 1, none⟩ x2).setCell ⟨c, 2, none⟩ x3).setCell ⟨c, 3, none⟩ x4).setCell ⟨c, 4, none⟩ x5).setCell ⟨c, 5, none⟩ x6) :=
  (((((h.setCell hc _).setCell hc _).setCell hc _).setCell hc _).setCell hc _).setCell hc _
end Go.Proofs.YtckiloacbanbmaaGreat.DOk
