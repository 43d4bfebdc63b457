/- Words for a disk that is marked: only some blocks are written; rows of different types lie apart; the marked files as data. -/
import Derived.Test.YtckiloacbanbmaaDoorToDisk
namespace Go.Proofs.YtckiloacbanbmaaDoor.DOk
open Go.RowKit Go.Proofs.YtckiloacbanbmaaDoor.Bytes Go.Proofs.YtckiloacbanbmaaDoor.Rows_
set_option linter.unusedVariables false

/-- only the blocks of S are written -/
structure Only (S : Nat → Prop) (w w' : World) : Prop where
  os : w'.os = w.os
  tape : w'.tape = w.tape
  output : w'.output = w.output
  size : w.heap.size ≤ w'.heap.size
  block : ∀ i, i < w.heap.size → ¬ S i → w'.heap[i]? = w.heap[i]?
theorem Only.refl (S : Nat → Prop) (w : World) : Only S w w := ⟨rfl, rfl, rfl, Nat.le_refl _, fun _ _ _ => rfl⟩
theorem Only.trans {S : Nat → Prop} {a b c : World} (h : Only S a b) (k : Only S b c) : Only S a c :=
  ⟨k.os.trans h.os, k.tape.trans h.tape, k.output.trans h.output, Nat.le_trans h.size k.size, fun i hi hs => (k.block i (Nat.lt_of_lt_of_le hi h.size) hs).trans (h.block i hi hs)⟩
theorem Only.mono {S T : Nat → Prop} {a b : World} (h : Only S a b) (hs : ∀ i, S i → T i) : Only T a b := ⟨h.os, h.tape, h.output, h.size, fun i hi hn => h.block i hi fun h' => hn (hs i h')⟩
theorem Only.grown {S : Nat → Prop} {w w' : World} {row : Option Nat} (h : w.grownBy w' row) (hS : ∀ i, row = some i → S i) : Only S w w' :=
  ⟨h.os, h.tape, h.output, h.size, fun i hi hn => h.block i hi fun e => hn (hS i e.symm)⟩
theorem Only.own {S : Nat → Prop} {w w' : World} {base K n : Nat} {E : TypeId} {v : Value} {xs : List Value} (h : w.ownsRow base E K v n xs) (ho : Only S w w') (hne : ∀ g, v.ownBlock = some g → ¬ S g) : w'.ownsRow base E K v n xs := by
  refine ⟨h.1, ?_⟩
  rcases h.2 with h0 | ⟨g, cap, cur, rfl, hb, hg, rest⟩
  · exact .inl h0
  · exact .inr ⟨g, cap, cur, rfl, hb, by rw [ho.block g (Array.getElem?_eq_some_iff.1 hg).1 (hne g rfl)]; exact hg, rest⟩
/-- rows of different types lie on different blocks -/
theorem own_ne {w : World} {base base' K K' n n' : Nat} {E E' : TypeId} {v v' : Value} {xs xs' : List Value} (h : w.ownsRow base E K v n xs) (h' : w.ownsRow base' E' K' v' n' xs') (hE : E ≠ E') : ∀ g, v.ownBlock = some g → v'.ownBlock ≠ some g := by
  intro g hv hv'
  rcases h.2 with ⟨rfl, _⟩ | ⟨g1, _, _, rfl, _, h1, _⟩
  · cases hv
  · rcases h'.2 with ⟨rfl, _⟩ | ⟨g2, _, _, rfl, _, h2, _⟩
    · cases hv'
    · simp only [Value.ownBlock, Option.some.injEq] at hv hv'
      subst hv hv'
      rw [h1] at h2
      simp only [Option.some.injEq, Obj.cells.injEq] at h2
      exact hE h2.2.1

section
variable {w : World} {base g n c : Nat} {E : TypeId} {pre post : List (List Value)}
theorem row3a {z0 z1 z2 : Value} (v0 : Value) (hpre : ∀ r ∈ pre, r.length = 3) (k : Nat) (hk : pre.length = k) (h : w.ownsRow base E 3 (.slice (some ⟨g, 0, none⟩) n c) n (pre ++ [[z0, z1, z2]] ++ post).flatten) :
    (w.setCell ⟨g, k * 3, none⟩ v0).ownsRow base E 3 (.slice (some ⟨g, 0, none⟩) n c) n (pre ++ [[v0, z1, z2]] ++ post).flatten := by
  have hl : pre.flatten.length = k * 3 := by rw [flat_len 3 pre hpre, hk]
  have h1 := (World.ownsRow.stored (h := h) (k * 3) v0).1
  rw [flat3, show k * 3 = k * 3 + 0 from rfl, set_mid _ _ _ _ 0 hl (by simp)] at h1
  rw [flat3]; exact h1
theorem row3c {z0 z1 z2 : Value} (v2 : Value) (hpre : ∀ r ∈ pre, r.length = 3) (k : Nat) (hk : pre.length = k) (h : w.ownsRow base E 3 (.slice (some ⟨g, 0, none⟩) n c) n (pre ++ [[z0, z1, z2]] ++ post).flatten) :
    (w.setCell ⟨g, k * 3 + 2, none⟩ v2).ownsRow base E 3 (.slice (some ⟨g, 0, none⟩) n c) n (pre ++ [[z0, z1, v2]] ++ post).flatten := by
  have hl : pre.flatten.length = k * 3 := by rw [flat_len 3 pre hpre, hk]
  have h1 := (World.ownsRow.stored (h := h) (k * 3 + 2) v2).1
  rw [flat3, set_mid _ _ _ _ 2 hl (by simp)] at h1
  rw [flat3]; exact h1
end

/-! ### the marked files -/
def endF (k : Int) (gs : List FileD) : Int := k + 2 * gs.length + (usedD gs : Nat)
def mkF (k : Int) (g : FileD) : FileD := ⟨k, g.A, g.n, g.c, k + 1 + g.n, marks g.n (k + 1)⟩
def markF : Int → List FileD → List FileD
  | _, [] => []
  | k, g :: gs => mkF k g :: markF (k + 2 + g.n) gs
theorem markF_len : ∀ (gs : List FileD) (k : Int), (markF k gs).length = gs.length
  | [], _ => rfl
  | g :: gs, k => by simp [markF, markF_len gs]
theorem endF_cons (k : Int) (g : FileD) (gs : List FileD) : endF k (g :: gs) = endF (k + 2 + g.n) gs := by
  unfold endF usedD
  simp only [List.length_cons, List.map_cons, List.sum_cons]
  omega
theorem markF_snoc : ∀ (l : List FileD) (k : Int) (g : FileD), markF k (l ++ [g]) = markF k l ++ [mkF (endF k l) g]
  | [], k, g => by simp [markF, endF, usedD]
  | x :: l, k, g => by rw [List.cons_append, markF, markF_snoc l, markF, endF_cons]; rfl
theorem endF_snoc (l : List FileD) (k : Int) (g : FileD) : endF k (l ++ [g]) = endF k l + 2 + g.n := by
  unfold endF usedD
  simp only [List.length_append, List.map_append, List.sum_append, List.length_cons, List.length_nil, List.map_cons, List.map_nil, List.sum_cons, List.sum_nil]
  omega
def blkF (f : FileD) : Option Nat := (Value.slice f.A f.n f.c).ownBlock
def SF (F : Option Addr) (n c : Nat) (gs : List FileD) (i : Nat) : Prop := (Value.slice F n c).ownBlock = some i ∨ ∃ f ∈ gs, blkF f = some i
theorem mkF_blk (k : Int) (g : FileD) : blkF (mkF k g) = blkF g := rfl
theorem markF_mem : ∀ (gs : List FileD) (k : Int) (x : FileD), x ∈ markF k gs → ∃ f ∈ gs, blkF f = blkF x
  | [], _, x, h => by cases h
  | g :: gs, k, x, h => by
    rw [markF] at h
    rcases List.mem_cons.1 h with rfl | h
    · exact ⟨g, List.mem_cons_self .., rfl⟩
    · obtain ⟨f, hf, e⟩ := markF_mem gs _ x h
      exact ⟨f, List.mem_cons_of_mem _ hf, e⟩
theorem markF_map : ∀ (gs : List FileD) (k : Int), (markF k gs).map blkF = gs.map blkF
  | [], _ => rfl
  | g :: gs, k => by rw [markF, List.map_cons, List.map_cons, markF_map gs]; rfl
theorem sep_iff (l : List FileD) : l.Pairwise Sep ↔ (l.map blkF).Pairwise (fun a b => ∀ g, a = some g → b ≠ some g) := by
  rw [List.pairwise_map]; exact Iff.rfl
theorem own_setNe {w : World} {base K n : Nat} {E : TypeId} {v : Value} {xs : List Value} (h : w.ownsRow base E K v n xs) (b i : Nat) (x : Value) (hb : v.ownBlock ≠ some b) : (w.setCell ⟨b, i, none⟩ x).ownsRow base E K v n xs :=
  World.ownsRow.kept h (Go.Lib.grownBy_setCell w b i x) (.inr hb)
/-- the files of which the first 't' are marked -/
def partM (k : Int) (gs : List FileD) (t : Nat) : List FileD := markF k (gs.take t) ++ gs.drop t
theorem partM_len (k : Int) (gs : List FileD) (t : Nat) (ht : t ≤ gs.length) : (partM k gs t).length = gs.length := by
  unfold partM; rw [List.length_append, markF_len, List.length_take, List.length_drop]; omega
theorem partM_map (k : Int) (gs : List FileD) (t : Nat) : (partM k gs t).map blkF = gs.map blkF := by
  unfold partM; rw [List.map_append, markF_map, ← List.map_append, List.take_append_drop]
theorem partM_now (k : Int) (gs : List FileD) (t : Nat) (ht : t < gs.length) : partM k gs t = markF k (gs.take t) ++ [gs[t]] ++ gs.drop (t + 1) := by
  unfold partM; rw [List.drop_eq_getElem_cons ht, List.append_assoc]; rfl
theorem partM_next (k : Int) (gs : List FileD) (t : Nat) (ht : t < gs.length) : partM k gs (t + 1) = markF k (gs.take t) ++ [mkF (endF k (gs.take t)) gs[t]] ++ gs.drop (t + 1) := by
  unfold partM; rw [List.take_succ_eq_append_getElem ht, markF_snoc]
theorem endF_le (k : Int) (gs : List FileD) (t : Nat) (ht : t < gs.length) : endF k (gs.take t) + 2 + gs[t].n ≤ endF k gs ∧ k ≤ endF k (gs.take t) := by
  have h1 := used_snoc gs t ht
  have h2 := used_take gs (t + 1)
  unfold endF
  rw [List.length_take]
  constructor
  · omega
  · omega
/-- one file marked: what is owned of the bodies -/
theorem bodies_next {w w1 w2 w3 : World} {base fb i1 i3 : Nat} {v1 v3 : Value} {pre post : List FileD} {g g' : FileD} (hg : blkF g' = blkF g) (h : OwnBs w base (pre ++ [g] ++ post)) (hF : ∀ x ∈ pre ++ [g] ++ post, blkF x ≠ some fb)
    (e1 : w1 = w.setCell ⟨fb, i1, none⟩ v1) (hgr : w1.grownBy w2 (blkF g)) (ho : Own w2 base g'.A g'.n g'.c g'.bytes) (e3 : w3 = w2.setCell ⟨fb, i3, none⟩ v3) :
    OwnBs w3 base (pre ++ [g'] ++ post) := by
  obtain ⟨h1, h2⟩ := h
  have hs : ∀ x, x ∈ pre ∨ x ∈ post → ∀ b, blkF x = some b → blkF g ≠ some b := by
    intro x hx b hb hb'
    rw [List.pairwise_append, List.pairwise_append] at h2
    rcases hx with hx | hx
    · exact h2.1.2.2 x hx g (by simp) b hb hb'
    · exact h2.2.2 g (by simp) x hx b hb' hb
  have hk : ∀ x, x ∈ pre ∨ x ∈ post → Own w3 base x.A x.n x.c x.bytes := by
    intro x hx
    have hm : x ∈ pre ++ [g] ++ post := by rcases hx with hx | hx <;> simp [hx]
    have a1 : Own w1 base x.A x.n x.c x.bytes := by rw [e1]; exact own_setNe (h1 x hm) fb i1 v1 (hF x hm)
    have a2 : Own w2 base x.A x.n x.c x.bytes := World.ownsRow.kept a1 hgr (by
      rcases hb : blkF x with _ | b
      · exact .inl hb
      · exact .inr fun e => hs x hx b hb (e.symm.trans hb))
    have a3 : Own w3 base x.A x.n x.c x.bytes := by rw [e3]; exact own_setNe a2 fb i3 v3 (hF x hm)
    exact a3
  refine ⟨fun x hx => ?_, ?_⟩
  · rcases List.mem_append.1 hx with hx | hx
    · rcases List.mem_append.1 hx with hx | hx
      · exact hk x (.inl hx)
      · rw [List.mem_singleton] at hx; subst hx
        rw [e3]
        exact own_setNe ho fb i3 v3 (by have := hF g (by simp); rw [← hg] at this; exact this)
    · exact hk x (.inr hx)
  · rw [sep_iff] at h2 ⊢
    rw [List.map_append, List.map_append] at h2 ⊢
    simp only [List.map_cons, List.map_nil] at h2 ⊢
    rw [hg]; exact h2
end Go.Proofs.YtckiloacbanbmaaDoor.DOk
