/- Texts that lay in modules of their own: MarkBase, BoxBase, AppRows, Append, CloneB, CopyStep, Clones, BytesM, Bytes, MarkDisk, MarkText, MarkRows, MarkAll. -/
import Derived.Test.YtfkdfabbpebljaaGreatToDisk
import Derived.WalkSpells
import Derived.Laws.AppendOwnNone
import Derived.Test.YtfkdfabbpebljaaGreatKitA
import Derived.Lib.SliceRun
import Derived.Deep.RegionWith
import Derived.Deep.Cut
import Derived.Deep.CutRange
import Derived.Deep.DeepCutAuto
import Derived.Deep.RegionHeld3
import Derived.Deep.RegionLaw
import Derived.Deep.AppendLies
import Derived.Test.YtfkdfabbpebljaaGreatRows
import Derived.WalkKit
import Derived.WalkSmall
import Derived.Deep.QuietTactic
import Derived.BigQuiet
import Derived.Laws.BytesArg
import Derived.Laws.Concat
import Derived.Lib.Hide
import Derived.Lib.ItoaNum
namespace Go.Proofs.YtfkdfabbpebljaaGreat.DOk
open Go.RowKit Go.Proofs.YtfkdfabbpebljaaGreat.Bytes Go.Proofs.YtfkdfabbpebljaaGreat.Rows_
set_option linter.unusedVariables false

/-- only the blocks of S are written -/
structure Only (S : Nat → Prop) (w w' : World) : Prop where
  os : w'.os = w.os
  tape : w'.tape = w.tape
  output : w'.output = w.output
  size : w.heap.size ≤ w'.heap.size
  block : ∀ i, i < w.heap.size → ¬ S i → w'.heap[i]? = w.heap[i]?
theorem Only.refl (S : Nat → Prop) (w : World) : Only S w w := ⟨rfl, rfl, rfl, Nat.le_refl _, fun _ _ _ => rfl⟩
theorem Only.trans {S : Nat → Prop} {a b c : World} (h : Only S a b) (k : Only S b c) : Only S a c :=
  ⟨k.os.trans h.os, k.tape.trans h.tape, k.output.trans h.output, Nat.le_trans h.size k.size, fun i hi hs => (k.block i (Nat.lt_of_lt_of_le hi h.size) hs).trans (h.block i hi hs)⟩
theorem Only.mono {S T : Nat → Prop} {a b : World} (h : Only S a b) (hs : ∀ i, S i → T i) : Only T a b := ⟨h.os, h.tape, h.output, h.size, fun i hi hn => h.block i hi fun h' => hn (hs i h')⟩
theorem Only.grown {S : Nat → Prop} {w w' : World} {row : Option Nat} (h : w.grownBy w' row) (hS : ∀ i, row = some i → S i) : Only S w w' :=
  ⟨h.os, h.tape, h.output, h.size, fun i hi hn => h.block i hi fun e => hn (hS i e.symm)⟩
theorem Only.own {S : Nat → Prop} {w w' : World} {base K n : Nat} {E : TypeId} {v : Value} {xs : List Value} (h : w.ownsRow base E K v n xs) (ho : Only S w w') (hne : ∀ g, v.ownBlock = some g → ¬ S g) : w'.ownsRow base E K v n xs := by
  refine ⟨h.1, ?_⟩
  rcases h.2 with h0 | ⟨g, cap, cur, rfl, hb, hg, rest⟩
  · exact .inl h0
  · exact .inr ⟨g, cap, cur, rfl, hb, by rw [ho.block g (Array.getElem?_eq_some_iff.1 hg).1 (hne g rfl)]; exact hg, rest⟩
/-- rows of different types lie on different blocks -/
theorem own_ne {w : World} {base base' K K' n n' : Nat} {E E' : TypeId} {v v' : Value} {xs xs' : List Value} (h : w.ownsRow base E K v n xs) (h' : w.ownsRow base' E' K' v' n' xs') (hE : E ≠ E') : ∀ g, v.ownBlock = some g → v'.ownBlock ≠ some g := by
  intro g hv hv'
  rcases h.2 with ⟨rfl, _⟩ | ⟨g1, _, _, rfl, _, h1, _⟩
  · cases hv
  · rcases h'.2 with ⟨rfl, _⟩ | ⟨g2, _, _, rfl, _, h2, _⟩
    · cases hv'
    · simp only [Value.ownBlock, Option.some.injEq] at hv hv'
      subst hv hv'
      rw [h1] at h2
      simp only [Option.some.injEq, Obj.cells.injEq] at h2
      exact hE h2.2.1

section
variable {w : World} {base g n c : Nat} {E : TypeId} {pre post : List (List Value)}
theorem row3a {z0 z1 z2 : Value} (v0 : Value) (hpre : ∀ r ∈ pre, r.length = 3) (k : Nat) (hk : pre.length = k) (h : w.ownsRow base E 3 (.slice (some ⟨g, 0, none⟩) n c) n (pre ++ [[z0, z1, z2]] ++ post).flatten) :
    (w.setCell ⟨g, k * 3, none⟩ v0).ownsRow base E 3 (.slice (some ⟨g, 0, none⟩) n c) n (pre ++ [[v0, z1, z2]] ++ post).flatten := by
  have hl : pre.flatten.length = k * 3 := by rw [flat_len 3 pre hpre, hk]
  have h1 := (World.ownsRow.stored (h := h) (k * 3) v0).1
  rw [flat3, show k * 3 = k * 3 + 0 from rfl, set_mid _ _ _ _ 0 hl (by simp)] at h1
  rw [flat3]; exact h1
theorem row3c {z0 z1 z2 : Value} (v2 : Value) (hpre : ∀ r ∈ pre, r.length = 3) (k : Nat) (hk : pre.length = k) (h : w.ownsRow base E 3 (.slice (some ⟨g, 0, none⟩) n c) n (pre ++ [[z0, z1, z2]] ++ post).flatten) :
    (w.setCell ⟨g, k * 3 + 2, none⟩ v2).ownsRow base E 3 (.slice (some ⟨g, 0, none⟩) n c) n (pre ++ [[z0, z1, v2]] ++ post).flatten := by
  have hl : pre.flatten.length = k * 3 := by rw [flat_len 3 pre hpre, hk]
  have h1 := (World.ownsRow.stored (h := h) (k * 3 + 2) v2).1
  rw [flat3, set_mid _ _ _ _ 2 hl (by simp)] at h1
  rw [flat3]; exact h1
end

/-! ### the marked files -/
def endF (k : Int) (gs : List FileD) : Int := k + 2 * gs.length + (usedD gs : Nat)
def mkF (k : Int) (g : FileD) : FileD := ⟨k, g.A, g.n, g.c, k + 1 + g.n, marks g.n (k + 1)⟩
def markF : Int → List FileD → List FileD
  | _, [] => []
  | k, g :: gs => mkF k g :: markF (k + 2 + g.n) gs
theorem markF_len : ∀ (gs : List FileD) (k : Int), (markF k gs).length = gs.length
  | [], _ => rfl
  | g :: gs, k => by simp [markF, markF_len gs]
theorem endF_cons (k : Int) (g : FileD) (gs : List FileD) : endF k (g :: gs) = endF (k + 2 + g.n) gs := by
  unfold endF usedD
  simp only [List.length_cons, List.map_cons, List.sum_cons]
  omega
theorem markF_snoc : ∀ (l : List FileD) (k : Int) (g : FileD), markF k (l ++ [g]) = markF k l ++ [mkF (endF k l) g]
  | [], k, g => by simp [markF, endF, usedD]
  | x :: l, k, g => by rw [List.cons_append, markF, markF_snoc l, markF, endF_cons]; rfl
theorem endF_snoc (l : List FileD) (k : Int) (g : FileD) : endF k (l ++ [g]) = endF k l + 2 + g.n := by
  unfold endF usedD
  simp only [List.length_append, List.map_append, List.sum_append, List.length_cons, List.length_nil, List.map_cons, List.map_nil, List.sum_cons, List.sum_nil]
  omega
def blkF (f : FileD) : Option Nat := (Value.slice f.A f.n f.c).ownBlock
def SF (F : Option Addr) (n c : Nat) (gs : List FileD) (i : Nat) : Prop := (Value.slice F n c).ownBlock = some i ∨ ∃ f ∈ gs, blkF f = some i
theorem mkF_blk (k : Int) (g : FileD) : blkF (mkF k g) = blkF g := rfl
theorem markF_mem : ∀ (gs : List FileD) (k : Int) (x : FileD), x ∈ markF k gs → ∃ f ∈ gs, blkF f = blkF x
  | [], _, x, h => by cases h
  | g :: gs, k, x, h => by
    rw [markF] at h
    rcases List.mem_cons.1 h with rfl | h
    · exact ⟨g, List.mem_cons_self .., rfl⟩
    · obtain ⟨f, hf, e⟩ := markF_mem gs _ x h
      exact ⟨f, List.mem_cons_of_mem _ hf, e⟩
theorem markF_map : ∀ (gs : List FileD) (k : Int), (markF k gs).map blkF = gs.map blkF
  | [], _ => rfl
  | g :: gs, k => by rw [markF, List.map_cons, List.map_cons, markF_map gs]; rfl
theorem sep_iff (l : List FileD) : l.Pairwise Sep ↔ (l.map blkF).Pairwise (fun a b => ∀ g, a = some g → b ≠ some g) := by
  rw [List.pairwise_map]; exact Iff.rfl
theorem own_setNe {w : World} {base K n : Nat} {E : TypeId} {v : Value} {xs : List Value} (h : w.ownsRow base E K v n xs) (b i : Nat) (x : Value) (hb : v.ownBlock ≠ some b) : (w.setCell ⟨b, i, none⟩ x).ownsRow base E K v n xs :=
  World.ownsRow.kept h (Go.Lib.grownBy_setCell w b i x) (.inr hb)
/-- the files of which the first 't' are marked -/
def partM (k : Int) (gs : List FileD) (t : Nat) : List FileD := markF k (gs.take t) ++ gs.drop t
theorem partM_len (k : Int) (gs : List FileD) (t : Nat) (ht : t ≤ gs.length) : (partM k gs t).length = gs.length := by
  unfold partM; rw [List.length_append, markF_len, List.length_take, List.length_drop]; omega
theorem partM_map (k : Int) (gs : List FileD) (t : Nat) : (partM k gs t).map blkF = gs.map blkF := by
  unfold partM; rw [List.map_append, markF_map, ← List.map_append, List.take_append_drop]
theorem partM_now (k : Int) (gs : List FileD) (t : Nat) (ht : t < gs.length) : partM k gs t = markF k (gs.take t) ++ [gs[t]] ++ gs.drop (t + 1) := by
  unfold partM; rw [List.drop_eq_getElem_cons ht, List.append_assoc]; rfl
theorem partM_next (k : Int) (gs : List FileD) (t : Nat) (ht : t < gs.length) : partM k gs (t + 1) = markF k (gs.take t) ++ [mkF (endF k (gs.take t)) gs[t]] ++ gs.drop (t + 1) := by
  unfold partM; rw [List.take_succ_eq_append_getElem ht, markF_snoc]
theorem endF_le (k : Int) (gs : List FileD) (t : Nat) (ht : t < gs.length) : endF k (gs.take t) + 2 + gs[t].n ≤ endF k gs ∧ k ≤ endF k (gs.take t) := by
  have h1 := used_snoc gs t ht
  have h2 := used_take gs (t + 1)
  unfold endF
  rw [List.length_take]
  constructor
  · omega
  · omega
/-- one file marked: what is owned of the bodies -/
theorem bodies_next {w w1 w2 w3 : World} {base fb i1 i3 : Nat} {v1 v3 : Value} {pre post : List FileD} {g g' : FileD} (hg : blkF g' = blkF g) (h : OwnBs w base (pre ++ [g] ++ post)) (hF : ∀ x ∈ pre ++ [g] ++ post, blkF x ≠ some fb)
    (e1 : w1 = w.setCell ⟨fb, i1, none⟩ v1) (hgr : w1.grownBy w2 (blkF g)) (ho : Own w2 base g'.A g'.n g'.c g'.bytes) (e3 : w3 = w2.setCell ⟨fb, i3, none⟩ v3) :
    OwnBs w3 base (pre ++ [g'] ++ post) := by
  obtain ⟨h1, h2⟩ := h
  have hs : ∀ x, x ∈ pre ∨ x ∈ post → ∀ b, blkF x = some b → blkF g ≠ some b := by
    intro x hx b hb hb'
    rw [List.pairwise_append, List.pairwise_append] at h2
    rcases hx with hx | hx
    · exact h2.1.2.2 x hx g (by simp) b hb hb'
    · exact h2.2.2 g (by simp) x hx b hb' hb
  have hk : ∀ x, x ∈ pre ∨ x ∈ post → Own w3 base x.A x.n x.c x.bytes := by
    intro x hx
    have hm : x ∈ pre ++ [g] ++ post := by rcases hx with hx | hx <;> simp [hx]
    have a1 : Own w1 base x.A x.n x.c x.bytes := by rw [e1]; exact own_setNe (h1 x hm) fb i1 v1 (hF x hm)
    have a2 : Own w2 base x.A x.n x.c x.bytes := World.ownsRow.kept a1 hgr (by
      rcases hb : blkF x with _ | b
      · exact .inl hb
      · exact .inr fun e => hs x hx b hb (e.symm.trans hb))
    have a3 : Own w3 base x.A x.n x.c x.bytes := by rw [e3]; exact own_setNe a2 fb i3 v3 (hF x hm)
    exact a3
  refine ⟨fun x hx => ?_, ?_⟩
  · rcases List.mem_append.1 hx with hx | hx
    · rcases List.mem_append.1 hx with hx | hx
      · exact hk x (.inl hx)
      · rw [List.mem_singleton] at hx; subst hx
        rw [e3]
        exact own_setNe ho fb i3 v3 (by have := hF g (by simp); rw [← hg] at this; exact this)
    · exact hk x (.inr hx)
  · rw [sep_iff] at h2 ⊢
    rw [List.map_append, List.map_append] at h2 ⊢
    simp only [List.map_cons, List.map_nil] at h2 ⊢
    rw [hg]; exact h2
end Go.Proofs.YtfkdfabbpebljaaGreat.DOk
namespace Go.Proofs.YtfkdfabbpebljaaGreat.DOk
open Go.RowKit Go.Proofs.YtfkdfabbpebljaaGreat.Bytes Go.Proofs.YtfkdfabbpebljaaGreat.Rows_
set_option linter.unusedVariables false

/-- a block that holds a disk by value -/
def BoxW (w : World) (b : Nat) (cs : Array Value) : Prop := w.heap[b]? = some (.cells cs 36 (0, 0))
theorem BoxW.lt {w : World} {b : Nat} {cs : Array Value} (h : BoxW w b cs) : b < w.heap.size := (Array.getElem?_eq_some_iff.1 h).1
theorem BoxW.cell {w : World} {b : Nat} {cs : Array Value} (h : BoxW w b cs) (j : Nat) : w.cell? ⟨b, j, none⟩ = cs[j]? := by unfold BoxW at h; simp [World.cell?, h]
theorem BoxW.free {w : World} {b : Nat} {cs : Array Value} (h : BoxW w b cs) (j : Nat) : w.frozen? ⟨b, j, none⟩ = false := by unfold BoxW at h; simp [World.frozen?, h]
theorem BoxW.below {w w' : World} {b B : Nat} {cs : Array Value} (h : BoxW w b cs) (hb : Below B w w') (hB : b < B) : BoxW w' b cs := by unfold BoxW at h ⊢; rw [hb.block b hB]; exact h
theorem BoxW.other {w : World} {b b' j : Nat} {cs : Array Value} {v : Value} (h : BoxW w b cs) (hne : b ≠ b') : BoxW (w.setCell ⟨b', j, none⟩ v) b cs := by
  unfold BoxW at h ⊢; rw [Below.heap_setCell _ _ _ _ hne]; exact h
theorem BoxW.set3 {w : World} {b : Nat} {x0 x1 x2 x3 x4 x5 : Value} (h : BoxW w b #[x0, x1, x2, x3, x4, x5]) (v : Value) : BoxW (w.setCell ⟨b, 3, none⟩ v) b #[x0, x1, x2, v, x4, x5] := by
  unfold BoxW at h ⊢; simp [World.setCell, Array.getElem?_modify, h]
theorem BoxW.set4 {w : World} {b : Nat} {x0 x1 x2 x3 x4 x5 : Value} (h : BoxW w b #[x0, x1, x2, x3, x4, x5]) (v : Value) : BoxW (w.setCell ⟨b, 4, none⟩ v) b #[x0, x1, x2, x3, v, x5] := by
  unfold BoxW at h ⊢; simp [World.setCell, Array.getElem?_modify, h]
theorem BoxW.set5 {w : World} {b : Nat} {x0 x1 x2 x3 x4 x5 : Value} (h : BoxW w b #[x0, x1, x2, x3, x4, x5]) (v : Value) : BoxW (w.setCell ⟨b, 5, none⟩ v) b #[x0, x1, x2, x3, x4, v] := by
  unfold BoxW at h ⊢; simp [World.setCell, Array.getElem?_modify, h]
theorem OwnBs.snocF {w v : World} {base base' : Nat} {gs : List FileD} {g : FileD} (h : OwnBs w base gs) (hb : Below w.heap.size w v) (ho : Own v base' g.A g.n g.c g.bytes) (hB : w.heap.size ≤ base') (hbase : base ≤ base') : OwnBs v base (gs ++ [g]) := by
  refine ⟨fun f hf => ?_, List.pairwise_append.2 ⟨h.2, List.pairwise_singleton _ _, fun a ha b hb' => ?_⟩⟩
  · rcases List.mem_append.1 hf with hf | hf
    · exact (h.1 f hf).below (Nat.le_refl _) hb
    · rw [List.mem_singleton] at hf; subst hf; exact ho.more hbase
  · rw [List.mem_singleton] at hb'; subst hb'
    exact (h.1 a ha).ne_ ho hB
theorem own_set6 {w : World} {base K n : Nat} {E : TypeId} {v : Value} {xs : List Value} {c : Nat} (h : w.ownsRow base E K v n xs) (hc : c < base) (x1 x2 x3 x4 x5 x6 : Value) :
    ((((((w.setCell ⟨c, 0, none⟩ x1).setCell ⟨c, 1, none⟩ x2).setCell ⟨c, 2, none⟩ x3).setCell ⟨c, 3, none⟩ x4).setCell ⟨c, 4, none⟩ x5).setCell ⟨c, 5, none⟩ x6).ownsRow base E K v n xs :=
  own_setK (own_setK (own_setK (own_setK (own_setK (own_setK h c 0 x1 hc) c 1 x2 hc) c 2 x3 hc) c 3 x4 hc) c 4 x5 hc) c 5 x6 hc
theorem OwnBs.more6 {w : World} {base base' c : Nat} {gs : List FileD} (h : OwnBs w base gs) (hc : c < base) (hB : base' ≤ base) (x1 x2 x3 x4 x5 x6 : Value) :
    OwnBs ((((((w.setCell ⟨c, 0, none⟩ x1).setCell ⟨c, 1, none⟩ x2).setCell ⟨c, 2, none⟩ x3).setCell ⟨c, 3, none⟩ x4).setCell ⟨c, 4, none⟩ x5).setCell ⟨c, 5, none⟩ x6) base' gs :=
  ⟨fun f hf => own_moreK (own_set6 (h.1 f hf) hc x1 x2 x3 x4 x5 x6) hB, h.2⟩
theorem OwnBs.nil (w : World) (base : Nat) : OwnBs w base [] := ⟨(fun f hf => by cases hf), List.Pairwise.nil⟩
/-- a store into a row of files leaves the bodies -/
theorem OwnBs.row {w : World} {base b : Nat} {gs : List FileD} {A : Option Addr} {n c : Nat} {xs : List Value} (h : OwnBs w base gs) (hr : w.ownsRow b 58 3 (.slice A n c) n xs) (g j : Nat) (hA : A = some ⟨g, 0, none⟩) (v : Value) : OwnBs (w.setCell ⟨g, j, none⟩ v) base gs :=
  ⟨fun f hf => own_setNe (h.1 f hf) g j v (fun e => own_ne (h.1 f hf) hr (by decide) g e (by subst hA; rfl)), h.2⟩
end Go.Proofs.YtfkdfabbpebljaaGreat.DOk
namespace Go.Proofs.YtfkdfabbpebljaaGreat.DOk
open Go.RowKit Go.Proofs.YtfkdfabbpebljaaGreat.Bytes Go.Proofs.YtfkdfabbpebljaaGreat.Rows_
set_option linter.unusedVariables false

theorem flat_get (K : Nat) (hK : 0 < K) : ∀ (rows : List (List Value)), (∀ r ∈ rows, r.length = K) → ∀ (j : Nat) (u : Value), rows.flatten[j]? = some u → ∃ row, rows[j / K]? = some row ∧ row[j % K]? = some u
  | [], _, j, u, h => by simp at h
  | r :: rs, hr, j, u, h => by
    have hl : r.length = K := hr r (by simp)
    rw [List.flatten_cons] at h
    by_cases hj : j < K
    · rw [List.getElem?_append_left (by omega)] at h
      exact ⟨r, by rw [Nat.div_eq_of_lt hj]; rfl, by rw [Nat.mod_eq_of_lt hj]; exact h⟩
    · rw [List.getElem?_append_right (by omega), hl] at h
      obtain ⟨row, h1, h2⟩ := flat_get K hK rs (fun x hx => hr x (by simp [hx])) (j - K) u h
      have e1 : j / K = (j - K) / K + 1 := by
        have := Nat.add_div_right (j - K) hK
        rw [Nat.sub_add_cancel (by omega)] at this; exact this
      have e2 : (j - K) % K = j % K := by
        have := Nat.add_mod_right (j - K) K
        rw [Nat.sub_add_cancel (by omega)] at this; exact this.symm
      exact ⟨row, by rw [e1, List.getElem?_cons_succ]; exact h1, by rw [← e2]; exact h2⟩
theorem rdK_cells {K : Nat} (hK : 0 < K) {w : World} {B : Nat} {ad : Addr} {rows : List (List Value)} (hr : ∀ r ∈ rows, r.length = K) (h : RdK K w B (some ad) rows) : ∀ j u, rows.flatten[j]? = some u → w.cell? (ad.add j) = some u := by
  intro j u hu
  obtain ⟨row, h1, h2⟩ := flat_get K hK rows hr j u hu
  obtain ⟨b, o, e, _, hc⟩ := h (Nat.lt_of_le_of_lt (Nat.zero_le _) (List.getElem?_eq_some_iff.1 h1).1)
  injection e with e
  subst e
  rw [Addr.add_lit]
  have := hc (j / K) row h1 (j % K) u h2
  rw [Nat.add_assoc, Nat.div_add_mod'] at this
  exact this
theorem own_noneK {w : World} {base K n : Nat} {E : TypeId} {A : Option Addr} {c : Nat} {xs : List Value} (h : w.ownsRow base E K (.slice A n c) n xs) : A = none → n = 0 ∧ c = 0 := by
  intro e
  rcases h.2 with ⟨hv, h0⟩ | ⟨g, cap, cur, hv, _⟩
  · injection hv with _ e2 e3
    exact ⟨e2, e3⟩
  · injection hv with e1
    rw [e] at e1; cases e1
theorem own_blockK {w : World} {base K n : Nat} {E : TypeId} {v : Value} {xs : List Value} (h : w.ownsRow base E K v n xs) : ∀ g, v.ownBlock = some g → base ≤ g := fun g hg => (World.ownsRow.lt h g hg).1

/-- 'out = append(out, src...)', slices of structs -/
theorem append_rows {T E : TypeId} {K bytes : Nat} {zero : Value} (hT : Tryz.prog.underlying T = some (.slice E)) (hinf : (Tryz.prog.info? E).map (fun i => (i.zero, i.size, i.bytes)) = some (some zero, K, bytes)) (hzs : zero.cells.size = K) (hK : 0 < K) (hby : bytes ≤ 48)
    {wr : World} {ops : Array Oper} {rest : List Oper} {o : Oper} {a : Act} {Q : Exit → Act → World → Prop} (hgd : o.guard = none) (s x : Operand) (ho : o.op = .call { callee := .builtin .append, args := #[s, x], argTypes := #[T, T] })
    {base B n c n1 c1 : Nat} {A A1 : Option Addr} {xs : List Value} {rows : List (List Value)} (hs : a.eval s = .slice A n c) (hx : a.eval x = .slice A1 n1 c1)
    (hown : wr.ownsRow base E K (.slice A n c) n xs) (hsrc : RdK K wr B A1 rows) (hrows : ∀ r ∈ rows, r.length = K) (hone : ∀ r ∈ rows, ∀ u ∈ r, u.oneCell' = true) (hA : A1 = none → n1 = 0 ∧ c1 = 0) (hl : rows.length = n1) (hn : n ≤ 1000000000) (hn1 : n1 ≤ 1000000000) (hbase : base ≤ wr.heap.size)
    (h : ∀ A' c' w', w'.ownsRow base E K (.slice A' (n + n1) c') (n + n1) (xs ++ rows.flatten) → Below base wr w' → wr.grownBy w' (Value.slice A n c).ownBlock → wpList Tryz.prog ops Q rest (a.put o.dst (.slice A' (n + n1) c')) w') :
    wpList Tryz.prog ops Q (o :: rest) a wr := by
  obtain ⟨i0, hi, hz0, hz1, hz2⟩ := info_parts hinf
  rcases A1 with _ | ad
  · obtain ⟨rfl, rfl⟩ := hA rfl
    obtain rfl : rows = [] := List.eq_nil_of_length_eq_zero hl
    refine wpList_append_own_none hgd s x T ho base E i0 K hT hi _ _ _ hs hown hx ?_
    have := h A c wr (by simpa using hown) (Below.refl _ _) (World.grownBy.refl _ _)
    simpa using this
  · refine wpList_append_own _ hgd s x T ho base E i0 zero K bytes hT hi hz0 hz1 hz2 hzs hK _ _ _ hs hown ad n1 c1 rows.flatten hx (by rw [flat_len K rows hrows, hl]) (rdK_cells hK hrows hsrc) ?_ ?_ ?_ hbase ?_
    · intro u hu
      obtain ⟨r, hr, hu⟩ := List.mem_flatten.1 hu
      exact hone r hr u hu
    · unfold maxLen; omega
    · have : (n + n1) * bytes ≤ 2000000000 * 48 := Nat.mul_le_mul (by omega) hby
      omega
    · intro v' w' hown' hgrow _
      obtain ⟨A', c', rfl⟩ := own_shapeK hown'
      exact h A' c' w' hown' ((Below.refl _ _).grown hgrow hbase (own_blockK hown)) hgrow
theorem one_link (ks : List LinkD) : ∀ r ∈ ks.map linkR, ∀ u ∈ r, u.oneCell' = true := by
  intro r hr u hu; simp at hr; obtain ⟨a, b, _, rfl⟩ := hr; simp [linkR] at hu; rcases hu with rfl | rfl <;> rfl
theorem one_turn (ks : List TurnD) : ∀ r ∈ ks.map turnR, ∀ u ∈ r, u.oneCell' = true := by
  intro r hr u hu; simp at hr; obtain ⟨a, _, rfl⟩ := hr; simp [turnR] at hu; rcases hu with rfl | rfl | rfl | rfl <;> rfl
theorem one_file (ks : List FileD) : ∀ r ∈ ks.map fileR, ∀ u ∈ r, u.oneCell' = true := by
  intro r hr u hu; simp at hr; obtain ⟨a, _, rfl⟩ := hr; simp [fileR] at hu; rcases hu with rfl | rfl | rfl <;> rfl
end Go.Proofs.YtfkdfabbpebljaaGreat.DOk
namespace Go.Proofs.YtfkdfabbpebljaaGreat.Bytes
open Go.RowKit
set_option linter.unusedVariables false

theorem bv_app (a b : List Int) : bv (a ++ b) = bv a ++ bv b := by simp [bv]
theorem bv_len (a : List Int) : (bv a).length = a.length := by simp [bv]
theorem bv_cell (a : List Int) : ∀ u ∈ bv a, u.oneCell' = true := ints_oneCell _ _
theorem own_shape {w : World} {base : Nat} {e : TypeId} {size : Nat} {v : Value} {n : Nat} {xs : List Value} (h : w.ownsRow base e size v n xs) : ∃ A c, v = .slice A n c := by
  rcases h.2 with ⟨rfl, rfl⟩ | ⟨g, cap, cur, rfl, _⟩
  · exact ⟨none, 0, rfl⟩
  · exact ⟨_, cap, rfl⟩
theorem own_row {w : World} {base : Nat} {v : Value} {n : Nat} {xs : List Int} (h : w.ownsRow base 5 1 v n (bv xs)) : ∃ A c, v = .slice A n c ∧ Own w base A n c xs := by
  obtain ⟨A, c, rfl⟩ := own_shape h
  exact ⟨A, c, rfl, h⟩
theorem own_nil (w : World) (B : Nat) : Own w B none 0 0 [] := World.ownsRow_nil w B _ _
theorem own_block {w : World} {base : Nat} {A : Option Addr} {n c : Nat} {zs : List Int} (h : Own w base A n c zs) : ∀ g, (Value.slice A n c).ownBlock = some g → base ≤ g := fun g hg => (World.ownsRow.lt h g hg).1
theorem own_none {w : World} {base : Nat} {A : Option Addr} {n c : Nat} {zs : List Int} (h : Own w base A n c zs) : A = none → n = 0 ∧ c = 0 := by
  intro e
  rcases h.2 with ⟨hv, h0⟩ | ⟨g, cap, cur, hv, _⟩
  · injection hv with _ e2 e3
    exact ⟨e2, e3⟩
  · injection hv with e1
    rw [e] at e1; cases e1
/-- the cells of a slice that came in, in the append law's own words -/
theorem rd_cells {w : World} {B : Nat} {ad : Addr} {zs : List Int} (h : Rd w B (some ad) zs) : ∀ j u, (bv zs)[j]? = some u → w.cell? (ad.add j) = some u := by
  intro j u hu
  have hj : j < zs.length := by have := (List.getElem?_eq_some_iff.1 hu).1; simpa [bv] using this
  obtain ⟨b, o, e, hlt, hc⟩ := h (by omega)
  injection e with e
  subst e
  rw [Addr.add_lit, hc j hj]
  simpa [bv, hj] using hu

/-- 'out = append(out, z)', one byte, which the walk has laid in a block of its own -/
theorem append_byte {wr : World} {ops : Array Oper} {rest : List Oper} {o : Oper} {a : Act} {Q : Exit → Act → World → Prop} (hgd : o.guard = none) (s x : Operand)
    (ho : o.op = .call { callee := .builtin .append, args := #[s, x], argTypes := #[27, 27] })
    {base n c : Nat} {A : Option Addr} {xs : List Int} {z : Int} (hs : a.eval s = .slice A n c) (hx : a.eval x = .slice (some ⟨wr.heap.size, 0, none⟩) 1 1)
    (hown : Own wr base A n c xs) (hn : n ≤ 2199023255552) (hbase : base ≤ wr.heap.size)
    (h : ∀ A' c' w', Own w' base A' (n + 1) c' (xs ++ [z]) → Below base wr w' → wpList Tryz.prog ops Q rest (a.put o.dst (.slice A' (n + 1) c')) w') :
    wpList Tryz.prog ops Q (o :: rest) a (wr.alloc (.cells #[.int .u8 z] 5)) := by
  obtain ⟨i0, hi, hz0, hz1, hz2⟩ := info_parts Tryzinfo
  refine wpList_append_own _ hgd s x 27 ho base 5 i0 (.int .u8 0) 1 1 Tryz.underlying27 hi hz0 hz1 hz2 rfl (by decide) _ _ _ hs (World.ownsRow.alloc hown _) ⟨wr.heap.size, 0, none⟩ 1 1 (bv [z]) hx rfl ?_ (bv_cell _) ?_ ?_ ?_ ?_
  · intro j u hj
    match j, hj with
    | 0, hj => simp [bv] at hj; subst hj; simp [Addr.add]
  · unfold maxLen; omega
  · omega
  · simp; omega
  · intro v' w' hown' hgrow _
    rw [← bv_app] at hown'
    obtain ⟨A', c', rfl, ho'⟩ := own_row hown'
    exact h A' c' w' ho' (((Below.refl _ _).alloc hbase _).grown hgrow (by simp; omega) (own_block hown))

/-- 'out = append(out, src...)', src whatever reads as a list -/
theorem append_src {wr : World} {ops : Array Oper} {rest : List Oper} {o : Oper} {a : Act} {Q : Exit → Act → World → Prop} (hgd : o.guard = none) (s x : Operand)
    (ho : o.op = .call { callee := .builtin .append, args := #[s, x], argTypes := #[27, 27] })
    {base B n c n1 c1 : Nat} {A A1 : Option Addr} {xs ys : List Int} (hs : a.eval s = .slice A n c) (hx : a.eval x = .slice A1 n1 c1)
    (hown : Own wr base A n c xs) (hsrc : Rd wr B A1 ys) (hA : A1 = none → n1 = 0 ∧ c1 = 0) (hl : ys.length = n1) (hn : n ≤ 2199023255552) (hn1 : n1 ≤ 2199023255552) (hbase : base ≤ wr.heap.size)
    (h : ∀ A' c' w', Own w' base A' (n + n1) c' (xs ++ ys) → Below base wr w' → wpList Tryz.prog ops Q rest (a.put o.dst (.slice A' (n + n1) c')) w') :
    wpList Tryz.prog ops Q (o :: rest) a wr := by
  obtain ⟨i0, hi, hz0, hz1, hz2⟩ := info_parts Tryzinfo
  rcases A1 with _ | ad
  · obtain ⟨rfl, rfl⟩ := hA rfl
    obtain rfl : ys = [] := List.eq_nil_of_length_eq_zero hl
    refine wpList_append_own_none hgd s x 27 ho base 5 i0 1 Tryz.underlying27 hi _ _ _ hs hown hx ?_
    have := h A c wr (by simpa using hown) (Below.refl _ _)
    simpa using this
  · refine wpList_append_own _ hgd s x 27 ho base 5 i0 (.int .u8 0) 1 1 Tryz.underlying27 hi hz0 hz1 hz2 rfl (by decide) _ _ _ hs hown ad n1 c1 (bv ys) hx (by rw [bv_len]; omega) (rd_cells hsrc) (bv_cell _) ?_ ?_ hbase ?_
    · unfold maxLen; omega
    · omega
    · intro v' w' hown' hgrow _
      rw [← bv_app] at hown'
      obtain ⟨A', c', rfl, ho'⟩ := own_row hown'
      exact h A' c' w' ho' ((Below.refl _ _).grown hgrow hbase (own_block hown))
end Go.Proofs.YtfkdfabbpebljaaGreat.Bytes
namespace Go.Proofs.YtfkdfabbpebljaaGreat.Var
open Go.RowKit Go.Proofs.YtfkdfabbpebljaaGreat.Bytes
set_option linter.unusedVariables false

set_option maxRecDepth 100000 in
set_option maxHeartbeats 800000 in
theorem clone_any (A : Option Addr) (n c : Nat) (zs : List Int) (w : World) (hA : A = none → n = 0 ∧ c = 0) (hr : Rd w w.heap.size A zs) (hl : zs.length = n) (hn : n ≤ 1099511627776) :
    Calls Tryz.prog 67 #[.slice A n c] w fun e w' => ∃ A' c', e = .returned (.slice A' n c') ∧ Own w' w.heap.size A' n c' zs ∧ Below w.heap.size w w' := by
  have HL := Lib.hid hl
  have HA := Lib.hid hA
  clear hl hA
  have hown0 : Own (w.alloc (.cells #[] 5)) w.heap.size (some ⟨w.heap.size, 0, none⟩) 0 0 [] := World.ownsRow_lit w #[] 0 (Nat.le_refl _) (by decide) rfl
  have hb0 : Below w.heap.size w (w.alloc (.cells #[] 5)) := (Below.refl w.heap.size w).alloc (Nat.le_refl _) (.cells #[] 5)
  have hr0 := hr.below (Nat.le_refl _) hb0
  rcases A with _ | ad
  · obtain ⟨rfl, rfl⟩ := HA.out rfl
    obtain rfl : zs = [] := List.eq_nil_of_length_eq_zero HL.out
    have hnil := fun W : World => Lib.run_eql_slice_nil (P := Tryz.prog) W 27 5 none 0 0 0 0 Tryz.underlying27
    go_enter Tryz.func67, Tryz.ntmps67
    go_wp2_with fail
    go_ret
    exact ⟨none, 0, rfl, own_nil _ _, Below.refl _ _⟩
  · have hnil := fun W : World => Lib.run_eql_slice_nil (P := Tryz.prog) W 27 5 (some ad) n c 0 0 Tryz.underlying27
    go_enter Tryz.func67, Tryz.ntmps67
    go_wp2_with (at_builtin; refine append_src rfl _ _ rfl rfl rfl hown0 hr0 HA.out HL.out (by omega) (by omega) (by simp) ?_)
    intro A1 c1 w1 ho1 hb1
    have hb2 := hb0.trans hb1
    clear hown0 hb0 hr0 hb1 hr
    go_wp2
    go_ret
    exact ⟨_, _, rfl, by simpa using ho1, hb2⟩
end Go.Proofs.YtfkdfabbpebljaaGreat.Var
namespace Go.Proofs.YtfkdfabbpebljaaGreat.DOk
open Go.RowKit Go.Proofs.YtfkdfabbpebljaaGreat.Bytes Go.Proofs.YtfkdfabbpebljaaGreat.Rows_
set_option linter.unusedVariables false

theorem step_src {wr : World} {ops : Array Oper} {o : Oper} {a : Act} {K : Act → World → Prop} {Q : Exit → Act → World → Prop} {E : Prop} (hgd : o.guard = none) (s x : Operand)
    (ho : o.op = .call { callee := .builtin .append, args := #[s, x], argTypes := #[27, 27] })
    {base B n c n1 c1 : Nat} {A A1 : Option Addr} {xs ys : List Int} (hs : a.eval s = .slice A n c) (hx : a.eval x = .slice A1 n1 c1)
    (hown : Own wr base A n c xs) (hsrc : Rd wr B A1 ys) (hA : A1 = none → n1 = 0 ∧ c1 = 0) (hl : ys.length = n1) (hn : n ≤ 2199023255552) (hn1 : n1 ≤ 2199023255552) (hbase : base ≤ wr.heap.size)
    (h : ∀ A' c' w', Own w' base A' (n + n1) c' (xs ++ ys) → Below base wr w' → K (a.put o.dst (.slice A' (n + n1) c')) w') :
    if Region.wanted o (yielded ops a.tmps) = true then Oper.wp Tryz.prog o a wr K Q else E := by
  have hw : Region.wanted o (yielded ops a.tmps) = true := by simp [Region.wanted, hgd]
  rw [if_pos hw]
  obtain ⟨i0, hi, hz0, hz1, hz2⟩ := info_parts Tryzinfo
  rcases A1 with _ | ad
  · obtain ⟨rfl, rfl⟩ := hA rfl
    obtain rfl : ys = [] := List.eq_nil_of_length_eq_zero hl
    have hrun := run_append_owned_none (P := Tryz.prog) (w := wr) base 27 o.type 5 i0 1 Tryz.underlying27 hi _ n _ hown
    unfold Oper.wp
    simp [execOp, ho, resolve, invoke, builtin, hs, hx, hrun, Result.andThen]
    exact h A c wr (by simpa using hown) (Below.refl _ _)
  · refine wp_append_own wr s x 27 ho base 5 i0 (.int .u8 0) 1 1 Tryz.underlying27 hi hz0 hz1 hz2 rfl (by decide) _ _ _ hs hown ad n1 c1 (bv ys) hx (by rw [bv_len]; omega) (rd_cells hsrc) (bv_cell _) ?_ ?_ hbase ?_
    · unfold maxLen; omega
    · omega
    · intro v' w' hown' hgrow _
      rw [← bv_app] at hown'
      obtain ⟨A', c', rfl, ho'⟩ := own_row hown'
      exact h A' c' w' ho' ((Below.refl _ _).grown hgrow hbase (own_block hown))
theorem step_src0 {wr : World} {ops : Array Oper} {o : Oper} {a : Act} {K : Act → World → Prop} {Q : Exit → Act → World → Prop} {E : Prop} (hgd : o.guard = none) (s x : Operand)
    (ho : o.op = .call { callee := .builtin .append, args := #[s, x], argTypes := #[27, 27] })
    {base B c n1 c1 : Nat} {A A1 : Option Addr} {ys : List Int} (hs : a.eval s = .slice A 0 c) (hx : a.eval x = .slice A1 n1 c1)
    (hown : Own wr base A 0 c []) (hsrc : Rd wr B A1 ys) (hA : A1 = none → n1 = 0 ∧ c1 = 0) (hl : ys.length = n1) (hn1 : n1 ≤ 2199023255552) (hbase : base ≤ wr.heap.size)
    (h : ∀ A' c' w', Own w' base A' n1 c' ys → Below base wr w' → K (a.put o.dst (.slice A' n1 c')) w') :
    if Region.wanted o (yielded ops a.tmps) = true then Oper.wp Tryz.prog o a wr K Q else E :=
  step_src hgd s x ho hs hx hown hsrc hA hl (by omega) hn1 hbase fun A' c' w' h1 h2 => by
    rw [Nat.zero_add]
    refine h A' c' w' ?_ h2
    rw [List.nil_append, Nat.zero_add] at h1; exact h1
theorem OwnBs.grow {w w' : World} {base b n : Nat} {gs : List FileD} {v : Value} {xs : List Value} (h : OwnBs w base gs) (hr : w.ownsRow b 58 3 v n xs) (hg : w.grownBy w' v.ownBlock) : OwnBs w' base gs :=
  ⟨fun f hf => World.ownsRow.kept (h.1 f hf) hg (by
    rcases hb : (Value.slice f.A f.n f.c).ownBlock with _ | c
    · exact .inl rfl
    · exact .inr fun e => own_ne (h.1 f hf) hr (by decide) c hb e.symm), h.2⟩
theorem step_file {wr : World} {ops : Array Oper} {o : Oper} {a : Act} {K : Act → World → Prop} {Q : Exit → Act → World → Prop} {E : Prop} (hgd : o.guard = none) (s x : Operand)
    (ho : o.op = .call { callee := .builtin .append, args := #[s, x], argTypes := #[32, 32] })
    {base n c : Nat} {A : Option Addr} {gs : List FileD} {g : FileD} (hs : a.eval s = .slice A n c) (H : Nat) (hH : wr.heap.size = H) (hx : a.eval x = .slice (some ⟨H, 0, none⟩) 1 1)
    (hown : OwnF wr base A n c gs) (hn : n ≤ 1000000000) (hbase : base ≤ wr.heap.size)
    (h : ∀ A' c' w', OwnF w' base A' (n + 1) c' (gs ++ [g]) → Below base wr w' → wr.grownBy w' (Value.slice A n c).ownBlock → K (a.put o.dst (.slice A' (n + 1) c')) w') :
    if Region.wanted o (yielded ops a.tmps) = true then Oper.wp Tryz.prog o a (wr.alloc (.cells #[.int .i64 g.id, .slice g.A g.n g.c, .int .i64 g.safe] 58)) K Q else E := by
  have hw : Region.wanted o (yielded ops a.tmps) = true := by simp [Region.wanted, hgd]
  rw [if_pos hw]
  subst hH
  obtain ⟨i0, hi, hz0, hz1, hz2⟩ := info_parts fileInfo
  refine wp_append_own _ s x 32 ho base 58 i0 (.agg #[.int .i64 0, .slice none 0 0, .int .i64 0]) 3 40 Tryz.underlying32 hi hz0 hz1 hz2 rfl (by decide) _ _ _ hs (World.ownsRow.alloc hown _) ⟨wr.heap.size, 0, none⟩ 1 1 [.int .i64 g.id, .slice g.A g.n g.c, .int .i64 g.safe] hx rfl
    (World.news_of_block (cs := #[.int .i64 g.id, .slice g.A g.n g.c, .int .i64 g.safe]) (t := 58) (fr := (0, 0)) (heap_alloc_new wr _)) (by intro u hu; simp at hu; rcases hu with rfl | rfl | rfl <;> rfl) ?_ ?_ ?_ ?_
  · unfold maxLen; omega
  · omega
  · simp; omega
  · intro v' w' hown' hgrow _
    have e : (gs.map fileR).flatten ++ [.int .i64 g.id, .slice g.A g.n g.c, .int .i64 g.safe] = ((gs ++ [g]).map fileR).flatten := by simp [fileR]
    rw [e] at hown'
    obtain ⟨A', c', rfl⟩ := own_shapeK hown'
    exact h A' c' w' hown' (((Below.refl _ _).alloc hbase _).grown hgrow (by simp; omega) (own_blockK hown)) (grown_trans (World.grownBy_alloc wr _ _) hgrow)
end Go.Proofs.YtfkdfabbpebljaaGreat.DOk
namespace Go.Proofs.YtfkdfabbpebljaaGreat.DOk
open Go.RowKit Go.Proofs.YtfkdfabbpebljaaGreat.Bytes Go.Proofs.YtfkdfabbpebljaaGreat.Rows_
set_option linter.unusedVariables false

set_option maxRecDepth 100000 in
set_option maxHeartbeats 800000 in
theorem cloneF_any (A : Option Addr) (n c : Nat) (fs : List FileD) (w : World) (hA : A = none → n = 0 ∧ c = 0) (hr : RdF w w.heap.size A fs) (hl : fs.length = n) (hn : n ≤ 2097152) :
    Calls Tryz.prog 66 #[.slice A n c] w fun e w' => ∃ A' c', e = .returned (.slice A' n c') ∧ OwnF w' w.heap.size A' n c' fs ∧ Below w.heap.size w w' := by
  have HL := Lib.hid hl
  have HA := Lib.hid hA
  clear hl hA
  have hown0 := own_empty w 58 3
  have hb0 : Below w.heap.size w (w.alloc (.cells #[] 58)) := (Below.refl w.heap.size w).alloc (Nat.le_refl _) (.cells #[] 58)
  have hr0 : RdK 3 (w.alloc (.cells #[] 58)) w.heap.size A (fs.map fileR) := hr.below (Nat.le_refl _) hb0
  rcases A with _ | ad
  · obtain ⟨rfl, rfl⟩ := HA.out rfl
    obtain rfl : fs = [] := List.eq_nil_of_length_eq_zero HL.out
    have hnil := fun W : World => Lib.run_eql_slice_nil (P := Tryz.prog) W 32 58 none 0 0 0 0 Tryz.underlying32
    go_enter Tryz.func66, Tryz.ntmps66
    go_wp2_with fail
    go_ret
    exact ⟨none, 0, rfl, World.ownsRow_nil w _ _ _, Below.refl _ _⟩
  · have hnil := fun W : World => Lib.run_eql_slice_nil (P := Tryz.prog) W 32 58 (some ad) n c 0 0 Tryz.underlying32
    go_enter Tryz.func66, Tryz.ntmps66
    go_wp2_with (at_builtin; refine append_rows Tryz.underlying32 fileInfo rfl (by decide) (by decide) rfl _ _ rfl rfl rfl hown0 hr0 (file_len _) (one_file _) HA.out (by rw [List.length_map]; exact HL.out) (by omega) (by omega) (by simp) ?_)
    intro A1 c1 w1 ho1 hb1 _
    have HO1 := Lib.hid (show OwnF w1 w.heap.size A1 n c1 fs by unfold OwnF; simpa using ho1)
    have HB2 := Lib.hid (hb0.trans hb1)
    clear hown0 hb0 hr0 hb1 hr ho1
    go_wp2_with fail
    go_ret
    exact ⟨_, _, rfl, HO1.out, HB2.out⟩

set_option maxRecDepth 100000 in
set_option maxHeartbeats 800000 in
theorem cloneL_any (A : Option Addr) (n c : Nat) (ks : List LinkD) (w : World) (hA : A = none → n = 0 ∧ c = 0) (hr : RdL w w.heap.size A ks) (hl : ks.length = n) (hn : n ≤ 2097152) :
    Calls Tryz.prog 68 #[.slice A n c] w fun e w' => ∃ A' c', e = .returned (.slice A' n c') ∧ OwnL w' w.heap.size A' n c' ks ∧ Below w.heap.size w w' := by
  have HL := Lib.hid hl
  have HA := Lib.hid hA
  clear hl hA
  have hown0 := own_empty w 86 2
  have hb0 : Below w.heap.size w (w.alloc (.cells #[] 86)) := (Below.refl w.heap.size w).alloc (Nat.le_refl _) (.cells #[] 86)
  have hr0 : RdK 2 (w.alloc (.cells #[] 86)) w.heap.size A (ks.map linkR) := hr.below (Nat.le_refl _) hb0
  rcases A with _ | ad
  · obtain ⟨rfl, rfl⟩ := HA.out rfl
    obtain rfl : ks = [] := List.eq_nil_of_length_eq_zero HL.out
    have hnil := fun W : World => Lib.run_eql_slice_nil (P := Tryz.prog) W 33 86 none 0 0 0 0 Tryz.underlying33
    go_enter Tryz.func68, Tryz.ntmps68
    go_wp2_with fail
    go_ret
    exact ⟨none, 0, rfl, World.ownsRow_nil w _ _ _, Below.refl _ _⟩
  · have hnil := fun W : World => Lib.run_eql_slice_nil (P := Tryz.prog) W 33 86 (some ad) n c 0 0 Tryz.underlying33
    go_enter Tryz.func68, Tryz.ntmps68
    go_wp2_with (at_builtin; refine append_rows Tryz.underlying33 linkInfo' rfl (by decide) (by decide) rfl _ _ rfl rfl rfl hown0 hr0 (link_len _) (one_link _) HA.out (by rw [List.length_map]; exact HL.out) (by omega) (by omega) (by simp) ?_)
    intro A1 c1 w1 ho1 hb1 _
    have HO1 := Lib.hid (show OwnL w1 w.heap.size A1 n c1 ks by unfold OwnL; simpa using ho1)
    have HB2 := Lib.hid (hb0.trans hb1)
    clear hown0 hb0 hr0 hb1 hr ho1
    go_wp2_with fail
    go_ret
    exact ⟨_, _, rfl, HO1.out, HB2.out⟩

set_option maxRecDepth 100000 in
set_option maxHeartbeats 800000 in
theorem cloneT_any (A : Option Addr) (n c : Nat) (ts : List TurnD) (w : World) (hA : A = none → n = 0 ∧ c = 0) (hr : RdT w w.heap.size A ts) (hl : ts.length = n) (hn : n ≤ 2097152) :
    Calls Tryz.prog 69 #[.slice A n c] w fun e w' => ∃ A' c', e = .returned (.slice A' n c') ∧ OwnT w' w.heap.size A' n c' ts ∧ Below w.heap.size w w' := by
  have HL := Lib.hid hl
  have HA := Lib.hid hA
  clear hl hA
  have hown0 := own_empty w 60 4
  have hb0 : Below w.heap.size w (w.alloc (.cells #[] 60)) := (Below.refl w.heap.size w).alloc (Nat.le_refl _) (.cells #[] 60)
  have hr0 : RdK 4 (w.alloc (.cells #[] 60)) w.heap.size A (ts.map turnR) := hr.below (Nat.le_refl _) hb0
  rcases A with _ | ad
  · obtain ⟨rfl, rfl⟩ := HA.out rfl
    obtain rfl : ts = [] := List.eq_nil_of_length_eq_zero HL.out
    have hnil := fun W : World => Lib.run_eql_slice_nil (P := Tryz.prog) W 34 60 none 0 0 0 0 Tryz.underlying34
    go_enter Tryz.func69, Tryz.ntmps69
    go_wp2_with fail
    go_ret
    exact ⟨none, 0, rfl, World.ownsRow_nil w _ _ _, Below.refl _ _⟩
  · have hnil := fun W : World => Lib.run_eql_slice_nil (P := Tryz.prog) W 34 60 (some ad) n c 0 0 Tryz.underlying34
    go_enter Tryz.func69, Tryz.ntmps69
    go_wp2_with (at_builtin; refine append_rows Tryz.underlying34 turnInfo rfl (by decide) (by decide) rfl _ _ rfl rfl rfl hown0 hr0 (turn_len _) (one_turn _) HA.out (by rw [List.length_map]; exact HL.out) (by omega) (by omega) (by simp) ?_)
    intro A1 c1 w1 ho1 hb1 _
    have HO1 := Lib.hid (show OwnT w1 w.heap.size A1 n c1 ts by unfold OwnT; simpa using ho1)
    have HB2 := Lib.hid (hb0.trans hb1)
    clear hown0 hb0 hr0 hb1 hr ho1
    go_wp2_with fail
    go_ret
    exact ⟨_, _, rfl, HO1.out, HB2.out⟩

end Go.Proofs.YtfkdfabbpebljaaGreat.DOk
namespace Go.Proofs.YtfkdfabbpebljaaGreat.Bytes
open Go.RowKit
set_option linter.unusedVariables false

set_option maxRecDepth 100000 in
set_option maxHeartbeats 800000 in
theorem markByteS_any (A : Option Addr) (n c : Nat) (base : Nat) (zs : List Int) (k : Int) (w : World) (ho : Own w base A n c zs) (hn : n ≤ 1099511627776) (h0 : 0 ≤ k) (h1 : k ≤ 1099511627776) :
    Calls Tryz.prog 45 #[.slice A n c, .int .i64 k] w fun e w' => e = .returned (.int .i64 (k + n)) ∧ Own w' base A n c (marks n k) ∧ w.grownBy w' (Value.slice A n c).ownBlock := by
  have hl := Lib.hid ho.len
  go_enter Tryz.func45, Tryz.ntmps45
  go_wp2
  go_loopw [1, 5] (fun m i wr => ∃ t : Nat, t ≤ n ∧ i = .int .i64 t ∧ m = .int .i64 (k + t) ∧ Own wr base A n c (mpart zs n k t) ∧ w.grownBy wr (Value.slice A n c).ownBlock) (fun _ i _ => n - (intOf i).toNat)
  case atStart => exact ⟨0, Nat.zero_le _, rfl, by go_num, by simpa [mpart] using ho, World.grownBy.refl _ _⟩
  case round =>
    obtain ⟨t, ht, rfl, rfl, ho, hg⟩ := hrel
    by_cases hlt : t < n
    · obtain ⟨g, rfl, hbg, hgl⟩ := ho.head (by omega)
      obtain ⟨hc, hf⟩ := ho.spot hlt
      have hs := ho.stored t ((k + (t : Int)) % 256)
      rw [mpart_set k hl.out hlt] at hs
      have HS := Lib.hid hs.1
      have HG := Lib.hid (grown_trans hg hs.2)
      clear hs hg ho
      generalize (mpart zs n k t).getD t 0 = z at *
      go_wp2
      exact ⟨⟨t + 1, by omega, by go_num, by go_num, HS.out, HG.out⟩, by simp [intOf]; omega⟩
    · obtain rfl : n = t := by omega
      rw [mpart_end k hl.out] at ho
      go_wp2
      go_ret
      exact ⟨ret_int rfl, ho, hg⟩

set_option maxRecDepth 100000 in
set_option maxHeartbeats 800000 in
theorem heldByteS_any (A : Option Addr) (n c : Nat) (k : Int) (w : World) (hr : Rd w w.heap.size A (marks n k)) (hn : n ≤ 1099511627776) (h0 : 0 ≤ k) (h1 : k ≤ 1099511627776) :
    Calls Tryz.prog 79 #[.slice A n c, .int .i64 k] w fun e w' => e = .returned (.int .i64 (k + n)) ∧ w = w' := by
  go_enter Tryz.func79, Tryz.ntmps79
  go_wp2
  go_loop [1, 5] (fun m i => ∃ t : Nat, t ≤ n ∧ i = .int .i64 t ∧ m = .int .i64 (k + t)) (fun _ i => n - (intOf i).toNat)
  case atStart => exact ⟨0, Nat.zero_le _, rfl, by go_num⟩
  case round =>
    obtain ⟨t, ht, rfl, rfl⟩ := hrel
    by_cases hlt : t < n
    · obtain ⟨b, o, rfl, hB, hc⟩ := hr.at_ (k := t) (by rw [marks_len]; exact hlt)
      rw [marks_at k hlt] at hc
      have hne : ((k + (t : Int)) % 256 != (k + (t : Int)) % 256) = false := by simp
      clear hr
      go_wp2
      exact ⟨⟨t + 1, by omega, by go_num, by go_num⟩, by simp [intOf]; omega⟩
    · obtain rfl : n = t := by omega
      go_wp2
      go_ret
      exact ⟨ret_int rfl, rfl⟩
end Go.Proofs.YtfkdfabbpebljaaGreat.Bytes

namespace Go.Proofs.YtfkdfabbpebljaaGreat.DOk
open Go.RowKit Go.Proofs.YtfkdfabbpebljaaGreat.Bytes Go.Proofs.YtfkdfabbpebljaaGreat.Rows_
set_option linter.unusedVariables false


set_option maxRecDepth 100000 in
set_option maxHeartbeats 3200000 in
theorem markFileS_any (F : Option Addr) (n c base : Nat) (gs : List FileD) (k : Int) (w : World) (ho : OwnF w base F n c gs) (hl : gs.length = n) (hbs : OwnBs w base gs) (h0 : 0 ≤ k) (h1 : endF k gs ≤ 1099511627776) :
    Calls Tryz.prog 42 #[.slice F n c, .int .i64 k] w fun e w' => e = .returned (.int .i64 (endF k gs)) ∧ OwnF w' base F n c (markF k gs) ∧ OwnBs w' base (markF k gs) ∧ Only (SF F n c gs) w w' := by
  have HL := Lib.hid hl
  have HLE := Lib.hid (endF_le k gs)
  have hn : n ≤ 1099511627776 := by unfold endF at h1; omega
  have H1 := Lib.hid h1
  clear hl h1
  go_enter Tryz.func42, Tryz.ntmps42
  go_wp2_with fail
  go_loopw [1, 5] (fun m i wr => ∃ t : Nat, t ≤ n ∧ i = .int .i64 t ∧ m = .int .i64 (endF k (gs.take t)) ∧ OwnF wr base F n c (partM k gs t) ∧ OwnBs wr base (partM k gs t) ∧ Only (SF F n c gs) w wr) (fun _ i _ => n - (intOf i).toNat)
  case atStart => exact ⟨0, Nat.zero_le _, rfl, by simp [endF, usedD], by simpa [partM, markF] using ho, by simpa [partM, markF] using hbs, Only.refl _ _⟩
  case round =>
    clear ho hbs
    obtain ⟨t, ht, rfl, rfl, ho, hbs, hon⟩ := hrel
    by_cases hlt : t < n
    · have hlt' : t < gs.length := by rw [HL.out]; exact hlt
      obtain ⟨l1, l2⟩ := HLE.out t hlt'
      have l3 := H1.out
      have HN := Lib.hid (partM_next k gs t hlt')
      have HE := Lib.hid (show endF k (gs.take (t + 1)) = endF k (gs.take t) + 2 + gs[t].n by rw [List.take_succ_eq_append_getElem hlt', endF_snoc])
      have HP := Lib.hid (show (markF k (gs.take t)).length = t by rw [markF_len, List.length_take]; omega)
      rw [partM_now k gs t hlt'] at ho hbs
      have HG := Lib.hid (show ∀ i, blkF gs[t] = some i → SF F n c gs i from fun i hi => .inr ⟨_, List.getElem_mem hlt', hi⟩)
      generalize gs[t] = g at *
      generalize markF k (gs.take t) = pre at *
      generalize gs.drop (t + 1) = post at *
      have l4 : endF k (gs.take t) + 2 + g.n ≤ 1099511627776 := by omega
      have l5 : 0 ≤ endF k (gs.take t) := by omega
      generalize endF k (gs.take t) = kt at *
      obtain ⟨fb, rfl⟩ : ∃ fb, F = some ⟨fb, 0, none⟩ := by
        rcases ho.2 with ⟨_, h⟩ | ⟨fb, _, _, h, _⟩
        · omega
        · injection h with h; exact ⟨fb, h⟩
      have hF : ∀ x ∈ pre ++ [g] ++ post, blkF x ≠ some fb := fun x hx e => own_ne (hbs.1 x hx) ho (by decide) fb e rfl
      have hgF : blkF g ≠ some fb := hF g (by simp)
      have HF := Lib.hid hF
      have hrow : (pre ++ [g] ++ post).map fileR = pre.map fileR ++ [[Value.int .i64 g.id, Value.slice g.A g.n g.c, Value.int .i64 g.safe]] ++ post.map fileR := by simp [fileR]
      unfold OwnF at ho
      rw [hrow] at ho
      have ho1 := row3a (.int .i64 kt) (file_len pre) t (by rw [List.length_map]; exact HP.out) ho
      have hb1 : Own (wr.setCell ⟨fb, t * 3, none⟩ (.int .i64 kt)) base g.A g.n g.c g.bytes := own_setNe (hbs.1 g (by simp)) fb (t * 3) _ hgF
      obtain ⟨u0, hu0⟩ := own_there ho (t * 3) (by omega)
      have hf0 := World.ownsRow.frozenAt (h := ho) (t * 3)
      have hr : ∀ r ∈ pre.map fileR ++ [[Value.int .i64 g.id, Value.slice g.A g.n g.c, Value.int .i64 g.safe]] ++ post.map fileR, r.length = 3 := by rw [← hrow]; exact file_len _
      have hc1 : wr.cell? ⟨fb, t * 3 + 1, none⟩ = some (.slice g.A g.n g.c) := by
        rw [World.ownsRow.cellAt (h := ho) (t * 3 + 1) (by omega)]
        exact flat_at 3 _ hr t [Value.int .i64 g.id, Value.slice g.A g.n g.c, Value.int .i64 g.safe] (by rw [List.append_assoc, List.getElem?_append_right (by rw [List.length_map, HP.out]; exact Nat.le_refl _), List.length_map, HP.out]; simp) 1 _ rfl
      have HM := Lib.hid (markByteS_any g.A g.n g.c base g.bytes (kt + 1) _ hb1 (by omega) (by omega) (by omega))
      have HO1 := Lib.hid ho1
      have HB := Lib.hid hbs
      have HON := Lib.hid hon
      clear ho ho1 hb1 hbs hon hr hrow hF hgF
      have HBF := Lib.hid (show blkF g = (Value.slice g.A g.n g.c).ownBlock from rfl)
      go_wp2_with fail
      refine HM.out.mono ?_
      rintro e v ⟨rfl, hom, hgr⟩
      have HO2 := Lib.hid (World.ownsRow.kept HO1.out hgr (.inr (by intro e; exact HF.out g (by simp) e.symm)))
      obtain ⟨u2, hu2⟩ := own_there HO2.out (t * 3 + 2) (by omega)
      have hf2 := World.ownsRow.frozenAt (h := HO2.out) (t * 3 + 2)
      have HOM := Lib.hid hom
      have HGR := Lib.hid hgr
      clear hom hgr
      go_wp2_with fail
      refine ⟨⟨t + 1, by omega, by go_num, ?_, ?_, ?_, ?_⟩, by simp [intOf]; omega⟩
      · rw [HE.out]; go_num
      · have h := row3c (.int .i64 (kt + 1 + g.n)) (file_len pre) t (by rw [List.length_map]; exact HP.out) HO2.out
        rw [HN.out]
        unfold OwnF
        rw [List.map_append, List.map_append]
        exact h
      · rw [HN.out]
        exact bodies_next (mkF_blk kt g) HB.out HF.out rfl HGR.out HOM.out rfl
      · refine HON.out.trans (Only.trans (Only.grown (Go.Lib.grownBy_setCell wr fb (t * 3) _) (fun i hi => .inl hi)) (Only.trans (Only.grown HGR.out (fun i hi => HG.out i hi)) (Only.grown (Go.Lib.grownBy_setCell v fb (t * 3 + 2) _) (fun i hi => .inl hi))))
    · obtain rfl : n = t := by omega
      have e : gs.take n = gs := List.take_of_length_le (by rw [HL.out]; exact Nat.le_refl _)
      have e2 : partM k gs n = markF k gs := by unfold partM; rw [e, List.drop_of_length_le (by rw [HL.out]; exact Nat.le_refl _), List.append_nil]
      rw [e2] at ho hbs
      rw [e]
      have HO := Lib.hid ho
      have HB := Lib.hid hbs
      have HON := Lib.hid hon
      clear ho hbs hon e e2
      go_wp2_with fail
      go_ret
      exact ⟨rfl, HO.out, HB.out, HON.out⟩
end Go.Proofs.YtfkdfabbpebljaaGreat.DOk
namespace Go.Proofs.YtfkdfabbpebljaaGreat.Mt
open Go.RowKit
set_option linter.unusedVariables false

/-! ### markText: the text of a mark -/
def dg (m : Nat) : ByteArray := if m = 0 then ⟨#[]⟩ else ⟨(Lib.decDigits m).toArray⟩
def mt (k : Nat) : ByteArray := ⟨#[109]⟩ ++ dg k
theorem dg_step {m : Nat} (h : 0 < m) (out : ByteArray) : dg m ++ out = dg (m / 10) ++ (strOfNums [(48 + (m : Int) % 10)] ++ out) := by
  have e : (48 + (m : Int) % 10).toNat = 48 + m % 10 := by omega
  have e3 : strOfNums [(48 + (m : Int) % 10)] = ⟨#[UInt8.ofNat (48 + m % 10)]⟩ := by unfold strOfNums; simp only [List.map_cons, List.map_nil, e]
  rw [← ByteArray.append_assoc]
  congr 1
  rw [e3]
  unfold dg
  rw [if_neg (by omega), Lib.decDigits]
  split
  · rename_i h10
    rw [if_pos (by omega), show m % 10 = m by omega]
    apply ByteArray.ext; simp
  · rw [if_neg (by omega)]
    apply ByteArray.ext; simp [ByteArray.data_append]
theorem dg_len (k : Nat) : ∀ m, m < 10 ^ k → (dg m).size ≤ k := by
  induction k with
  | zero => intro m h; have : m = 0 := by omega
            subst this; decide
  | succ k ih =>
    intro m h
    by_cases h0 : m = 0
    · subst h0; unfold dg; rw [if_pos rfl]; exact Nat.zero_le _
    · have e := congrArg ByteArray.size (dg_step (m := m) (by omega) ⟨#[]⟩)
      rw [ByteArray.size_append, ByteArray.size_append, ByteArray.size_append, strOfNums_size] at e
      have h2 : m / 10 < 10 ^ k := by rw [Nat.pow_succ] at h; omega
      have := ih (m / 10) h2
      have z : (⟨#[]⟩ : ByteArray).size = 0 := rfl
      simp only [List.length_cons, List.length_nil] at e
      omega
set_option maxRecDepth 100000 in
theorem one_run (W : World) (g : Nat) (z : Int) (h : W.cell? ⟨g, 0, none⟩ = some (.int .u8 z)) :
    (convert 27 9 (.slice (some ⟨g, 0, none⟩) 1 1)).run Tryz.prog W = .ok (.string (strOfNums [z])) W :=
  run_convert_bytes_arg W 27 5 Tryz.underlying27 Tryz.underlying5 g 0 1 1 [z] rfl (fun i hi => by
    obtain rfl : i = 0 := by omega
    simpa using h) 9 Tryz.underlying9

set_option maxRecDepth 100000 in
set_option maxHeartbeats 1600000 in
theorem mark_text (k : Nat) (w : World) (h1 : 1 ≤ k) (h2 : k ≤ 1099511627776) :
    Calls Tryz.prog 78 #[.int .i64 k] w fun e w' => e = .returned (.string (mt k)) ∧ Below w.heap.size w w' := by
  have hsz0 := Lib.hid (dg_len 13 k (by omega))
  go_enter Tryz.func78, Tryz.ntmps78
  go_wp2_with fail
  go_loopw [0, 3] (fun i v wr => ∃ (m : Nat) (out : ByteArray), i = .int .i64 m ∧ m ≤ k ∧ v = .string out ∧ dg m ++ out = dg k ∧ Below w.heap.size w wr) (fun i _ _ => (intOf i).toNat)
  case atStart => exact ⟨k, ⟨#[]⟩, rfl, Nat.le_refl _, rfl, by apply ByteArray.ext; simp [ByteArray.data_append], Below.refl _ _⟩
  case round =>
    obtain ⟨m, out, rfl, hm, rfl, he, hb⟩ := hrel
    have hos : out.size ≤ 13 := by have hsz := hsz0.out; rw [← he, ByteArray.size_append] at hsz; omega
    by_cases h0 : 0 < m
    · have hcv := fun W g => one_run W g (48 + (m : Int) % 10)
      have hadd := fun W : World => run_string_add_sum (P := Tryz.prog) W (strOfNums [48 + (m : Int) % 10]) out (by rw [strOfNums_size]; simp; omega)
      have HE := Lib.hid (show dg (m / 10) ++ (strOfNums [48 + (m : Int) % 10] ++ out) = dg k by rw [← dg_step h0]; exact he)
      have hbs := hb.size
      have HB := Lib.hid (fun o => hb.alloc hbs o)
      clear he hb hbs
      go_wp2_with fail
      exact ⟨⟨m / 10, _, by go_num, by omega, rfl, HE.out, HB.out _⟩, by simp [intOf]; omega⟩
    · obtain rfl : m = 0 := by omega
      have he0 : out = dg k := by
        rw [← he]; apply ByteArray.ext; simp [dg, ByteArray.data_append]
      have hadd := fun W : World => run_string_add_sum (P := Tryz.prog) W ⟨#[109]⟩ out (by have : (⟨#[109]⟩ : ByteArray).size = 1 := rfl; omega)
      have HE := Lib.hid he0
      have HB := Lib.hid hb
      clear he he0 hb
      go_wp2_with fail
      go_ret
      exact ⟨by rw [HE.out]; rfl, HB.out⟩
end Go.Proofs.YtfkdfabbpebljaaGreat.Mt
namespace Go.Proofs.YtfkdfabbpebljaaGreat.DOk
open Go.RowKit Go.Proofs.YtfkdfabbpebljaaGreat.Bytes Go.Proofs.YtfkdfabbpebljaaGreat.Rows_
open Go.Proofs.YtfkdfabbpebljaaGreat.Mt (mt mark_text)
set_option linter.unusedVariables false

theorem Only.below {S : Nat → Prop} {w w' : World} {B : Nat} (h : Below B w w') (hB : w.heap.size ≤ B) : Only S w w' := ⟨h.os, h.tape, h.output, h.size, fun i hi _ => h.block i (Nat.lt_of_lt_of_le hi hB)⟩
theorem rowJ {w : World} {base g n c K : Nat} {E : TypeId} {pre post : List (List Value)} {z : List Value} (hz : z.length = K) (hpre : ∀ r ∈ pre, r.length = K) (k : Nat) (hk : pre.length = k) (j : Nat) (hj : j < K) (v : Value)
    (h : w.ownsRow base E K (.slice (some ⟨g, 0, none⟩) n c) n (pre ++ [z] ++ post).flatten) : (w.setCell ⟨g, k * K + j, none⟩ v).ownsRow base E K (.slice (some ⟨g, 0, none⟩) n c) n (pre ++ [z.set j v] ++ post).flatten := by
  have hl : pre.flatten.length = k * K := by rw [flat_len K pre hpre, hk]
  have h1 := (World.ownsRow.stored (h := h) (k * K + j) v).1
  rw [flat3, set_mid _ _ _ _ j hl (by rw [hz]; exact hj)] at h1
  rw [flat3]; exact h1
def SK (A : Option Addr) (n c : Nat) (i : Nat) : Prop := (Value.slice A n c).ownBlock = some i
theorem own_addr {w : World} {base K n c : Nat} {E : TypeId} {A : Option Addr} {xs : List Value} (h : w.ownsRow base E K (.slice A n c) n xs) (hn : 0 < n) : ∃ g, A = some ⟨g, 0, none⟩ := by
  rcases h.2 with ⟨_, h⟩ | ⟨fb, _, _, h, _⟩
  · omega
  · injection h with h; exact ⟨fb, h⟩

/-! ### links -/
def markL : Nat → List LinkD → List LinkD
  | _, [] => []
  | k, _ :: ks => (mt k, ((k + 1 : Nat) : Int)) :: markL (k + 2) ks
theorem markL_len : ∀ (ks : List LinkD) (k : Nat), (markL k ks).length = ks.length
  | [], _ => rfl
  | x :: ks, k => by simp [markL, markL_len ks]
theorem markL_snoc : ∀ (l : List LinkD) (k : Nat) (x : LinkD), markL k (l ++ [x]) = markL k l ++ [(mt (k + 2 * l.length), ((k + 2 * l.length + 1 : Nat) : Int))]
  | [], k, x => rfl
  | y :: l, k, x => by
    rw [List.cons_append, markL, markL_snoc l, markL, List.length_cons, show k + 2 + 2 * l.length = k + 2 * (l.length + 1) by omega]; rfl
def partK (k : Nat) (ks : List LinkD) (t : Nat) : List LinkD := markL k (ks.take t) ++ ks.drop t
theorem partK_now (k : Nat) (ks : List LinkD) (t : Nat) (ht : t < ks.length) : partK k ks t = markL k (ks.take t) ++ [ks[t]] ++ ks.drop (t + 1) := by
  unfold partK; rw [List.drop_eq_getElem_cons ht, List.append_assoc]; rfl
theorem partK_next (k : Nat) (ks : List LinkD) (t : Nat) (ht : t < ks.length) : partK k ks (t + 1) = markL k (ks.take t) ++ [(mt (k + 2 * t), ((k + 2 * t + 1 : Nat) : Int))] ++ ks.drop (t + 1) := by
  unfold partK; rw [List.take_succ_eq_append_getElem ht, markL_snoc, List.length_take, Nat.min_eq_left (Nat.le_of_lt ht)]

set_option maxRecDepth 100000 in
set_option maxHeartbeats 3200000 in
theorem markLinkS_any (A : Option Addr) (n c base : Nat) (ks : List LinkD) (k : Nat) (w : World) (ho : OwnL w base A n c ks) (hl : ks.length = n) (h0 : 1 ≤ k) (h1 : k + 2 * n ≤ 1099511627776) :
    Calls Tryz.prog 43 #[.slice A n c, .int .i64 k] w fun e w' => e = .returned (.int .i64 ((k + 2 * n : Nat) : Int)) ∧ OwnL w' base A n c (markL k ks) ∧ Only (SK A n c) w w' := by
  have HL := Lib.hid hl
  clear hl
  go_enter Tryz.func43, Tryz.ntmps43
  go_wp2_with fail
  go_loopw [1, 5] (fun m i wr => ∃ t : Nat, t ≤ n ∧ i = .int .i64 t ∧ m = .int .i64 ((k + 2 * t : Nat) : Int) ∧ OwnL wr base A n c (partK k ks t) ∧ Only (SK A n c) w wr) (fun _ i _ => n - (intOf i).toNat)
  case atStart => exact ⟨0, Nat.zero_le _, rfl, rfl, by simpa [partK, markL] using ho, Only.refl _ _⟩
  case round =>
    clear ho
    obtain ⟨t, ht, rfl, rfl, ho, hon⟩ := hrel
    by_cases hlt : t < n
    · have hlt' : t < ks.length := by rw [HL.out]; exact hlt
      have HN := Lib.hid (partK_next k ks t hlt')
      have HP := Lib.hid (show ((markL k (ks.take t)).map linkR).length = t by rw [List.length_map, markL_len, List.length_take]; omega)
      have HLN := Lib.hid (link_len (markL k (ks.take t)))
      rw [partK_now k ks t hlt'] at ho
      generalize ks[t] = x at *
      generalize markL k (ks.take t) = pre at *
      generalize ks.drop (t + 1) = post at *
      obtain ⟨fb, rfl⟩ := own_addr ho (by omega)
      unfold OwnL at ho
      rw [List.map_append, List.map_append] at ho
      have HO := Lib.hid ho
      have HON := Lib.hid hon
      clear ho hon
      have HM := Lib.hid (fun W => mark_text (k + 2 * t) W (by omega) (by omega))
      have q1 : k + 2 * t + 2 ≤ 1099511627776 := by omega
      have HQ := Lib.hid (show ((k + 2 * t + 1 : Nat) : Int) = ((k + 2 * t : Nat) : Int) + 1 by omega)
      have HQ2 := Lib.hid (show ((k + 2 * (t + 1) : Nat) : Int) = ((k + 2 * t : Nat) : Int) + 1 + 1 by omega)
      generalize k + 2 * t = kt at *
      generalize mt kt = y at *
      go_wp2_with fail
      refine (HM.out _).mono ?_
      rintro e v ⟨rfl, hb⟩
      have HO1 := Lib.hid (own_belowK HO.out (Nat.le_refl _) hb)
      have HON1 := Lib.hid (HON.out.trans (Only.below (S := SK (some ⟨fb, 0, none⟩) n c) hb (Nat.le_refl _)))
      clear hb
      obtain ⟨u0, hu0⟩ := own_there HO1.out (t * 2) (by omega)
      obtain ⟨u1, hu1⟩ := own_there HO1.out (t * 2 + 1) (by omega)
      have hf0 := World.ownsRow.frozenAt (h := HO1.out) (t * 2)
      have hf1 := World.ownsRow.frozenAt (h := HO1.out) (t * 2 + 1)
      go_wp2_with fail
      refine ⟨⟨t + 1, by omega, by go_num, ?_, ?_, ?_⟩, by simp [intOf]; omega⟩
      · rw [HQ2.out]
      · have h := row2 (.string y) (.int .i64 ((kt : Int) + 1)) HLN.out t HP.out HO1.out
        rw [HN.out, HQ.out]
        unfold OwnL
        rw [List.map_append, List.map_append]
        exact h
      · exact HON1.out.trans (Only.trans (Only.grown (Go.Lib.grownBy_setCell v fb (t * 2) _) (fun i hi => hi)) (Only.grown (Go.Lib.grownBy_setCell _ fb (t * 2 + 1) _) (fun i hi => hi)))
    · obtain rfl : n = t := by omega
      have e2 : partK k ks n = markL k ks := by unfold partK; rw [List.take_of_length_le (by rw [HL.out]; exact Nat.le_refl _), List.drop_of_length_le (by rw [HL.out]; exact Nat.le_refl _), List.append_nil]
      rw [e2] at ho
      have HO := Lib.hid ho
      have HON := Lib.hid hon
      clear ho hon e2
      go_wp2_with fail
      go_ret
      exact ⟨rfl, HO.out, HON.out⟩

/-! ### turns -/
def mkT (k : Nat) : TurnD := ⟨(k : Int), mt (k + 1), mt (k + 2), ((k + 3 : Nat) : Int)⟩
def markT : Nat → List TurnD → List TurnD
  | _, [] => []
  | k, _ :: ts => mkT k :: markT (k + 4) ts
theorem markT_len : ∀ (ts : List TurnD) (k : Nat), (markT k ts).length = ts.length
  | [], _ => rfl
  | x :: ts, k => by simp [markT, markT_len ts]
theorem markT_snoc : ∀ (l : List TurnD) (k : Nat) (x : TurnD), markT k (l ++ [x]) = markT k l ++ [mkT (k + 4 * l.length)]
  | [], k, x => rfl
  | y :: l, k, x => by
    rw [List.cons_append, markT, markT_snoc l, markT, List.length_cons, show k + 4 + 4 * l.length = k + 4 * (l.length + 1) by omega]; rfl
def partTM (k : Nat) (ts : List TurnD) (t : Nat) : List TurnD := markT k (ts.take t) ++ ts.drop t
theorem partTM_now (k : Nat) (ts : List TurnD) (t : Nat) (ht : t < ts.length) : partTM k ts t = markT k (ts.take t) ++ [ts[t]] ++ ts.drop (t + 1) := by
  unfold partTM; rw [List.drop_eq_getElem_cons ht, List.append_assoc]; rfl
theorem partTM_next (k : Nat) (ts : List TurnD) (t : Nat) (ht : t < ts.length) : partTM k ts (t + 1) = markT k (ts.take t) ++ [mkT (k + 4 * t)] ++ ts.drop (t + 1) := by
  unfold partTM; rw [List.take_succ_eq_append_getElem ht, markT_snoc, List.length_take, Nat.min_eq_left (Nat.le_of_lt ht)]

set_option maxRecDepth 100000 in
set_option maxHeartbeats 3200000 in
theorem markTurnS_any (A : Option Addr) (n c base : Nat) (ts : List TurnD) (k : Nat) (w : World) (ho : OwnT w base A n c ts) (hl : ts.length = n) (h0 : 1 ≤ k) (h1 : k + 4 * n ≤ 1099511627776) :
    Calls Tryz.prog 44 #[.slice A n c, .int .i64 k] w fun e w' => e = .returned (.int .i64 ((k + 4 * n : Nat) : Int)) ∧ OwnT w' base A n c (markT k ts) ∧ Only (SK A n c) w w' := by
  have HL := Lib.hid hl
  clear hl
  go_enter Tryz.func44, Tryz.ntmps44
  go_wp2_with fail
  go_loopw [1, 5] (fun m i wr => ∃ t : Nat, t ≤ n ∧ i = .int .i64 t ∧ m = .int .i64 ((k + 4 * t : Nat) : Int) ∧ OwnT wr base A n c (partTM k ts t) ∧ Only (SK A n c) w wr) (fun _ i _ => n - (intOf i).toNat)
  case atStart => exact ⟨0, Nat.zero_le _, rfl, rfl, by simpa [partTM, markT] using ho, Only.refl _ _⟩
  case round =>
    clear ho
    obtain ⟨t, ht, rfl, rfl, ho, hon⟩ := hrel
    by_cases hlt : t < n
    · have hlt' : t < ts.length := by rw [HL.out]; exact hlt
      have HN := Lib.hid (partTM_next k ts t hlt')
      have HP := Lib.hid (show ((markT k (ts.take t)).map turnR).length = t by rw [List.length_map, markT_len, List.length_take]; omega)
      have HLN := Lib.hid (turn_len (markT k (ts.take t)))
      rw [partTM_now k ts t hlt'] at ho
      generalize ts[t] = x at *
      generalize markT k (ts.take t) = pre at *
      generalize ts.drop (t + 1) = post at *
      obtain ⟨fb, rfl⟩ := own_addr ho (by omega)
      unfold OwnT at ho
      rw [List.map_append, List.map_append] at ho
      have HM1 := Lib.hid (fun W => mark_text (k + 4 * t + 1) W (by omega) (by omega))
      have HM2 := Lib.hid (fun W => mark_text (k + 4 * t + 2) W (by omega) (by omega))
      have q1 : k + 4 * t + 4 ≤ 1099511627776 := by omega
      have HQ2 := Lib.hid (show ((k + 4 * (t + 1) : Nat) : Int) = ((k + 4 * t : Nat) : Int) + 1 + 1 + 1 + 1 by omega)
      generalize k + 4 * t = kt at *
      have HMk := Lib.hid (show mkT kt = ⟨(kt : Int), mt (kt + 1), mt (kt + 2), (kt : Int) + 1 + 1 + 1⟩ by unfold mkT; congr 1)
      rw [show ((kt + 1 : Nat) : Int) = (kt : Int) + 1 by omega] at HM1
      rw [show ((kt + 2 : Nat) : Int) = (kt : Int) + 1 + 1 by omega] at HM2
      generalize mt (kt + 1) = y1 at *
      generalize mt (kt + 2) = y2 at *
      obtain ⟨u0, hu0⟩ := own_there ho (t * 4) (by omega)
      have hf0 := World.ownsRow.frozenAt (h := ho) (t * 4)
      have HO1 := Lib.hid (rowJ (K := 4) rfl HLN.out t HP.out 0 (by omega) (.int .i64 kt) ho)
      have HON := Lib.hid hon
      clear ho hon
      go_wp2_with fail
      refine (HM1.out _).mono ?_
      rintro e v1 ⟨rfl, hb1⟩
      have HO2 := Lib.hid (own_belowK HO1.out (Nat.le_refl _) hb1)
      have HON1 := Lib.hid (Only.below (S := SK (some ⟨fb, 0, none⟩) n c) hb1 (Nat.le_refl _))
      clear hb1
      obtain ⟨u1, hu1⟩ := own_there HO2.out (t * 4 + 1) (by omega)
      have hf1 := World.ownsRow.frozenAt (h := HO2.out) (t * 4 + 1)
      have HO3 := Lib.hid (rowJ (K := 4) rfl HLN.out t HP.out 1 (by omega) (.string y1) HO2.out)
      go_wp2_with fail
      refine (HM2.out _).mono ?_
      rintro e v2 ⟨rfl, hb2⟩
      have HO4 := Lib.hid (own_belowK HO3.out (Nat.le_refl _) hb2)
      have HON2 := Lib.hid (Only.below (S := SK (some ⟨fb, 0, none⟩) n c) hb2 (Nat.le_refl _))
      clear hb2
      obtain ⟨u2, hu2⟩ := own_there HO4.out (t * 4 + 2) (by omega)
      have hf2 := World.ownsRow.frozenAt (h := HO4.out) (t * 4 + 2)
      obtain ⟨u3, hu3⟩ := own_there HO4.out (t * 4 + 3) (by omega)
      have hf3 := World.ownsRow.frozenAt (h := HO4.out) (t * 4 + 3)
      go_wp2_with fail
      refine ⟨⟨t + 1, by omega, by go_num, ?_, ?_, ?_⟩, by simp [intOf]; omega⟩
      · rw [HQ2.out]
      · have h := rowJ (K := 4) rfl HLN.out t HP.out 3 (by omega) (.int .i64 ((kt : Int) + 1 + 1 + 1)) (rowJ (K := 4) rfl HLN.out t HP.out 2 (by omega) (.string y2) HO4.out)
        rw [HN.out, HMk.out]
        unfold OwnT
        rw [List.map_append, List.map_append]
        exact h
      · exact HON.out.trans (Only.trans (Only.grown (Go.Lib.grownBy_setCell _ fb (t * 4) _) (fun i hi => hi)) (HON1.out.trans (Only.trans (Only.grown (Go.Lib.grownBy_setCell _ fb (t * 4 + 1) _) (fun i hi => hi)) (HON2.out.trans (Only.trans (Only.grown (Go.Lib.grownBy_setCell _ fb (t * 4 + 2) _) (fun i hi => hi)) (Only.grown (Go.Lib.grownBy_setCell _ fb (t * 4 + 3) _) (fun i hi => hi)))))))
    · obtain rfl : n = t := by omega
      have e2 : partTM k ts n = markT k ts := by unfold partTM; rw [List.take_of_length_le (by rw [HL.out]; exact Nat.le_refl _), List.drop_of_length_le (by rw [HL.out]; exact Nat.le_refl _), List.append_nil]
      rw [e2] at ho
      have HO := Lib.hid ho
      have HON := Lib.hid hon
      clear ho hon e2
      go_wp2_with fail
      go_ret
      exact ⟨rfl, HO.out, HON.out⟩
end Go.Proofs.YtfkdfabbpebljaaGreat.DOk
namespace Go.Proofs.YtfkdfabbpebljaaGreat.DOk
open Go.RowKit Go.Proofs.YtfkdfabbpebljaaGreat.Bytes Go.Proofs.YtfkdfabbpebljaaGreat.Rows_
set_option linter.unusedVariables false

theorem Only.cell {S : Nat → Prop} {w w' : World} (h : Only S w w') {b o : Nat} {v : Value} (hc : w.cell? ⟨b, o, none⟩ = some v) (hn : ¬ S b) : w'.cell? ⟨b, o, none⟩ = some v :=
  (World.cell?_of_block (h.block b (World.block_lt_of_cell? w ⟨b, o, none⟩ hc) hn)).trans hc
/-- the blocks of a disk -/
def SD (F : Option Addr) (nf cf : Nat) (gs : List FileD) (K : Option Addr) (nk ck : Nat) (T : Option Addr) (nt ct : Nat) (i : Nat) : Prop := SF F nf cf gs i ∨ SK K nk ck i ∨ SK T nt ct i
/-- a disk of the call's own -/
structure OwnD (w : World) (base : Nat) (F : Option Addr) (nf cf : Nat) (gs : List FileD) (K : Option Addr) (nk ck : Nat) (ks : List LinkD) (T : Option Addr) (nt ct : Nat) (ts : List TurnD) : Prop where
  f : OwnF w base F nf cf gs
  b : OwnBs w base gs
  l : OwnL w base K nk ck ks
  t : OwnT w base T nt ct ts
section
variable {w : World} {base : Nat} {F : Option Addr} {nf cf : Nat} {gs : List FileD} {K : Option Addr} {nk ck : Nat} {ks : List LinkD} {T : Option Addr} {nt ct : Nat} {ts : List TurnD}
theorem OwnD.alloc (h : OwnD w base F nf cf gs K nk ck ks T nt ct ts) (o : Obj) : OwnD (w.alloc o) base F nf cf gs K nk ck ks T nt ct ts :=
  ⟨World.ownsRow.alloc h.f o, ⟨fun f hf => World.ownsRow.alloc (h.b.1 f hf) o, h.b.2⟩, World.ownsRow.alloc h.l o, World.ownsRow.alloc h.t o⟩
theorem OwnD.lt (h : OwnD w base F nf cf gs K nk ck ks T nt ct ts) : ∀ i, SD F nf cf gs K nk ck T nt ct i → base ≤ i ∧ i < w.heap.size := by
  rintro i ((h1 | ⟨f, hf, h1⟩) | h1 | h1)
  · exact World.ownsRow.lt h.f i h1
  · exact World.ownsRow.lt (h.b.1 f hf) i h1
  · exact World.ownsRow.lt h.l i h1
  · exact World.ownsRow.lt h.t i h1
theorem own_link_sf {v : Value} {n : Nat} {xs : List Value} {J : Nat} {E : TypeId} (hv : w.ownsRow base E J v n xs) (hE1 : E ≠ 58) (hE2 : E ≠ 5) (hf : OwnF w base F nf cf gs) (hb : OwnBs w base gs) : ∀ g, v.ownBlock = some g → ¬ SF F nf cf gs g := by
  rintro g hg (h1 | ⟨f, hm, h1⟩)
  · exact own_ne hv hf hE1 g hg h1
  · exact own_ne hv (hb.1 f hm) hE2 g hg h1
theorem markF_sf (k : Int) (gs : List FileD) (i : Nat) : SF F nf cf (markF k gs) i ↔ SF F nf cf gs i := by
  have e : ∀ l : List FileD, (∃ f ∈ l, blkF f = some i) ↔ some i ∈ l.map blkF := fun l => by simp [List.mem_map]
  unfold SF
  rw [e, e, markF_map]
end

set_option maxRecDepth 100000 in
set_option maxHeartbeats 3200000 in
theorem markDisk_any (room fuse next : Int) (base : Nat) (F : Option Addr) (nf cf : Nat) (K : Option Addr) (nk ck : Nat) (T : Option Addr) (nt ct : Nat) (gs : List FileD) (ks : List LinkD) (ts : List TurnD) (k : Nat) (w : World)
    (ho : OwnD w base F nf cf gs K nk ck ks T nt ct ts) (hf : gs.length = nf) (hk : ks.length = nk) (ht : ts.length = nt) (h0 : 1 ≤ k) (h1 : k + 2 * nf + usedD gs + 2 * nk + 4 * nt ≤ 1099511627776) :
    Calls Tryz.prog 12 #[.agg #[.int .i64 room, .int .i64 fuse, .int .i64 next, .slice F nf cf, .slice K nk ck, .slice T nt ct], .int .i64 k] w
      fun e w' => e = .returned (.int .i64 ((k + 2 * nf + usedD gs + 2 * nk + 4 * nt : Nat) : Int)) ∧
        OwnD w' base F nf cf (markF k gs) K nk ck (markL (k + 2 * nf + usedD gs) ks) T nt ct (markT (k + 2 * nf + usedD gs + 2 * nk) ts) ∧ Only (SD F nf cf gs K nk ck T nt ct) w w' := by
  have HE := Lib.hid (show endF k gs = ((k + 2 * nf + usedD gs : Nat) : Int) by unfold endF; rw [hf]; omega)
  have HLT := Lib.hid ho.lt
  have HO := Lib.hid (ho.alloc (.cells #[.int .i64 room, .int .i64 fuse, .int .i64 next, .slice F nf cf, .slice K nk ck, .slice T nt ct] 36))
  have HA := Lib.hid (show Only (SD F nf cf gs K nk ck T nt ct) w (w.alloc (.cells #[.int .i64 room, .int .i64 fuse, .int .i64 next, .slice F nf cf, .slice K nk ck, .slice T nt ct] 36)) from Only.below ((Below.refl w.heap.size w).alloc (Nat.le_refl _) _) (Nat.le_refl _))
  have HC := Lib.hid (show ∀ j v, #[Value.int .i64 room, .int .i64 fuse, .int .i64 next, .slice F nf cf, .slice K nk ck, .slice T nt ct][j]? = some v → (w.alloc (.cells #[.int .i64 room, .int .i64 fuse, .int .i64 next, .slice F nf cf, .slice K nk ck, .slice T nt ct] 36)).cell? ⟨w.heap.size, j, none⟩ = some v from fun j v h => by rw [World.cell?_alloc_at _ _ _ _ rfl]; exact h)
  have HN := Lib.hid (show ¬ SD F nf cf gs K nk ck T nt ct w.heap.size from fun h => by have := (HLT.out _ h).2; omega)
  have HF := Lib.hid (fun W (h : OwnD W base F nf cf gs K nk ck ks T nt ct ts) => markFileS_any F nf cf base gs k W h.f hf h.b (by omega) (by rw [HE.out]; omega))
  clear ho
  generalize hk1 : k + 2 * nf + usedD gs = k1 at *
  generalize hk2 : k1 + 2 * nk = k2 at *
  go_enter Tryz.func12, Tryz.ntmps12
  go_wp2_with fail
  refine (HF.out _ HO.out).mono ?_
  rintro e v1 ⟨rfl, hF1, hB1, on1⟩
  rw [HE.out]
  have HL1 := Lib.hid (Only.own HO.out.l on1 (own_link_sf HO.out.l (by decide) (by decide) HO.out.f HO.out.b))
  have HT1 := Lib.hid (Only.own HO.out.t on1 (own_link_sf HO.out.t (by decide) (by decide) HO.out.f HO.out.b))
  have HF1 := Lib.hid hF1
  have HB1 := Lib.hid hB1
  have ON1 := Lib.hid (HA.out.trans (on1.mono (fun i hi => Or.inl hi)))
  have c4 := on1.cell (HC.out 4 _ rfl) (fun h => HN.out (.inl h))
  have c5 := on1.cell (HC.out 5 _ rfl) (fun h => HN.out (.inl h))
  have HML := Lib.hid (by have h := markLinkS_any K nk ck base ks k1 v1 HL1.out hk (by omega) (by omega); rw [hk2] at h; exact h)
  clear hF1 hB1 on1 HO HC HA HF HLT
  have HX := Lib.hid (fun W (h : OwnT W base T nt ct ts) => markTurnS_any T nt ct base ts k2 W h ht (by omega) (by omega))
  go_wp2_with fail
  refine HML.out.mono ?_
  rintro e v2 ⟨rfl, hL2, on2⟩
  have hne : ∀ {E : TypeId} {J n : Nat} {v : Value} {xs : List Value}, E ≠ 86 → v1.ownsRow base E J v n xs → ∀ g, v.ownBlock = some g → ¬ SK K nk ck g := fun hE h g hg hs => own_ne h HL1.out hE g hg hs
  have HF2 := Lib.hid (Only.own HF1.out on2 (hne (by decide) HF1.out))
  have HB2 := Lib.hid (show OwnBs v2 base (markF k gs) from ⟨fun f hf => Only.own (HB1.out.1 f hf) on2 (hne (by decide) (HB1.out.1 f hf)), HB1.out.2⟩)
  have HT2 := Lib.hid (Only.own HT1.out on2 (hne (by decide) HT1.out))
  have HL2 := Lib.hid hL2
  have ON2 := Lib.hid (ON1.out.trans (on2.mono (fun i hi => Or.inr (.inl hi))))
  have d5 := on2.cell c5 (fun h => HN.out (.inr (.inl h)))
  clear hL2 on2 c4 c5 hne HF1 HB1 HT1 HL1 ON1 HML
  go_wp2_with fail
  refine (HX.out _ HT2.out).mono ?_
  rintro e v3 ⟨rfl, hT3, on3⟩
  have hne : ∀ {E : TypeId} {J n : Nat} {v : Value} {xs : List Value}, E ≠ 60 → v2.ownsRow base E J v n xs → ∀ g, v.ownBlock = some g → ¬ SK T nt ct g := fun hE h g hg hs => own_ne h HT2.out hE g hg hs
  have HF3 := Lib.hid (Only.own HF2.out on3 (hne (by decide) HF2.out))
  have HB3 := Lib.hid (show OwnBs v3 base (markF k gs) from ⟨fun f hf => Only.own (HB2.out.1 f hf) on3 (hne (by decide) (HB2.out.1 f hf)), HB2.out.2⟩)
  have HL3 := Lib.hid (Only.own HL2.out on3 (hne (by decide) HL2.out))
  have HT3 := Lib.hid hT3
  have ON3 := Lib.hid (ON2.out.trans (on3.mono (fun i hi => Or.inr (.inr hi))))
  clear hT3 on3 hne HF2 HB2 HL2 ON2 d5 HT2
  go_wp2_with fail
  go_ret
  exact ⟨ret_int (by omega), ⟨HF3.out, HB3.out, HL3.out, HT3.out⟩, ON3.out⟩
end Go.Proofs.YtfkdfabbpebljaaGreat.DOk
