/- Terminals and panes as data and as memory: words for their cells, what is read of them, what is owned. -/
import Derived.Test.YtbheimjepikkfaaDoorScToS
import Derived.Test.YtbheimjepikkfaaDoorScEq
import Derived.Test.YtbheimjepikkfaaDoorSzB
import Derived.Test.YtbheimjepikkfaaDoorScO
namespace Go.Proofs.YtbheimjepikkfaaDoor.St
open Go.RowKit Go.Proofs.YtbheimjepikkfaaDoor.Bytes Go.Proofs.YtbheimjepikkfaaDoor.Rows_ Go.Proofs.YtbheimjepikkfaaDoor.RowK Go.Proofs.YtbheimjepikkfaaDoor.Gr Go.Proofs.YtbheimjepikkfaaDoor.DOk Go.Proofs.YtbheimjepikkfaaDoor.Opq Go.Proofs.YtbheimjepikkfaaDoor.Sc
set_option linter.unusedVariables false
structure VpS where
  st : Int
  mark : Bool
  aA : Option Addr
  ac : Nat
  zs : List Int
  pA : Option Addr
  pc : Nat
  bs : List Int
structure VpD where
  st : Int
  mark : Bool
  zs : List Int
  bs : List Int
def VpS.data (v : VpS) : VpD := ⟨v.st, v.mark, v.zs, v.bs⟩
structure TermS where
  v : VpS
  s : ScrS
structure TermD where
  v : VpD
  s : ScrD
def TermS.data (t : TermS) : TermD := ⟨t.v.data, t.s.data⟩
structure PaneS where
  id : Int
  cmd : ByteArray
  dir : ByteArray
  life : Int
  code : Int
  pid : Int
  t : TermS
structure PaneD where
  id : Int
  cmd : ByteArray
  dir : ByteArray
  life : Int
  code : Int
  pid : Int
  t : TermD
def PaneS.data (p : PaneS) : PaneD := ⟨p.id, p.cmd, p.dir, p.life, p.code, p.pid, p.t.data⟩
def vpL (v : VpS) : List Value := [.int .i64 v.st, .bool v.mark, .slice v.aA v.zs.length v.ac, .slice v.pA v.bs.length v.pc]
def termL (t : TermS) : List Value := vpL t.v ++ scrL t.s
def paneL (p : PaneS) : List Value := [.int .i64 p.id, .string p.cmd, .string p.dir, .int .i64 p.life, .int .i64 p.code, .int .i64 p.pid] ++ termL p.t
def vpA (v : VpS) : Array Value := (vpL v).toArray
def termA (t : TermS) : Array Value := (termL t).toArray
def paneA (p : PaneS) : Array Value := (paneL p).toArray
theorem vpA_size (v : VpS) : (vpA v).size = 4 := rfl
theorem termA_size (t : TermS) : (termA t).size = 35 := rfl
theorem paneA_size (p : PaneS) : (paneA p).size = 41 := rfl
/-! ### sizes -/
def sumN {α : Type} (f : α → Nat) (l : List α) : Nat := (l.map f).sum
theorem sumN_take {α : Type} (f : α → Nat) (l : List α) (k : Nat) (h : k < l.length) : sumN f (l.take (k + 1)) = sumN f (l.take k) + f l[k] := by
  unfold sumN; rw [List.take_succ_eq_append_getElem h, List.map_append, List.sum_append]; simp
theorem sumN_mem {α : Type} (f : α → Nat) : ∀ {l : List α} {x : α} (h : x ∈ l), f x ≤ sumN f l
  | y :: l, x, h => by
    have e : sumN f (y :: l) = f y + sumN f l := by simp [sumN]
    rcases List.mem_cons.1 h with rfl | h
    · omega
    · have := sumN_mem f h; omega
def szV (v : VpS) : Nat := v.zs.length + v.bs.length
def szT (t : TermS) : Nat := szV t.v + szS t.s
def szP (p : PaneS) : Nat := p.cmd.size + p.dir.size + szT p.t
theorem szV_of {v v' : VpS} (h : v'.data = v.data) : szV v' = szV v := by
  simp only [VpS.data, VpD.mk.injEq] at h
  unfold szV; rw [h.2.2.1, h.2.2.2]
theorem szT_of {t t' : TermS} (h : t'.data = t.data) : szT t' = szT t := by
  simp only [TermS.data, TermD.mk.injEq] at h
  unfold szT; rw [szV_of h.1, szS_data, h.2, ← szS_data]
theorem szP_of {p p' : PaneS} (h : p'.data = p.data) : szP p' = szP p := by
  simp only [PaneS.data, PaneD.mk.injEq] at h
  unfold szP; rw [h.2.1, h.2.2.1, szT_of h.2.2.2.2.2.2]
theorem sumN_of {α β : Type} (f : α → Nat) (g : α → β) (hf : ∀ x x', g x' = g x → f x' = f x) : ∀ {l l' : List α}, l'.map g = l.map g → sumN f l' = sumN f l
  | [], [], _ => rfl
  | [], y :: l', h => by simp at h
  | x :: l, [], h => by simp at h
  | x :: l, y :: l', h => by
    simp only [List.map_cons, List.cons.injEq] at h
    have := sumN_of f g hf h.2
    unfold sumN at this ⊢
    simp only [List.map_cons, List.sum_cons]
    rw [hf _ _ h.1, this]
theorem map_len {α β : Type} {g : α → β} {l l' : List α} (h : l'.map g = l.map g) : l'.length = l.length := by have := congrArg List.length h; simpa using this
structure LenV (v : VpS) : Prop where
  a : v.zs.length ≤ 9223372036854775807
  p : v.bs.length ≤ 9223372036854775807
structure LenT (t : TermS) : Prop where
  v : LenV t.v
  s : LenS t.s
structure LenP (p : PaneS) : Prop where
  c : p.cmd.size ≤ 9223372036854775807
  d : p.dir.size ≤ 9223372036854775807
  t : LenT p.t
/-! ### parts of rows of cells -/
def cut (C : Array Value) (o n : Nat) : Array Value := ((C.toList.drop o).take n).toArray
def put (D : Array Value) (o : Nat) (C : Array Value) : Array Value := (D.toList.take o ++ C.toList ++ D.toList.drop (o + C.toList.length)).toArray
/-- the cells of block b from o on -/
def seg (w : World) (b o n : Nat) : Array Value := cut (rowOf w b) o n
def Room (w : World) (b o n : Nat) : Prop := ∃ C T, w.heap[b]? = some (.cells C T (0, 0)) ∧ o + n ≤ C.size
def IsC (w : World) (b : Nat) : Prop := ∃ C T, w.heap[b]? = some (.cells C T (0, 0))
theorem Room.of {w : World} {b : Nat} {C : Array Value} (h : RowB w b C) {o n : Nat} (hs : o + n ≤ C.size) : Room w b o n := by obtain ⟨T, h⟩ := h; exact ⟨C, T, h, hs⟩
theorem IsC.of {w : World} {b : Nat} {C : Array Value} (h : RowB w b C) : IsC w b := by obtain ⟨T, h⟩ := h; exact ⟨C, T, h⟩
theorem row_cell {w : World} {b j : Nat} {v : Value} (h : (rowOf w b)[j]? = some v) : w.cell? ⟨b, j, none⟩ = some v := by
  unfold rowOf at h
  unfold World.cell?
  rcases hq : w.heap[b]? with _ | ob
  · rw [hq] at h; simp at h
  · rw [hq] at h
    cases ob <;> simp at h ⊢
    exact h
theorem cell_row {w : World} {b j : Nat} {v : Value} (h : w.cell? ⟨b, j, none⟩ = some v) : (rowOf w b)[j]? = some v := by
  unfold World.cell? at h
  unfold rowOf
  rcases hq : w.heap[b]? with _ | ob
  · rw [hq] at h; simp at h
  · rw [hq] at h
    cases ob <;> simp at h ⊢
    exact h
theorem seg_cell {w : World} {b o n j : Nat} {v : Value} (h : (seg w b o n)[j]? = some v) : w.cell? ⟨b, o + j, none⟩ = some v := by
  refine row_cell ?_
  unfold seg cut at h
  rw [List.getElem?_toArray, List.getElem?_take] at h
  split at h
  · rw [List.getElem?_drop, Array.getElem?_toList] at h; exact h
  · cases h
theorem seg_of {w : World} {b o n : Nat} {C : Array Value} (hn : C.size = n) (h : ∀ j v, C[j]? = some v → w.cell? ⟨b, o + j, none⟩ = some v) : seg w b o n = C := by
  apply Array.ext_getElem?
  intro j
  unfold seg cut
  rw [List.getElem?_toArray, List.getElem?_take]
  by_cases hj : j < n
  · rw [if_pos hj, List.getElem?_drop, Array.getElem?_toList]
    rw [Array.getElem?_eq_getElem (show j < C.size by omega)]
    exact cell_row (h j _ (Array.getElem?_eq_getElem (show j < C.size by omega)))
  · rw [if_neg hj, Array.getElem?_eq_none (by omega)]
theorem seg_row {w : World} {b : Nat} {C : Array Value} (h : RowB w b C) (o n : Nat) : seg w b o n = cut C o n := by unfold seg; rw [h.row]
theorem seg_alloc_past (w : World) (ob : Obj) (b o n : Nat) (h : b < w.heap.size) : seg (w.alloc ob) b o n = seg w b o n := by unfold seg; rw [rowOf_alloc_past _ _ _ h]
theorem seg_alloc_at (w : World) (C : Array Value) (T : TypeId) (m o n : Nat) (h : m = w.heap.size) : seg (w.alloc (.cells C T)) m o n = cut C o n := by unfold seg; rw [rowOf_alloc_at _ _ _ _ h]
theorem seg_setCell_other (w : World) (b' j b o n : Nat) (v : Value) (h : b ≠ b') : seg (w.setCell ⟨b', j, none⟩ v) b o n = seg w b o n := by unfold seg; rw [rowOf_setCell_other _ _ _ _ _ h]
theorem rowOf_setRow_other (w : World) (b' b : Nat) (C : Array Value) (h : b ≠ b') : rowOf (w.setRow b' C) b = rowOf w b := by unfold rowOf; rw [Go.setRow_other w b' b C h]
theorem rowOf_setRow_same (w : World) (b : Nat) (C : Array Value) (h : IsC w b) : rowOf (w.setRow b C) b = C := by
  obtain ⟨D, T, h⟩ := h
  exact (RowB.setRow ⟨T, h⟩).row
theorem seg_setRow_other (w : World) (b' b o n : Nat) (C : Array Value) (h : b ≠ b') : seg (w.setRow b' C) b o n = seg w b o n := by unfold seg; rw [rowOf_setRow_other _ _ _ _ h]
theorem seg_drew (w : World) (b o n : Nat) : seg w.drew b o n = seg w b o n := rfl
theorem rowZ_setRow_other (w : World) (b' b n : Nat) (C : Array Value) (h : b ≠ b') : RowZ (w.setRow b' C) b n = RowZ w b n := by unfold RowZ; rw [Go.setRow_other w b' b C h]
theorem cut_term_scr (t : TermS) : cut (termA t) 4 31 = scrA t.s := rfl
theorem cut_term_vp (t : TermS) : cut (termA t) 0 4 = vpA t.v := rfl
theorem cut_pane_term (p : PaneS) : cut (paneA p) 6 35 = termA p.t := rfl
/-- a part of a row that is owned is stored as a whole -/
theorem own_put {w : World} {base g n c K : Nat} {E : TypeId} {pre post : List (List Value)} {z : List Value} (hz : z.length = K) (hpre : ∀ r ∈ pre, r.length = K) (k : Nat) (hk : pre.length = k) (C : Array Value) (hC : C.size = K)
    (h : w.ownsRow base E K (.slice (some ⟨g, 0, none⟩) n c) n (pre ++ [z] ++ post).flatten) :
    (w.setRow g (put (rowOf w g) (k * K) C)).ownsRow base E K (.slice (some ⟨g, 0, none⟩) n c) n (pre ++ [C.toList] ++ post).flatten ∧ Room w g (k * K) K := by
  have hl : pre.flatten.length = k * K := by rw [flat_len K pre hpre, hk]
  have h1 := h.1
  rw [flat3, List.length_append, List.length_append, hl, hz] at h1
  rcases h.2 with ⟨hv, _⟩ | ⟨g', cap, cur, hv, hb, hg, hnc, hm, hs, ht⟩
  · cases hv
  · injection hv with e1 e2 e3
    injection e1 with e1
    injection e1 with e1
    subst e1 e3
    have hrow : rowOf w g = cur := by simp [rowOf, hg]
    have hnK : n * K ≤ cur.size := by rw [hs]; exact Nat.mul_le_mul_right K hnc
    rw [flat3] at ht
    have hCl : C.toList.length = K := by simpa using hC
    have hL : cur.toList = (pre.flatten ++ z) ++ (post.flatten ++ cur.toList.drop (n * K)) := by
      rw [← List.append_assoc, ← ht, List.take_append_drop]
    have e1 : cur.toList.take (k * K) = pre.flatten := by
      rw [hL, List.append_assoc]; exact List.take_left' hl
    have e2 : cur.toList.drop (k * K + K) = post.flatten ++ cur.toList.drop (n * K) := by
      have := List.drop_left' (l₁ := pre.flatten ++ z) (l₂ := post.flatten ++ cur.toList.drop (n * K)) (i := k * K + K) (by rw [List.length_append, hl, hz])
      rw [← hL] at this; exact this
    have hput : put (rowOf w g) (k * K) C = (pre.flatten ++ C.toList ++ (post.flatten ++ cur.toList.drop (n * K))).toArray := by
      unfold put; rw [hrow, hCl, e1, e2]
    refine ⟨⟨?_, .inr ⟨g, c, _, rfl, hb, setRow_heap w g cur _ E _ hg, hnc, hm, ?_, ?_⟩⟩, ⟨cur, E, hg, by omega⟩⟩
    · rw [flat3, List.length_append, List.length_append, hl, hCl]; exact h1
    · rw [hput]
      show (pre.flatten ++ C.toList ++ (post.flatten ++ cur.toList.drop (n * K))).length = c * K
      have hcl : cur.toList.length = cur.size := Array.length_toList
      rw [List.length_append, List.length_append, List.length_append, List.length_drop, hl, hCl, hcl]; omega
    · rw [hput, flat3]
      show ((pre.flatten ++ C.toList) ++ (post.flatten ++ cur.toList.drop (n * K))).take (n * K) = _
      rw [← List.append_assoc]
      exact List.take_left' (by rw [List.length_append, List.length_append, hl, hCl]; exact h1)
/-! ### what is read -/
structure RdV (w : World) (B : Nat) (v : VpS) : Prop where
  a : RdI w B v.aA v.zs
  p : Rd w B v.pA v.bs
structure RdT (w : World) (B : Nat) (t : TermS) : Prop where
  v : RdV w B t.v
  s : RdS w B t.s
def RdPs (w : World) (B : Nat) (ps : List PaneS) : Prop := ∀ p ∈ ps, RdT w B p.t
section
variable {w w' : World} {B B' : Nat}
theorem RdV.below {v : VpS} (h : RdV w B v) (hB : B ≤ B') (hb : Below B' w w') : RdV w' B v := ⟨h.a.below hB hb, h.p.below hB hb⟩
theorem RdV.more {v : VpS} (h : RdV w B v) (hB : B ≤ B') : RdV w B' v := ⟨h.a.more hB, h.p.more hB⟩
theorem RdT.below {t : TermS} (h : RdT w B t) (hB : B ≤ B') (hb : Below B' w w') : RdT w' B t := ⟨h.v.below hB hb, h.s.below hB hb⟩
theorem RdT.more {t : TermS} (h : RdT w B t) (hB : B ≤ B') : RdT w B' t := ⟨h.v.more hB, h.s.more hB⟩
theorem RdPs.below {ps : List PaneS} (h : RdPs w B ps) (hB : B ≤ B') (hb : Below B' w w') : RdPs w' B ps := fun p hp => (h p hp).below hB hb
theorem RdPs.more {ps : List PaneS} (h : RdPs w B ps) (hB : B ≤ B') : RdPs w B' ps := fun p hp => (h p hp).more hB
theorem rdK_seg {K : Nat} {α : Type} {L : α → List Value} {A : Option Addr} {l : List α} (hK : ∀ x, (L x).length = K) (h : RdK K w B A (l.map L)) {i : Nat} (hi : i < l.length) :
    ∃ b o, A = some ⟨b, o, none⟩ ∧ b < B ∧ seg w b (o + i * K) K = (L l[i]).toArray := by
  obtain ⟨b, o, e, hlt, hc⟩ := RdK.at_ h (i := i) (r := L l[i]) (by simp [hi])
  exact ⟨b, o, e, hlt, seg_of (by simp [hK]) (fun j v hv => hc j v (by simpa using hv))⟩
end
/-! ### what is owned -/
structure OwnV (w : World) (base : Nat) (v : VpS) : Prop where
  a : OwnI w base v.aA v.zs.length v.ac v.zs
  p : Own w base v.pA v.bs.length v.pc v.bs
structure OwnT (w : World) (base : Nat) (t : TermS) : Prop where
  v : OwnV w base t.v
  s : OwnS w base t.s
  ap : ∀ i, SS t.s i → (Value.slice t.v.aA t.v.zs.length t.v.ac).ownBlock ≠ some i
/-- the blocks of a terminal -/
def TT (t : TermS) (i : Nat) : Prop := SS t.s i ∨ (Value.slice t.v.aA t.v.zs.length t.v.ac).ownBlock = some i ∨ (Value.slice t.v.pA t.v.bs.length t.v.pc).ownBlock = some i
def OwnPs (w : World) (base : Nat) (ps : List PaneS) : Prop := (∀ p ∈ ps, OwnT w base p.t) ∧ ps.Pairwise (fun p q => ∀ i, TT p.t i → ¬ TT q.t i)
theorem pane_len (ps : List PaneS) : ∀ r ∈ ps.map paneL, r.length = 41 := by
  intro r hr; simp only [List.mem_map] at hr; obtain ⟨_, _, rfl⟩ := hr; rfl
section
variable {w w' : World} {B base base' : Nat}
theorem OwnV.rd {v : VpS} (h : OwnV w base v) : RdV w w.heap.size v := ⟨h.a.rd, h.p.rd⟩
theorem OwnV.below {v : VpS} (h : OwnV w base v) (hB : w.heap.size ≤ B) (hb : Below B w w') : OwnV w' base v := ⟨h.a.below hB hb, h.p.below hB hb⟩
theorem OwnV.more {v : VpS} (h : OwnV w base v) (hB : base' ≤ base) : OwnV w base' v := ⟨h.a.more hB, h.p.more hB⟩
theorem OwnV.set_ {v : VpS} (h : OwnV w base v) (b i : Nat) (x : Value) (hb : b < base) : OwnV (w.setCell ⟨b, i, none⟩ x) base v := ⟨own_setK h.a b i x hb, own_setK h.p b i x hb⟩
theorem OwnV.row_ {v : VpS} (h : OwnV w base v) (b : Nat) (D : Array Value) (hb : b < base) : OwnV (w.setRow b D) base v := ⟨own_setRow h.a b D hb, own_setRow h.p b D hb⟩
theorem OwnT.rd {t : TermS} (h : OwnT w base t) : RdT w w.heap.size t := ⟨h.v.rd, h.s.rd⟩
theorem OwnT.below {t : TermS} (h : OwnT w base t) (hB : w.heap.size ≤ B) (hb : Below B w w') : OwnT w' base t := ⟨h.v.below hB hb, h.s.below hB hb, h.ap⟩
theorem OwnT.more {t : TermS} (h : OwnT w base t) (hB : base' ≤ base) : OwnT w base' t := ⟨h.v.more hB, h.s.more hB, h.ap⟩
theorem OwnT.set_ {t : TermS} (h : OwnT w base t) (b i : Nat) (x : Value) (hb : b < base) : OwnT (w.setCell ⟨b, i, none⟩ x) base t := ⟨h.v.set_ b i x hb, h.s.set_ b i x hb, h.ap⟩
theorem OwnT.row_ {t : TermS} (h : OwnT w base t) (b : Nat) (D : Array Value) (hb : b < base) : OwnT (w.setRow b D) base t := ⟨h.v.row_ b D hb, h.s.row_ b D hb, h.ap⟩
theorem OwnT.blk {t : TermS} (h : OwnT w base t) : ∀ i, TT t i → base ≤ i ∧ i < w.heap.size := by
  rintro i (hi | hi | hi)
  · exact h.s.blk i hi
  · exact h.v.a.blk i hi
  · exact h.v.p.blk i hi
theorem OwnPs.rd {ps : List PaneS} (h : OwnPs w base ps) : RdPs w w.heap.size ps := fun p hp => (h.1 p hp).rd
theorem OwnPs.below {ps : List PaneS} (h : OwnPs w base ps) (hB : w.heap.size ≤ B) (hb : Below B w w') : OwnPs w' base ps := ⟨fun p hp => (h.1 p hp).below hB hb, h.2⟩
theorem OwnPs.more {ps : List PaneS} (h : OwnPs w base ps) (hB : base' ≤ base) : OwnPs w base' ps := ⟨fun p hp => (h.1 p hp).more hB, h.2⟩
theorem OwnPs.row_ {ps : List PaneS} (h : OwnPs w base ps) (b : Nat) (D : Array Value) (hb : b < base) : OwnPs (w.setRow b D) base ps := ⟨fun p hp => (h.1 p hp).row_ b D hb, h.2⟩
theorem OwnPs.set_ {ps : List PaneS} (h : OwnPs w base ps) (b i : Nat) (x : Value) (hb : b < base) : OwnPs (w.setCell ⟨b, i, none⟩ x) base ps := ⟨fun p hp => (h.1 p hp).set_ b i x hb, h.2⟩
theorem OwnPs.nil : OwnPs w base [] := ⟨fun p hp => (by cases hp), List.Pairwise.nil⟩
theorem OwnPs.snoc {ps : List PaneS} {p : PaneS} {mid : Nat} (h : OwnPs w base ps) (hlt : ∀ q ∈ ps, ∀ i, TT q.t i → i < mid) (hp : OwnT w mid p.t) (hm : base ≤ mid) : OwnPs w base (ps ++ [p]) :=
  ⟨fun q hq => by
    rcases List.mem_append.1 hq with hq | hq
    · exact h.1 q hq
    · rw [List.mem_singleton] at hq; subst hq; exact hp.more hm, List.pairwise_append.2 ⟨h.2, List.pairwise_singleton _ _, fun a ha b hb i hi hi' => by
      rw [List.mem_singleton] at hb; subst hb
      have h1 := hlt a ha i hi
      have h2 := (hp.blk i hi').1
      omega⟩⟩
end
end Go.Proofs.YtbheimjepikkfaaDoor.St
