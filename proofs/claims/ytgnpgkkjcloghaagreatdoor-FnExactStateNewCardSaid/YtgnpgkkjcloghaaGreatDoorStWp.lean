/- Terminals and panes as data and as memory: words for their cells, what is read of them, what is owned. -/
import Derived.Test.YtgnpgkkjcloghaaGreatDoorKm3
import Derived.Test.YtgnpgkkjcloghaaGreatDoorScSz
import Derived.Test.YtgnpgkkjcloghaaGreatDoorKm4
namespace Go.Proofs.YtgnpgkkjcloghaaGreatDoor.St
open Go.RowKit Go.Proofs.YtgnpgkkjcloghaaGreatDoor.Bytes Go.Proofs.YtgnpgkkjcloghaaGreatDoor.Rows_ Go.Proofs.YtgnpgkkjcloghaaGreatDoor.RowK Go.Proofs.YtgnpgkkjcloghaaGreatDoor.Gr Go.Proofs.YtgnpgkkjcloghaaGreatDoor.DOk Go.Proofs.YtgnpgkkjcloghaaGreatDoor.Opq Go.Proofs.YtgnpgkkjcloghaaGreatDoor.Sc
set_option linter.unusedVariables false
structure VpS where
  st : Int
  mark : Bool
  aA : Option Addr
  ac : Nat
  zs : List Int
  pA : Option Addr
  pc : Nat
  bs : List Int
structure VpD where
  st : Int
  mark : Bool
  zs : List Int
  bs : List Int
def VpS.data (v : VpS) : VpD := ⟨v.st, v.mark, v.zs, v.bs⟩
structure TermS where
  v : VpS
  s : ScrS
structure TermD where
  v : VpD
  s : ScrD
def TermS.data (t : TermS) : TermD := ⟨t.v.data, t.s.data⟩
structure PaneS where
  id : Int
  cmd : ByteArray
  dir : ByteArray
  life : Int
  code : Int
  pid : Int
  t : TermS
structure PaneD where
  id : Int
  cmd : ByteArray
  dir : ByteArray
  life : Int
  code : Int
  pid : Int
  t : TermD
def PaneS.data (p : PaneS) : PaneD := ⟨p.id, p.cmd, p.dir, p.life, p.code, p.pid, p.t.data⟩
def vpL (v : VpS) : List Value := [.int .i64 v.st, .bool v.mark, .slice v.aA v.zs.length v.ac, .slice v.pA v.bs.length v.pc]
def termL (t : TermS) : List Value := vpL t.v ++ scrL t.s
def paneL (p : PaneS) : List Value := [.int .i64 p.id, .string p.cmd, .string p.dir, .int .i64 p.life, .int .i64 p.code, .int .i64 p.pid] ++ termL p.t
def vpA (v : VpS) : Array Value := (vpL v).toArray
def termA (t : TermS) : Array Value := (termL t).toArray
def paneA (p : PaneS) : Array Value := (paneL p).toArray
theorem vpA_size (v : VpS) : (vpA v).size = 4 := rfl
theorem termA_size (t : TermS) : (termA t).size = 35 := rfl
theorem paneA_size (p : PaneS) : (paneA p).size = 41 := rfl
/-! ### sizes -/
def sumN {α : Type} (f : α → Nat) (l : List α) : Nat := (l.map f).sum
theorem sumN_mem {α : Type} (f : α → Nat) : ∀ {l : List α} {x : α} (h : x ∈ l), f x ≤ sumN f l
  | y :: l, x, h => by
    have e : sumN f (y :: l) = f y + sumN f l := by simp [sumN]
    rcases List.mem_cons.1 h with rfl | h
    · omega
    · have := sumN_mem f h; omega
def szV (v : VpS) : Nat := v.zs.length + v.bs.length
def szT (t : TermS) : Nat := szV t.v + szS t.s
def szP (p : PaneS) : Nat := p.cmd.size + p.dir.size + szT p.t
theorem map_len {α β : Type} {g : α → β} {l l' : List α} (h : l'.map g = l.map g) : l'.length = l.length := by have := congrArg List.length h; simpa using this
structure LenV (v : VpS) : Prop where
  a : v.zs.length ≤ 9223372036854775807
  p : v.bs.length ≤ 9223372036854775807
structure LenT (t : TermS) : Prop where
  v : LenV t.v
  s : LenS t.s
structure LenP (p : PaneS) : Prop where
  c : p.cmd.size ≤ 9223372036854775807
  d : p.dir.size ≤ 9223372036854775807
  t : LenT p.t
/-! ### parts of rows of cells -/
def cut (C : Array Value) (o n : Nat) : Array Value := ((C.toList.drop o).take n).toArray
def put (D : Array Value) (o : Nat) (C : Array Value) : Array Value := (D.toList.take o ++ C.toList ++ D.toList.drop (o + C.toList.length)).toArray
/-- the cells of block b from o on -/
def seg (w : World) (b o n : Nat) : Array Value := cut (rowOf w b) o n
def Room (w : World) (b o n : Nat) : Prop := ∃ C T, w.heap[b]? = some (.cells C T (0, 0)) ∧ o + n ≤ C.size
def IsC (w : World) (b : Nat) : Prop := ∃ C T, w.heap[b]? = some (.cells C T (0, 0))
theorem Room.of {w : World} {b : Nat} {C : Array Value} (h : RowB w b C) {o n : Nat} (hs : o + n ≤ C.size) : Room w b o n := by obtain ⟨T, h⟩ := h; exact ⟨C, T, h, hs⟩
theorem IsC.of {w : World} {b : Nat} {C : Array Value} (h : RowB w b C) : IsC w b := by obtain ⟨T, h⟩ := h; exact ⟨C, T, h⟩
theorem row_cell {w : World} {b j : Nat} {v : Value} (h : (rowOf w b)[j]? = some v) : w.cell? ⟨b, j, none⟩ = some v := by
  unfold rowOf at h
  unfold World.cell?
  rcases hq : w.heap[b]? with _ | ob
  · rw [hq] at h; simp at h
  · rw [hq] at h
    cases ob <;> simp at h ⊢
    exact h
theorem cell_row {w : World} {b j : Nat} {v : Value} (h : w.cell? ⟨b, j, none⟩ = some v) : (rowOf w b)[j]? = some v := by
  unfold World.cell? at h
  unfold rowOf
  rcases hq : w.heap[b]? with _ | ob
  · rw [hq] at h; simp at h
  · rw [hq] at h
    cases ob <;> simp at h ⊢
    exact h
theorem seg_cell {w : World} {b o n j : Nat} {v : Value} (h : (seg w b o n)[j]? = some v) : w.cell? ⟨b, o + j, none⟩ = some v := by
  refine row_cell ?_
  unfold seg cut at h
  rw [List.getElem?_toArray, List.getElem?_take] at h
  split at h
  · rw [List.getElem?_drop, Array.getElem?_toList] at h; exact h
  · cases h
theorem seg_of {w : World} {b o n : Nat} {C : Array Value} (hn : C.size = n) (h : ∀ j v, C[j]? = some v → w.cell? ⟨b, o + j, none⟩ = some v) : seg w b o n = C := by
  apply Array.ext_getElem?
  intro j
  unfold seg cut
  rw [List.getElem?_toArray, List.getElem?_take]
  by_cases hj : j < n
  · rw [if_pos hj, List.getElem?_drop, Array.getElem?_toList]
    rw [Array.getElem?_eq_getElem (show j < C.size by omega)]
    exact cell_row (h j _ (Array.getElem?_eq_getElem (show j < C.size by omega)))
  · rw [if_neg hj, Array.getElem?_eq_none (by omega)]
theorem seg_row {w : World} {b : Nat} {C : Array Value} (h : RowB w b C) (o n : Nat) : seg w b o n = cut C o n := by unfold seg; rw [h.row]
theorem seg_alloc_past (w : World) (ob : Obj) (b o n : Nat) (h : b < w.heap.size) : seg (w.alloc ob) b o n = seg w b o n := by unfold seg; rw [rowOf_alloc_past _ _ _ h]
theorem seg_alloc_at (w : World) (C : Array Value) (T : TypeId) (m o n : Nat) (h : m = w.heap.size) : seg (w.alloc (.cells C T)) m o n = cut C o n := by unfold seg; rw [rowOf_alloc_at _ _ _ _ h]
theorem seg_setCell_other (w : World) (b' j b o n : Nat) (v : Value) (h : b ≠ b') : seg (w.setCell ⟨b', j, none⟩ v) b o n = seg w b o n := by unfold seg; rw [rowOf_setCell_other _ _ _ _ _ h]
theorem rowOf_setRow_other (w : World) (b' b : Nat) (C : Array Value) (h : b ≠ b') : rowOf (w.setRow b' C) b = rowOf w b := by unfold rowOf; rw [Go.setRow_other w b' b C h]
theorem rowOf_setRow_same (w : World) (b : Nat) (C : Array Value) (h : IsC w b) : rowOf (w.setRow b C) b = C := by
  obtain ⟨D, T, h⟩ := h
  exact (RowB.setRow ⟨T, h⟩).row
theorem seg_setRow_other (w : World) (b' b o n : Nat) (C : Array Value) (h : b ≠ b') : seg (w.setRow b' C) b o n = seg w b o n := by unfold seg; rw [rowOf_setRow_other _ _ _ _ h]
theorem seg_drew (w : World) (b o n : Nat) : seg w.drew b o n = seg w b o n := rfl
theorem rowZ_setRow_other (w : World) (b' b n : Nat) (C : Array Value) (h : b ≠ b') : RowZ (w.setRow b' C) b n = RowZ w b n := by unfold RowZ; rw [Go.setRow_other w b' b C h]
theorem cut_term_scr (t : TermS) : cut (termA t) 4 31 = scrA t.s := rfl
theorem cut_term_vp (t : TermS) : cut (termA t) 0 4 = vpA t.v := rfl
theorem cut_pane_term (p : PaneS) : cut (paneA p) 6 35 = termA p.t := rfl
/-! ### what is read -/
structure RdV (w : World) (B : Nat) (v : VpS) : Prop where
  a : RdI w B v.aA v.zs
  p : Rd w B v.pA v.bs
structure RdT (w : World) (B : Nat) (t : TermS) : Prop where
  v : RdV w B t.v
  s : RdS w B t.s
def RdPs (w : World) (B : Nat) (ps : List PaneS) : Prop := ∀ p ∈ ps, RdT w B p.t
section
variable {w w' : World} {B B' : Nat}
theorem RdV.below {v : VpS} (h : RdV w B v) (hB : B ≤ B') (hb : Below B' w w') : RdV w' B v := ⟨h.a.below hB hb, h.p.below hB hb⟩
theorem RdV.more {v : VpS} (h : RdV w B v) (hB : B ≤ B') : RdV w B' v := ⟨h.a.more hB, h.p.more hB⟩
theorem RdT.below {t : TermS} (h : RdT w B t) (hB : B ≤ B') (hb : Below B' w w') : RdT w' B t := ⟨h.v.below hB hb, h.s.below hB hb⟩
theorem RdT.more {t : TermS} (h : RdT w B t) (hB : B ≤ B') : RdT w B' t := ⟨h.v.more hB, h.s.more hB⟩
theorem RdPs.below {ps : List PaneS} (h : RdPs w B ps) (hB : B ≤ B') (hb : Below B' w w') : RdPs w' B ps := fun p hp => (h p hp).below hB hb
theorem RdPs.more {ps : List PaneS} (h : RdPs w B ps) (hB : B ≤ B') : RdPs w B' ps := fun p hp => (h p hp).more hB
theorem rdK_seg {K : Nat} {α : Type} {L : α → List Value} {A : Option Addr} {l : List α} (hK : ∀ x, (L x).length = K) (h : RdK K w B A (l.map L)) {i : Nat} (hi : i < l.length) :
    ∃ b o, A = some ⟨b, o, none⟩ ∧ b < B ∧ seg w b (o + i * K) K = (L l[i]).toArray := by
  obtain ⟨b, o, e, hlt, hc⟩ := RdK.at_ h (i := i) (r := L l[i]) (by simp [hi])
  exact ⟨b, o, e, hlt, seg_of (by simp [hK]) (fun j v hv => hc j v (by simpa using hv))⟩
end
/-! ### what is owned -/
structure OwnV (w : World) (base : Nat) (v : VpS) : Prop where
  a : OwnI w base v.aA v.zs.length v.ac v.zs
  p : Own w base v.pA v.bs.length v.pc v.bs
structure OwnT (w : World) (base : Nat) (t : TermS) : Prop where
  v : OwnV w base t.v
  s : OwnS w base t.s
  ap : ∀ i, SS t.s i → (Value.slice t.v.aA t.v.zs.length t.v.ac).ownBlock ≠ some i
/-- the blocks of a terminal -/
def TT (t : TermS) (i : Nat) : Prop := SS t.s i ∨ (Value.slice t.v.aA t.v.zs.length t.v.ac).ownBlock = some i ∨ (Value.slice t.v.pA t.v.bs.length t.v.pc).ownBlock = some i
def OwnPs (w : World) (base : Nat) (ps : List PaneS) : Prop := (∀ p ∈ ps, OwnT w base p.t) ∧ ps.Pairwise (fun p q => ∀ i, TT p.t i → ¬ TT q.t i)
theorem pane_len (ps : List PaneS) : ∀ r ∈ ps.map paneL, r.length = 41 := by
  intro r hr; simp only [List.mem_map] at hr; obtain ⟨_, _, rfl⟩ := hr; rfl
section
variable {w w' : World} {B base base' : Nat}
theorem OwnV.rd {v : VpS} (h : OwnV w base v) : RdV w w.heap.size v := ⟨h.a.rd, h.p.rd⟩
theorem OwnV.below {v : VpS} (h : OwnV w base v) (hB : w.heap.size ≤ B) (hb : Below B w w') : OwnV w' base v := ⟨h.a.below hB hb, h.p.below hB hb⟩
theorem OwnV.more {v : VpS} (h : OwnV w base v) (hB : base' ≤ base) : OwnV w base' v := ⟨h.a.more hB, h.p.more hB⟩
theorem OwnT.rd {t : TermS} (h : OwnT w base t) : RdT w w.heap.size t := ⟨h.v.rd, h.s.rd⟩
theorem OwnT.below {t : TermS} (h : OwnT w base t) (hB : w.heap.size ≤ B) (hb : Below B w w') : OwnT w' base t := ⟨h.v.below hB hb, h.s.below hB hb, h.ap⟩
theorem OwnT.more {t : TermS} (h : OwnT w base t) (hB : base' ≤ base) : OwnT w base' t := ⟨h.v.more hB, h.s.more hB, h.ap⟩
theorem OwnT.blk {t : TermS} (h : OwnT w base t) : ∀ i, TT t i → base ≤ i ∧ i < w.heap.size := by
  rintro i (hi | hi | hi)
  · exact h.s.blk i hi
  · exact h.v.a.blk i hi
  · exact h.v.p.blk i hi
theorem OwnPs.rd {ps : List PaneS} (h : OwnPs w base ps) : RdPs w w.heap.size ps := fun p hp => (h.1 p hp).rd
theorem OwnPs.below {ps : List PaneS} (h : OwnPs w base ps) (hB : w.heap.size ≤ B) (hb : Below B w w') : OwnPs w' base ps := ⟨fun p hp => (h.1 p hp).below hB hb, h.2⟩
theorem OwnPs.more {ps : List PaneS} (h : OwnPs w base ps) (hB : base' ≤ base) : OwnPs w base' ps := ⟨fun p hp => (h.1 p hp).more hB, h.2⟩
theorem OwnPs.nil : OwnPs w base [] := ⟨fun p hp => (by cases hp), List.Pairwise.nil⟩
theorem OwnPs.snoc {ps : List PaneS} {p : PaneS} {mid : Nat} (h : OwnPs w base ps) (hlt : ∀ q ∈ ps, ∀ i, TT q.t i → i < mid) (hp : OwnT w mid p.t) (hm : base ≤ mid) : OwnPs w base (ps ++ [p]) :=
  ⟨fun q hq => by
    rcases List.mem_append.1 hq with hq | hq
    · exact h.1 q hq
    · rw [List.mem_singleton] at hq; subst hq; exact hp.more hm, List.pairwise_append.2 ⟨h.2, List.pairwise_singleton _ _, fun a ha b hb i hi hi' => by
      rw [List.mem_singleton] at hb; subst hb
      have h1 := hlt a ha i hi
      have h2 := (hp.blk i hi').1
      omega⟩⟩
end
end Go.Proofs.YtgnpgkkjcloghaaGreatDoor.St

