/- Terminals, panes, windows, sessions and states as data and as memory: words for their cells, what is read of them, what is owned. -/
import Derived.Test.YtkinkdgnephcbaaScToS
import Derived.Test.YtkinkdgnephcbaaScEq
import Derived.Test.YtkinkdgnephcbaaTrTo
import Derived.Test.YtkinkdgnephcbaaSzB
namespace Go.Proofs.Ytkinkdgnephcbaa.St
open Go.RowKit Go.Proofs.Ytkinkdgnephcbaa.Bytes Go.Proofs.Ytkinkdgnephcbaa.Rows_ Go.Proofs.Ytkinkdgnephcbaa.RowK Go.Proofs.Ytkinkdgnephcbaa.Gr Go.Proofs.Ytkinkdgnephcbaa.DOk Go.Proofs.Ytkinkdgnephcbaa.Opq Go.Proofs.Ytkinkdgnephcbaa.Sc
set_option linter.unusedVariables false
structure VpS where
  st : Int
  mark : Bool
  aA : Option Addr
  ac : Nat
  zs : List Int
  pA : Option Addr
  pc : Nat
  bs : List Int
structure VpD where
  st : Int
  mark : Bool
  zs : List Int
  bs : List Int
def VpS.data (v : VpS) : VpD := ⟨v.st, v.mark, v.zs, v.bs⟩
structure TermS where
  v : VpS
  s : ScrS
structure TermD where
  v : VpD
  s : ScrD
def TermS.data (t : TermS) : TermD := ⟨t.v.data, t.s.data⟩
structure PaneS where
  id : Int
  cmd : ByteArray
  dir : ByteArray
  life : Int
  code : Int
  pid : Int
  t : TermS
structure PaneD where
  id : Int
  cmd : ByteArray
  dir : ByteArray
  life : Int
  code : Int
  pid : Int
  t : TermD
def PaneS.data (p : PaneS) : PaneD := ⟨p.id, p.cmd, p.dir, p.life, p.code, p.pid, p.t.data⟩
structure WinS where
  id : Int
  name : ByteArray
  tA : Option Addr
  tc : Nat
  tree : List Tr.NodeD
  active : Int
  zoom : Bool
structure WinD where
  id : Int
  name : ByteArray
  tree : List Tr.NodeD
  active : Int
  zoom : Bool
def WinS.data (x : WinS) : WinD := ⟨x.id, x.name, x.tree, x.active, x.zoom⟩
structure SessS where
  name : ByteArray
  wA : Option Addr
  wc : Nat
  wins : List Int
  active : Int
structure SessD where
  name : ByteArray
  wins : List Int
  active : Int
def SessS.data (x : SessS) : SessD := ⟨x.name, x.wins, x.active⟩
structure StS where
  w : Int
  h : Int
  lim : Int
  next : Int
  pA : Option Addr
  pc : Nat
  panes : List PaneS
  wA : Option Addr
  wc : Nat
  wins : List WinS
  eA : Option Addr
  ec : Nat
  sess : List SessS
structure StD where
  w : Int
  h : Int
  lim : Int
  next : Int
  panes : List PaneD
  wins : List WinD
  sess : List SessD
def StS.data (s : StS) : StD := ⟨s.w, s.h, s.lim, s.next, s.panes.map PaneS.data, s.wins.map WinS.data, s.sess.map SessS.data⟩
def vpL (v : VpS) : List Value := [.int .i64 v.st, .bool v.mark, .slice v.aA v.zs.length v.ac, .slice v.pA v.bs.length v.pc]
def termL (t : TermS) : List Value := vpL t.v ++ scrL t.s
def paneL (p : PaneS) : List Value := [.int .i64 p.id, .string p.cmd, .string p.dir, .int .i64 p.life, .int .i64 p.code, .int .i64 p.pid] ++ termL p.t
def winL (x : WinS) : List Value := [.int .i64 x.id, .string x.name, .slice x.tA x.tree.length x.tc, .int .i64 x.active, .bool x.zoom]
def sessL (x : SessS) : List Value := [.string x.name, .slice x.wA x.wins.length x.wc, .int .i64 x.active]
def stL (s : StS) : List Value := [.int .i64 s.w, .int .i64 s.h, .int .i64 s.lim, .int .i64 s.next, .slice s.pA s.panes.length s.pc, .slice s.wA s.wins.length s.wc, .slice s.eA s.sess.length s.ec]
def vpA (v : VpS) : Array Value := (vpL v).toArray
def termA (t : TermS) : Array Value := (termL t).toArray
def paneA (p : PaneS) : Array Value := (paneL p).toArray
def winA (x : WinS) : Array Value := (winL x).toArray
def sessA (x : SessS) : Array Value := (sessL x).toArray
def stA (s : StS) : Array Value := (stL s).toArray
theorem vpA_size (v : VpS) : (vpA v).size = 4 := rfl
theorem termA_size (t : TermS) : (termA t).size = 35 := rfl
theorem paneA_size (p : PaneS) : (paneA p).size = 41 := rfl
theorem winA_size (x : WinS) : (winA x).size = 5 := rfl
theorem sessA_size (x : SessS) : (sessA x).size = 3 := rfl
theorem stA_size (s : StS) : (stA s).size = 7 := rfl
/-! ### sizes -/
def sumN {α : Type} (f : α → Nat) (l : List α) : Nat := (l.map f).sum
theorem sumN_take {α : Type} (f : α → Nat) (l : List α) (k : Nat) (h : k < l.length) : sumN f (l.take (k + 1)) = sumN f (l.take k) + f l[k] := by
  unfold sumN; rw [List.take_succ_eq_append_getElem h, List.map_append, List.sum_append]; simp
theorem sumN_mem {α : Type} (f : α → Nat) : ∀ {l : List α} {x : α} (h : x ∈ l), f x ≤ sumN f l
  | y :: l, x, h => by
    have e : sumN f (y :: l) = f y + sumN f l := by simp [sumN]
    rcases List.mem_cons.1 h with rfl | h
    · omega
    · have := sumN_mem f h; omega
def szV (v : VpS) : Nat := v.zs.length + v.bs.length
def szT (t : TermS) : Nat := szV t.v + szS t.s
def szP (p : PaneS) : Nat := p.cmd.size + p.dir.size + szT p.t
def szW (x : WinS) : Nat := x.name.size + x.tree.length
def szE (x : SessS) : Nat := x.name.size + x.wins.length
def szSt (s : StS) : Nat := s.panes.length + sumN szP s.panes + (s.wins.length + sumN szW s.wins) + (s.sess.length + sumN szE s.sess)
theorem szV_of {v v' : VpS} (h : v'.data = v.data) : szV v' = szV v := by
  simp only [VpS.data, VpD.mk.injEq] at h
  unfold szV; rw [h.2.2.1, h.2.2.2]
theorem szT_of {t t' : TermS} (h : t'.data = t.data) : szT t' = szT t := by
  simp only [TermS.data, TermD.mk.injEq] at h
  unfold szT; rw [szV_of h.1, szS_data, h.2, ← szS_data]
theorem szP_of {p p' : PaneS} (h : p'.data = p.data) : szP p' = szP p := by
  simp only [PaneS.data, PaneD.mk.injEq] at h
  unfold szP; rw [h.2.1, h.2.2.1, szT_of h.2.2.2.2.2.2]
theorem szW_of {x x' : WinS} (h : x'.data = x.data) : szW x' = szW x := by
  simp only [WinS.data, WinD.mk.injEq] at h
  unfold szW; rw [h.2.1, h.2.2.1]
theorem szE_of {x x' : SessS} (h : x'.data = x.data) : szE x' = szE x := by
  simp only [SessS.data, SessD.mk.injEq] at h
  unfold szE; rw [h.1, h.2.1]
theorem sumN_of {α β : Type} (f : α → Nat) (g : α → β) (hf : ∀ x x', g x' = g x → f x' = f x) : ∀ {l l' : List α}, l'.map g = l.map g → sumN f l' = sumN f l
  | [], [], _ => rfl
  | [], y :: l', h => by simp at h
  | x :: l, [], h => by simp at h
  | x :: l, y :: l', h => by
    simp only [List.map_cons, List.cons.injEq] at h
    have := sumN_of f g hf h.2
    unfold sumN at this ⊢
    simp only [List.map_cons, List.sum_cons]
    rw [hf _ _ h.1, this]
theorem map_len {α β : Type} {g : α → β} {l l' : List α} (h : l'.map g = l.map g) : l'.length = l.length := by have := congrArg List.length h; simpa using this
theorem szSt_of {s s' : StS} (h : s'.data = s.data) : szSt s' = szSt s := by
  simp only [StS.data, StD.mk.injEq] at h
  obtain ⟨_, _, _, _, h1, h2, h3⟩ := h
  unfold szSt
  rw [map_len h1, map_len h2, map_len h3, sumN_of szP _ (fun _ _ => szP_of) h1, sumN_of szW _ (fun _ _ => szW_of) h2, sumN_of szE _ (fun _ _ => szE_of) h3]
structure LenV (v : VpS) : Prop where
  a : v.zs.length ≤ 9223372036854775807
  p : v.bs.length ≤ 9223372036854775807
structure LenT (t : TermS) : Prop where
  v : LenV t.v
  s : LenS t.s
structure LenP (p : PaneS) : Prop where
  c : p.cmd.size ≤ 9223372036854775807
  d : p.dir.size ≤ 9223372036854775807
  t : LenT p.t
structure LenW (x : WinS) : Prop where
  n : x.name.size ≤ 9223372036854775807
  t : x.tree.length ≤ 9223372036854775807
structure LenE (x : SessS) : Prop where
  n : x.name.size ≤ 9223372036854775807
  w : x.wins.length ≤ 9223372036854775807
structure LenSt (s : StS) : Prop where
  p : s.panes.length ≤ 9223372036854775807
  pt : ∀ p ∈ s.panes, LenP p
  w : s.wins.length ≤ 9223372036854775807
  wt : ∀ p ∈ s.wins, LenW p
  e : s.sess.length ≤ 9223372036854775807
  et : ∀ p ∈ s.sess, LenE p
/-! ### parts of rows of cells -/
def cut (C : Array Value) (o n : Nat) : Array Value := ((C.toList.drop o).take n).toArray
def put (D : Array Value) (o : Nat) (C : Array Value) : Array Value := (D.toList.take o ++ C.toList ++ D.toList.drop (o + C.toList.length)).toArray
/-- the cells of block b from o on -/
def seg (w : World) (b o n : Nat) : Array Value := cut (rowOf w b) o n
def Room (w : World) (b o n : Nat) : Prop := ∃ C T, w.heap[b]? = some (.cells C T (0, 0)) ∧ o + n ≤ C.size
def IsC (w : World) (b : Nat) : Prop := ∃ C T, w.heap[b]? = some (.cells C T (0, 0))
theorem Room.of {w : World} {b : Nat} {C : Array Value} (h : RowB w b C) {o n : Nat} (hs : o + n ≤ C.size) : Room w b o n := by obtain ⟨T, h⟩ := h; exact ⟨C, T, h, hs⟩
theorem IsC.of {w : World} {b : Nat} {C : Array Value} (h : RowB w b C) : IsC w b := by obtain ⟨T, h⟩ := h; exact ⟨C, T, h⟩
theorem row_cell {w : World} {b j : Nat} {v : Value} (h : (rowOf w b)[j]? = some v) : w.cell? ⟨b, j, none⟩ = some v := by
  unfold rowOf at h
  unfold World.cell?
  rcases hq : w.heap[b]? with _ | ob
  · rw [hq] at h; simp at h
  · rw [hq] at h
    cases ob <;> simp at h ⊢
    exact h
theorem cell_row {w : World} {b j : Nat} {v : Value} (h : w.cell? ⟨b, j, none⟩ = some v) : (rowOf w b)[j]? = some v := by
  unfold World.cell? at h
  unfold rowOf
  rcases hq : w.heap[b]? with _ | ob
  · rw [hq] at h; simp at h
  · rw [hq] at h
    cases ob <;> simp at h ⊢
    exact h
theorem seg_cell {w : World} {b o n j : Nat} {v : Value} (h : (seg w b o n)[j]? = some v) : w.cell? ⟨b, o + j, none⟩ = some v := by
  refine row_cell ?_
  unfold seg cut at h
  rw [List.getElem?_toArray, List.getElem?_take] at h
  split at h
  · rw [List.getElem?_drop, Array.getElem?_toList] at h; exact h
  · cases h
theorem seg_of {w : World} {b o n : Nat} {C : Array Value} (hn : C.size = n) (h : ∀ j v, C[j]? = some v → w.cell? ⟨b, o + j, none⟩ = some v) : seg w b o n = C := by
  apply Array.ext_getElem?
  intro j
  unfold seg cut
  rw [List.getElem?_toArray, List.getElem?_take]
  by_cases hj : j < n
  · rw [if_pos hj, List.getElem?_drop, Array.getElem?_toList]
    rw [Array.getElem?_eq_getElem (show j < C.size by omega)]
    exact cell_row (h j _ (Array.getElem?_eq_getElem (show j < C.size by omega)))
  · rw [if_neg hj, Array.getElem?_eq_none (by omega)]
theorem seg_row {w : World} {b : Nat} {C : Array Value} (h : RowB w b C) (o n : Nat) : seg w b o n = cut C o n := by unfold seg; rw [h.row]
theorem seg_alloc_past (w : World) (ob : Obj) (b o n : Nat) (h : b < w.heap.size) : seg (w.alloc ob) b o n = seg w b o n := by unfold seg; rw [rowOf_alloc_past _ _ _ h]
theorem seg_alloc_at (w : World) (C : Array Value) (T : TypeId) (m o n : Nat) (h : m = w.heap.size) : seg (w.alloc (.cells C T)) m o n = cut C o n := by unfold seg; rw [rowOf_alloc_at _ _ _ _ h]
theorem seg_setCell_other (w : World) (b' j b o n : Nat) (v : Value) (h : b ≠ b') : seg (w.setCell ⟨b', j, none⟩ v) b o n = seg w b o n := by unfold seg; rw [rowOf_setCell_other _ _ _ _ _ h]
theorem rowOf_setRow_other (w : World) (b' b : Nat) (C : Array Value) (h : b ≠ b') : rowOf (w.setRow b' C) b = rowOf w b := by unfold rowOf; rw [Go.setRow_other w b' b C h]
theorem rowOf_setRow_same (w : World) (b : Nat) (C : Array Value) (h : IsC w b) : rowOf (w.setRow b C) b = C := by
  obtain ⟨D, T, h⟩ := h
  exact (RowB.setRow ⟨T, h⟩).row
theorem seg_setRow_other (w : World) (b' b o n : Nat) (C : Array Value) (h : b ≠ b') : seg (w.setRow b' C) b o n = seg w b o n := by unfold seg; rw [rowOf_setRow_other _ _ _ _ h]
theorem seg_drew (w : World) (b o n : Nat) : seg w.drew b o n = seg w b o n := rfl
theorem rowZ_setRow_other (w : World) (b' b n : Nat) (C : Array Value) (h : b ≠ b') : RowZ (w.setRow b' C) b n = RowZ w b n := by unfold RowZ; rw [Go.setRow_other w b' b C h]
theorem cut_term_scr (t : TermS) : cut (termA t) 4 31 = scrA t.s := rfl
theorem cut_term_vp (t : TermS) : cut (termA t) 0 4 = vpA t.v := rfl
theorem cut_pane_term (p : PaneS) : cut (paneA p) 6 35 = termA p.t := rfl
/-- a part of a row that is owned is stored as a whole -/
theorem own_put {w : World} {base g n c K : Nat} {E : TypeId} {pre post : List (List Value)} {z : List Value} (hz : z.length = K) (hpre : ∀ r ∈ pre, r.length = K) (k : Nat) (hk : pre.length = k) (C : Array Value) (hC : C.size = K)
    (h : w.ownsRow base E K (.slice (some ⟨g, 0, none⟩) n c) n (pre ++ [z] ++ post).flatten) :
    (w.setRow g (put (rowOf w g) (k * K) C)).ownsRow base E K (.slice (some ⟨g, 0, none⟩) n c) n (pre ++ [C.toList] ++ post).flatten ∧ Room w g (k * K) K := by
  have hl : pre.flatten.length = k * K := by rw [flat_len K pre hpre, hk]
  have h1 := h.1
  rw [flat3, List.length_append, List.length_append, hl, hz] at h1
  rcases h.2 with ⟨hv, _⟩ | ⟨g', cap, cur, hv, hb, hg, hnc, hm, hs, ht⟩
  · cases hv
  · injection hv with e1 e2 e3
    injection e1 with e1
    injection e1 with e1
    subst e1 e3
    have hrow : rowOf w g = cur := by simp [rowOf, hg]
    have hnK : n * K ≤ cur.size := by rw [hs]; exact Nat.mul_le_mul_right K hnc
    rw [flat3] at ht
    have hCl : C.toList.length = K := by simpa using hC
    have hL : cur.toList = (pre.flatten ++ z) ++ (post.flatten ++ cur.toList.drop (n * K)) := by
      rw [← List.append_assoc, ← ht, List.take_append_drop]
    have e1 : cur.toList.take (k * K) = pre.flatten := by
      rw [hL, List.append_assoc]; exact List.take_left' hl
    have e2 : cur.toList.drop (k * K + K) = post.flatten ++ cur.toList.drop (n * K) := by
      have := List.drop_left' (l₁ := pre.flatten ++ z) (l₂ := post.flatten ++ cur.toList.drop (n * K)) (i := k * K + K) (by rw [List.length_append, hl, hz])
      rw [← hL] at this; exact this
    have hput : put (rowOf w g) (k * K) C = (pre.flatten ++ C.toList ++ (post.flatten ++ cur.toList.drop (n * K))).toArray := by
      unfold put; rw [hrow, hCl, e1, e2]
    refine ⟨⟨?_, .inr ⟨g, c, _, rfl, hb, setRow_heap w g cur _ E _ hg, hnc, hm, ?_, ?_⟩⟩, ⟨cur, E, hg, by omega⟩⟩
    · rw [flat3, List.length_append, List.length_append, hl, hCl]; exact h1
    · rw [hput]
      show (pre.flatten ++ C.toList ++ (post.flatten ++ cur.toList.drop (n * K))).length = c * K
      have hcl : cur.toList.length = cur.size := Array.length_toList
      rw [List.length_append, List.length_append, List.length_append, List.length_drop, hl, hCl, hcl]; omega
    · rw [hput, flat3]
      show ((pre.flatten ++ C.toList) ++ (post.flatten ++ cur.toList.drop (n * K))).take (n * K) = _
      rw [← List.append_assoc]
      exact List.take_left' (by rw [List.length_append, List.length_append, hl, hCl]; exact h1)
/-! ### what is read -/
structure RdV (w : World) (B : Nat) (v : VpS) : Prop where
  a : RdI w B v.aA v.zs
  p : Rd w B v.pA v.bs
structure RdT (w : World) (B : Nat) (t : TermS) : Prop where
  v : RdV w B t.v
  s : RdS w B t.s
def RdPs (w : World) (B : Nat) (ps : List PaneS) : Prop := ∀ p ∈ ps, RdT w B p.t
def RdWs (w : World) (B : Nat) (xs : List WinS) : Prop := ∀ x ∈ xs, Tr.RdN w B x.tA x.tree
def RdEs (w : World) (B : Nat) (xs : List SessS) : Prop := ∀ x ∈ xs, RdI w B x.wA x.wins
structure RdSt (w : World) (B : Nat) (s : StS) : Prop where
  p : RdK 41 w B s.pA (s.panes.map paneL)
  pt : RdPs w B s.panes
  wr : RdK 5 w B s.wA (s.wins.map winL)
  wt : RdWs w B s.wins
  e : RdK 3 w B s.eA (s.sess.map sessL)
  et : RdEs w B s.sess
section
variable {w w' : World} {B B' : Nat}
theorem RdV.below {v : VpS} (h : RdV w B v) (hB : B ≤ B') (hb : Below B' w w') : RdV w' B v := ⟨h.a.below hB hb, h.p.below hB hb⟩
theorem RdV.more {v : VpS} (h : RdV w B v) (hB : B ≤ B') : RdV w B' v := ⟨h.a.more hB, h.p.more hB⟩
theorem RdT.below {t : TermS} (h : RdT w B t) (hB : B ≤ B') (hb : Below B' w w') : RdT w' B t := ⟨h.v.below hB hb, h.s.below hB hb⟩
theorem RdT.more {t : TermS} (h : RdT w B t) (hB : B ≤ B') : RdT w B' t := ⟨h.v.more hB, h.s.more hB⟩
theorem RdPs.below {ps : List PaneS} (h : RdPs w B ps) (hB : B ≤ B') (hb : Below B' w w') : RdPs w' B ps := fun p hp => (h p hp).below hB hb
theorem RdPs.more {ps : List PaneS} (h : RdPs w B ps) (hB : B ≤ B') : RdPs w B' ps := fun p hp => (h p hp).more hB
theorem RdWs.below {ps : List WinS} (h : RdWs w B ps) (hB : B ≤ B') (hb : Below B' w w') : RdWs w' B ps := fun p hp => (h p hp).below hB hb
theorem RdWs.more {ps : List WinS} (h : RdWs w B ps) (hB : B ≤ B') : RdWs w B' ps := fun p hp => (h p hp).more hB
theorem RdEs.below {ps : List SessS} (h : RdEs w B ps) (hB : B ≤ B') (hb : Below B' w w') : RdEs w' B ps := fun p hp => (h p hp).below hB hb
theorem RdEs.more {ps : List SessS} (h : RdEs w B ps) (hB : B ≤ B') : RdEs w B' ps := fun p hp => (h p hp).more hB
theorem RdSt.below {s : StS} (h : RdSt w B s) (hB : B ≤ B') (hb : Below B' w w') : RdSt w' B s := ⟨h.p.below hB hb, h.pt.below hB hb, h.wr.below hB hb, h.wt.below hB hb, h.e.below hB hb, h.et.below hB hb⟩
theorem RdSt.more {s : StS} (h : RdSt w B s) (hB : B ≤ B') : RdSt w B' s := ⟨h.p.more hB, h.pt.more hB, h.wr.more hB, h.wt.more hB, h.e.more hB, h.et.more hB⟩
theorem rdK_seg {K : Nat} {α : Type} {L : α → List Value} {A : Option Addr} {l : List α} (hK : ∀ x, (L x).length = K) (h : RdK K w B A (l.map L)) {i : Nat} (hi : i < l.length) :
    ∃ b o, A = some ⟨b, o, none⟩ ∧ b < B ∧ seg w b (o + i * K) K = (L l[i]).toArray := by
  obtain ⟨b, o, e, hlt, hc⟩ := RdK.at_ h (i := i) (r := L l[i]) (by simp [hi])
  exact ⟨b, o, e, hlt, seg_of (by simp [hK]) (fun j v hv => hc j v (by simpa using hv))⟩
end
/-! ### what is owned -/
structure OwnV (w : World) (base : Nat) (v : VpS) : Prop where
  a : OwnI w base v.aA v.zs.length v.ac v.zs
  p : Own w base v.pA v.bs.length v.pc v.bs
structure OwnT (w : World) (base : Nat) (t : TermS) : Prop where
  v : OwnV w base t.v
  s : OwnS w base t.s
  ap : ∀ i, SS t.s i → (Value.slice t.v.aA t.v.zs.length t.v.ac).ownBlock ≠ some i
/-- the blocks of a terminal -/
def TT (t : TermS) (i : Nat) : Prop := SS t.s i ∨ (Value.slice t.v.aA t.v.zs.length t.v.ac).ownBlock = some i ∨ (Value.slice t.v.pA t.v.bs.length t.v.pc).ownBlock = some i
def OwnPs (w : World) (base : Nat) (ps : List PaneS) : Prop := (∀ p ∈ ps, OwnT w base p.t) ∧ ps.Pairwise (fun p q => ∀ i, TT p.t i → ¬ TT q.t i)
def wb (x : WinS) : Option Nat := (Value.slice x.tA x.tree.length x.tc).ownBlock
def eb (x : SessS) : Option Nat := (Value.slice x.wA x.wins.length x.wc).ownBlock
def OwnWs (w : World) (base : Nat) (xs : List WinS) : Prop := (∀ x ∈ xs, Tr.OwnN w base x.tA x.tree.length x.tc x.tree) ∧ xs.Pairwise (fun x y => ∀ i, wb x = some i → wb y ≠ some i)
def OwnEs (w : World) (base : Nat) (xs : List SessS) : Prop := (∀ x ∈ xs, OwnI w base x.wA x.wins.length x.wc x.wins) ∧ xs.Pairwise (fun x y => ∀ i, eb x = some i → eb y ≠ some i)
structure OwnSt (w : World) (base : Nat) (s : StS) : Prop where
  p : w.ownsRow base 132 41 (.slice s.pA s.panes.length s.pc) s.panes.length (s.panes.map paneL).flatten
  pt : OwnPs w base s.panes
  wr : w.ownsRow base 142 5 (.slice s.wA s.wins.length s.wc) s.wins.length (s.wins.map winL).flatten
  wt : OwnWs w base s.wins
  e : w.ownsRow base 146 3 (.slice s.eA s.sess.length s.ec) s.sess.length (s.sess.map sessL).flatten
  et : OwnEs w base s.sess
theorem pane_len (ps : List PaneS) : ∀ r ∈ ps.map paneL, r.length = 41 := by
  intro r hr; simp only [List.mem_map] at hr; obtain ⟨_, _, rfl⟩ := hr; rfl
theorem win_len (ps : List WinS) : ∀ r ∈ ps.map winL, r.length = 5 := by
  intro r hr; simp only [List.mem_map] at hr; obtain ⟨_, _, rfl⟩ := hr; rfl
theorem sess_len (ps : List SessS) : ∀ r ∈ ps.map sessL, r.length = 3 := by
  intro r hr; simp only [List.mem_map] at hr; obtain ⟨_, _, rfl⟩ := hr; rfl
section
variable {w w' : World} {B base base' : Nat}
theorem OwnV.rd {v : VpS} (h : OwnV w base v) : RdV w w.heap.size v := ⟨h.a.rd, h.p.rd⟩
theorem OwnV.below {v : VpS} (h : OwnV w base v) (hB : w.heap.size ≤ B) (hb : Below B w w') : OwnV w' base v := ⟨h.a.below hB hb, h.p.below hB hb⟩
theorem OwnV.more {v : VpS} (h : OwnV w base v) (hB : base' ≤ base) : OwnV w base' v := ⟨h.a.more hB, h.p.more hB⟩
theorem OwnV.set_ {v : VpS} (h : OwnV w base v) (b i : Nat) (x : Value) (hb : b < base) : OwnV (w.setCell ⟨b, i, none⟩ x) base v := ⟨own_setK h.a b i x hb, own_setK h.p b i x hb⟩
theorem OwnV.row_ {v : VpS} (h : OwnV w base v) (b : Nat) (D : Array Value) (hb : b < base) : OwnV (w.setRow b D) base v := ⟨own_setRow h.a b D hb, own_setRow h.p b D hb⟩
theorem OwnT.rd {t : TermS} (h : OwnT w base t) : RdT w w.heap.size t := ⟨h.v.rd, h.s.rd⟩
theorem OwnT.below {t : TermS} (h : OwnT w base t) (hB : w.heap.size ≤ B) (hb : Below B w w') : OwnT w' base t := ⟨h.v.below hB hb, h.s.below hB hb, h.ap⟩
theorem OwnT.more {t : TermS} (h : OwnT w base t) (hB : base' ≤ base) : OwnT w base' t := ⟨h.v.more hB, h.s.more hB, h.ap⟩
theorem OwnT.set_ {t : TermS} (h : OwnT w base t) (b i : Nat) (x : Value) (hb : b < base) : OwnT (w.setCell ⟨b, i, none⟩ x) base t := ⟨h.v.set_ b i x hb, h.s.set_ b i x hb, h.ap⟩
theorem OwnT.row_ {t : TermS} (h : OwnT w base t) (b : Nat) (D : Array Value) (hb : b < base) : OwnT (w.setRow b D) base t := ⟨h.v.row_ b D hb, h.s.row_ b D hb, h.ap⟩
theorem OwnT.blk {t : TermS} (h : OwnT w base t) : ∀ i, TT t i → base ≤ i ∧ i < w.heap.size := by
  rintro i (hi | hi | hi)
  · exact h.s.blk i hi
  · exact h.v.a.blk i hi
  · exact h.v.p.blk i hi
theorem OwnPs.rd {ps : List PaneS} (h : OwnPs w base ps) : RdPs w w.heap.size ps := fun p hp => (h.1 p hp).rd
theorem OwnPs.below {ps : List PaneS} (h : OwnPs w base ps) (hB : w.heap.size ≤ B) (hb : Below B w w') : OwnPs w' base ps := ⟨fun p hp => (h.1 p hp).below hB hb, h.2⟩
theorem OwnPs.more {ps : List PaneS} (h : OwnPs w base ps) (hB : base' ≤ base) : OwnPs w base' ps := ⟨fun p hp => (h.1 p hp).more hB, h.2⟩
theorem OwnPs.row_ {ps : List PaneS} (h : OwnPs w base ps) (b : Nat) (D : Array Value) (hb : b < base) : OwnPs (w.setRow b D) base ps := ⟨fun p hp => (h.1 p hp).row_ b D hb, h.2⟩
theorem OwnPs.set_ {ps : List PaneS} (h : OwnPs w base ps) (b i : Nat) (x : Value) (hb : b < base) : OwnPs (w.setCell ⟨b, i, none⟩ x) base ps := ⟨fun p hp => (h.1 p hp).set_ b i x hb, h.2⟩
theorem OwnPs.nil : OwnPs w base [] := ⟨fun p hp => (by cases hp), List.Pairwise.nil⟩
theorem OwnPs.snoc {ps : List PaneS} {p : PaneS} {mid : Nat} (h : OwnPs w base ps) (hlt : ∀ q ∈ ps, ∀ i, TT q.t i → i < mid) (hp : OwnT w mid p.t) (hm : base ≤ mid) : OwnPs w base (ps ++ [p]) :=
  ⟨fun q hq => by
    rcases List.mem_append.1 hq with hq | hq
    · exact h.1 q hq
    · rw [List.mem_singleton] at hq; subst hq; exact hp.more hm, List.pairwise_append.2 ⟨h.2, List.pairwise_singleton _ _, fun a ha b hb i hi hi' => by
      rw [List.mem_singleton] at hb; subst hb
      have h1 := hlt a ha i hi
      have h2 := (hp.blk i hi').1
      omega⟩⟩
theorem OwnWs.rd {ps : List WinS} (h : OwnWs w base ps) : RdWs w w.heap.size ps := fun p hp => (h.1 p hp).rd
theorem OwnWs.below {ps : List WinS} (h : OwnWs w base ps) (hB : w.heap.size ≤ B) (hb : Below B w w') : OwnWs w' base ps := ⟨fun p hp => (h.1 p hp).below hB hb, h.2⟩
theorem OwnWs.more {ps : List WinS} (h : OwnWs w base ps) (hB : base' ≤ base) : OwnWs w base' ps := ⟨fun p hp => (h.1 p hp).more hB, h.2⟩
theorem OwnWs.row_ {ps : List WinS} (h : OwnWs w base ps) (b : Nat) (D : Array Value) (hb : b < base) : OwnWs (w.setRow b D) base ps := ⟨fun p hp => own_setRow (h.1 p hp) b D hb, h.2⟩
theorem OwnWs.set_ {ps : List WinS} (h : OwnWs w base ps) (b i : Nat) (x : Value) (hb : b < base) : OwnWs (w.setCell ⟨b, i, none⟩ x) base ps := ⟨fun p hp => own_setK (h.1 p hp) b i x hb, h.2⟩
theorem OwnWs.nil : OwnWs w base [] := ⟨fun p hp => (by cases hp), List.Pairwise.nil⟩
theorem OwnWs.snoc {ps : List WinS} {p : WinS} {mid : Nat} (h : OwnWs w base ps) (hlt : ∀ q ∈ ps, ∀ i, wb q = some i → i < mid) (hp : Tr.OwnN w mid p.tA p.tree.length p.tc p.tree) (hm : base ≤ mid) : OwnWs w base (ps ++ [p]) :=
  ⟨fun q hq => by
    rcases List.mem_append.1 hq with hq | hq
    · exact h.1 q hq
    · rw [List.mem_singleton] at hq; subst hq; exact hp.more hm, List.pairwise_append.2 ⟨h.2, List.pairwise_singleton _ _, fun a ha b hb i hi hi' => by
      rw [List.mem_singleton] at hb; subst hb
      have h1 := hlt a ha i hi
      have h2 := (hp.blk i hi').1
      omega⟩⟩
theorem OwnEs.rd {ps : List SessS} (h : OwnEs w base ps) : RdEs w w.heap.size ps := fun p hp => (h.1 p hp).rd
theorem OwnEs.below {ps : List SessS} (h : OwnEs w base ps) (hB : w.heap.size ≤ B) (hb : Below B w w') : OwnEs w' base ps := ⟨fun p hp => (h.1 p hp).below hB hb, h.2⟩
theorem OwnEs.more {ps : List SessS} (h : OwnEs w base ps) (hB : base' ≤ base) : OwnEs w base' ps := ⟨fun p hp => (h.1 p hp).more hB, h.2⟩
theorem OwnEs.row_ {ps : List SessS} (h : OwnEs w base ps) (b : Nat) (D : Array Value) (hb : b < base) : OwnEs (w.setRow b D) base ps := ⟨fun p hp => own_setRow (h.1 p hp) b D hb, h.2⟩
theorem OwnEs.set_ {ps : List SessS} (h : OwnEs w base ps) (b i : Nat) (x : Value) (hb : b < base) : OwnEs (w.setCell ⟨b, i, none⟩ x) base ps := ⟨fun p hp => own_setK (h.1 p hp) b i x hb, h.2⟩
theorem OwnEs.nil : OwnEs w base [] := ⟨fun p hp => (by cases hp), List.Pairwise.nil⟩
theorem OwnEs.snoc {ps : List SessS} {p : SessS} {mid : Nat} (h : OwnEs w base ps) (hlt : ∀ q ∈ ps, ∀ i, eb q = some i → i < mid) (hp : OwnI w mid p.wA p.wins.length p.wc p.wins) (hm : base ≤ mid) : OwnEs w base (ps ++ [p]) :=
  ⟨fun q hq => by
    rcases List.mem_append.1 hq with hq | hq
    · exact h.1 q hq
    · rw [List.mem_singleton] at hq; subst hq; exact hp.more hm, List.pairwise_append.2 ⟨h.2, List.pairwise_singleton _ _, fun a ha b hb i hi hi' => by
      rw [List.mem_singleton] at hb; subst hb
      have h1 := hlt a ha i hi
      have h2 := (hp.blk i hi').1
      omega⟩⟩
theorem OwnSt.rd {s : StS} (h : OwnSt w base s) : RdSt w w.heap.size s := ⟨own_rdK (pane_len _) (by omega) h.p, h.pt.rd, own_rdK (win_len _) (by omega) h.wr, h.wt.rd, own_rdK (sess_len _) (by omega) h.e, h.et.rd⟩
theorem OwnSt.below {s : StS} (h : OwnSt w base s) (hB : w.heap.size ≤ B) (hb : Below B w w') : OwnSt w' base s := ⟨own_belowK h.p hB hb, h.pt.below hB hb, own_belowK h.wr hB hb, h.wt.below hB hb, own_belowK h.e hB hb, h.et.below hB hb⟩
theorem OwnSt.more {s : StS} (h : OwnSt w base s) (hB : base' ≤ base) : OwnSt w base' s := ⟨own_moreK h.p hB, h.pt.more hB, own_moreK h.wr hB, h.wt.more hB, own_moreK h.e hB, h.et.more hB⟩
theorem OwnSt.set_ {s : StS} (h : OwnSt w base s) (b i : Nat) (x : Value) (hb : b < base) : OwnSt (w.setCell ⟨b, i, none⟩ x) base s := ⟨own_setK h.p b i x hb, h.pt.set_ b i x hb, own_setK h.wr b i x hb, h.wt.set_ b i x hb, own_setK h.e b i x hb, h.et.set_ b i x hb⟩
theorem OwnSt.row_ {s : StS} (h : OwnSt w base s) (b : Nat) (D : Array Value) (hb : b < base) : OwnSt (w.setRow b D) base s := ⟨own_setRow h.p b D hb, h.pt.row_ b D hb, own_setRow h.wr b D hb, h.wt.row_ b D hb, own_setRow h.e b D hb, h.et.row_ b D hb⟩
end
end Go.Proofs.Ytkinkdgnephcbaa.St
