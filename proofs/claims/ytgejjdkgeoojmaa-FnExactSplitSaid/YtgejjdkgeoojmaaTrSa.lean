/- Splitting a leaf, as data; parts of a list of nodes in memory. -/
import Derived.Test.YtgejjdkgeoojmaaTrSy
import Derived.Test.YtgejjdkgeoojmaaTrPu
namespace Go.Proofs.Ytgejjdkgeoojmaa.Tr
open Go.RowKit Go.Proofs.Ytgejjdkgeoojmaa.Bytes Go.Proofs.Ytgejjdkgeoojmaa.Rows_ Go.Proofs.Ytgejjdkgeoojmaa.RowK Go.Proofs.Ytgejjdkgeoojmaa.DOk Go.Proofs.Ytgejjdkgeoojmaa.Opq
open Tree
set_option linter.unusedVariables false
theorem leaf_in : ∀ (x : Tree) (p : Int), p ∈ x.leaves → (⟨p, false, 0⟩ : NodeD) ∈ x.nodes
  | leaf q, p, h => by simp [leaves] at h; subst h; simp [nodes]
  | split d f a b, p, h => by
    simp [leaves] at h
    simp only [nodes, List.mem_cons, List.mem_append]
    rcases h with h | h
    · exact .inr (.inl (leaf_in a p h))
    · exact .inr (.inr (leaf_in b p h))
/-- a pane that has a place is a leaf of a tree -/
theorem pof_leaf {t : List NodeD} {a b p : Int} {r : RectD} (h : pofD (listD t a b) p = some r) : okT t = true ∧ RB r ∧ ∃ i, nidx t ⟨p, false, 0⟩ = some i := by
  unfold pofD at h
  have hm := List.mem_of_find?_eq_some h
  have hp : r.pane = p := by have := List.find?_some h; simpa using this
  have hrb := listD_rb t a b r hm
  unfold listD at hm
  rcases hpl : placesD t a b with _ | zs <;> rw [hpl] at hm
  · simp at hm
  · simp at hm
    obtain ⟨x, hx, he⟩ := placesD_panes hpl
    obtain ⟨ht, _, _, _⟩ := treeD_some.1 hx
    have hl : p ∈ x.leaves := by rw [← he, ← hp]; exact List.mem_map.2 ⟨r, hm, rfl⟩
    have hn := leaf_in x p hl
    rw [← ht] at hn
    refine ⟨by unfold okT; rw [hx]; rfl, hrb, ?_⟩
    rcases hi : nidx t ⟨p, false, 0⟩ with _ | i
    · unfold nidx at hi
      rw [List.findIdx?_eq_none_iff] at hi
      have := hi _ hn
      simp at this
    · exact ⟨i, rfl⟩
def splitL (t : List NodeD) (p fresh : Int) (d : Bool) (n : Int) (i : Nat) : List NodeD := t.take i ++ [⟨0, d, (n - 1) / 2⟩, ⟨p, false, 0⟩, ⟨fresh, false, 0⟩] ++ t.drop (i + 1)
def splitD (t : List NodeD) (p fresh : Int) (d : Bool) (a b : Int) : Option (List NodeD) :=
  match pofD (listD t a b) p with
  | none => none
  | some r => if ext d r < 3 then none else
    match nidx t ⟨p, false, 0⟩ with
    | none => none
    | some i => if okT (splitL t p fresh d (ext d r) i) = true then some (splitL t p fresh d (ext d r) i) else none
theorem splitD_len {t : List NodeD} {p fresh a b : Int} {d : Bool} : ((splitD t p fresh d a b).getD []).length ≤ 31 := by
  unfold splitD
  rcases pofD (listD t a b) p with _ | r
  · simp
  · simp only
    by_cases h : ext d r < 3
    · rw [if_pos h]; simp
    · rw [if_neg h]
      rcases nidx t ⟨p, false, 0⟩ with _ | i
      · simp
      · simp only
        by_cases ho : okT (splitL t p fresh d (ext d r) i) = true
        · rw [if_pos ho]; simpa using (okT_len ho).1
        · rw [if_neg ho]; simp
theorem rdK_take {k : Nat} {w : World} {B : Nat} {A : Option Addr} {rows : List (List Value)} (h : RdK k w B A rows) (i : Nat) : RdK k w B A (rows.take i) := by
  intro hn
  have h0 : 0 < rows.length := by rw [List.length_take] at hn; omega
  obtain ⟨b, o, e, hlt, hc⟩ := h h0
  refine ⟨b, o, e, hlt, fun j r hr q v hv => hc j r ?_ q v hv⟩
  rw [List.getElem?_take] at hr
  split at hr
  · exact hr
  · cases hr
theorem rdK_drop {k : Nat} {w : World} {B : Nat} {b o : Nat} {rows : List (List Value)} (h : RdK k w B (some ⟨b, o, none⟩) rows) (i : Nat) : RdK k w B (some ⟨b, o + i * k, none⟩) (rows.drop i) := by
  intro hn
  have h0 : 0 < rows.length := by rw [List.length_drop] at hn; omega
  obtain ⟨b', o', e, hlt, hc⟩ := h h0
  injection e with e; injection e with e1 e2; subst e1 e2
  refine ⟨b, o + i * k, rfl, hlt, fun j r hr q v hv => ?_⟩
  rw [List.getElem?_drop] at hr
  have := hc (i + j) r hr q v hv
  rw [show o + i * k + j * k + q = o + (i + j) * k + q by rw [Nat.add_mul]; omega]; exact this
theorem parts3 (v : World) {p q s : PartD} (hp : OkPart 3 v p) (hq : OkPart 3 v q) (hs : OkPart 3 v s) : RdPs 3 (v.alloc (.cells #[.slice p.A p.n p.c, .slice q.A q.n q.c, .slice s.A s.n s.c] 49)) (some ⟨v.heap.size, 0, none⟩) [p, q, s] := by
  have hb := (Below.refl v.heap.size v).alloc (Nat.le_refl _) (.cells #[.slice p.A p.n p.c, .slice q.A q.n q.c, .slice s.A s.n s.c] 49)
  have hr := RowB.new v #[.slice p.A p.n p.c, .slice q.A q.n q.c, .slice s.A s.n s.c] 49
  have up : ∀ {x : PartD}, OkPart 3 v x → OkPart 3 (v.alloc (.cells #[.slice p.A p.n p.c, .slice q.A q.n q.c, .slice s.A s.n s.c] 49)) x := fun h => ⟨h.rd.below (by simp) hb |>.more (by simp), h.len, h.one, h.nil, h.cnt, h.bd⟩
  refine ⟨fun _ => ⟨v.heap.size, 0, rfl, by simp, fun k hk => ?_⟩, fun x hx => ?_⟩
  · have hk2 : k < 3 := hk
    rcases k with _ | _ | _ | k
    · exact hr.cell 0
    · exact hr.cell 1
    · exact hr.cell 2
    · omega
  · simp at hx
    rcases hx with rfl | rfl | rfl
    · exact up hp
    · exact up hq
    · exact up hs
theorem okPartN {w : World} {A : Option Addr} {n c : Nat} {cs : List NodeD} (hr : RdN w w.heap.size A cs) (hl : cs.length = n) (hA : A = none → n = 0 ∧ c = 0) (hn : n ≤ 1000) : OkPart 3 w ⟨A, n, c, cs.map nodeR⟩ :=
  ⟨hr, lenN cs, oneN cs, hA, by simp [hl], hn⟩
theorem own3 {w : World} {base : Nat} {A A1 A2 A3 : Option Addr} {c c1 c2 c3 n1 n2 n3 : Nat} {xa xb xc : List NodeD} (h1 : xa.length = n1) (h2 : xb.length = n2) (h3 : xc.length = n3) (h : w.ownsRow base 90 3 (.slice A (sumN [⟨A1, n1, c1, xa.map nodeR⟩, ⟨A2, n2, c2, xb.map nodeR⟩, ⟨A3, n3, c3, xc.map nodeR⟩]) c) (sumN [⟨A1, n1, c1, xa.map nodeR⟩, ⟨A2, n2, c2, xb.map nodeR⟩, ⟨A3, n3, c3, xc.map nodeR⟩]) (catD [⟨A1, n1, c1, xa.map nodeR⟩, ⟨A2, n2, c2, xb.map nodeR⟩, ⟨A3, n3, c3, xc.map nodeR⟩]).flatten) : OwnN w base A (xa ++ xb ++ xc).length c (xa ++ xb ++ xc) := by
  subst h1 h2 h3
  unfold OwnN
  simpa [sumN, catD, Nat.add_assoc] using h
theorem three_ownN (w : World) (x y z : NodeD) : OwnN (w.alloc (.cells #[.int .i64 x.pane, .bool x.down, .int .i64 x.first, .int .i64 y.pane, .bool y.down, .int .i64 y.first, .int .i64 z.pane, .bool z.down, .int .i64 z.first] 90)) w.heap.size (some ⟨w.heap.size, 0, none⟩) 3 3 [x, y, z] :=
  ⟨rfl, .inr ⟨w.heap.size, 3, _, rfl, Nat.le_refl _, heap_alloc_new _ _, Nat.le_refl _, by unfold maxLen; omega, rfl, rfl⟩⟩
end Go.Proofs.Ytgejjdkgeoojmaa.Tr

