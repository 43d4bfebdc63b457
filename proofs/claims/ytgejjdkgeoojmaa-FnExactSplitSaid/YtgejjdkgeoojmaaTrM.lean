/- Trees of panes as plain data: their nodes in preorder, reading them back, their ends, panes and places. -/
import Derived.WalkKit
namespace Go.Proofs.Ytgejjdkgeoojmaa.Tr
set_option linter.unusedVariables false
structure NodeD where
  pane : Int
  down : Bool
  first : Int
deriving DecidableEq
instance : Inhabited NodeD := ⟨⟨0, false, 0⟩⟩
structure RectD where
  pane : Int
  x : Int
  y : Int
  w : Int
  h : Int
deriving DecidableEq
instance : Inhabited RectD := ⟨⟨0, 0, 0, 0, 0⟩⟩
def leafB (n : NodeD) : Bool := decide (1 ≤ n.pane) && (decide (n.pane ≤ 1000000) && (!n.down && n.first == 0))
def splitB (n : NodeD) : Bool := n.pane == 0 && (decide (1 ≤ n.first) && decide (n.first ≤ 120))
inductive Tree where
  | leaf (p : Int)
  | split (d : Bool) (f : Int) (a b : Tree)
namespace Tree
def nodes : Tree → List NodeD
  | leaf p => [⟨p, false, 0⟩]
  | split d f a b => ⟨0, d, f⟩ :: (nodes a ++ nodes b)
def leaves : Tree → List Int
  | leaf p => [p]
  | split _ _ a b => leaves a ++ leaves b
def ok : Tree → Prop
  | leaf p => 1 ≤ p ∧ p ≤ 1000000
  | split _ f a b => 1 ≤ f ∧ f ≤ 120 ∧ ok a ∧ ok b
end Tree
open Tree
theorem leafB_leaf {p : Int} (h : 1 ≤ p ∧ p ≤ 1000000) : leafB ⟨p, false, 0⟩ = true := by simp [leafB, h]
theorem leafB_split (d : Bool) (f : Int) : leafB ⟨0, d, f⟩ = false := by simp [leafB]
theorem splitB_split (d : Bool) {f : Int} (h : 1 ≤ f ∧ f ≤ 120) : splitB ⟨0, d, f⟩ = true := by simp [splitB, h]
theorem leafB_form {n : NodeD} (h : leafB n = true) : n = ⟨n.pane, false, 0⟩ ∧ 1 ≤ n.pane ∧ n.pane ≤ 1000000 := by
  simp [leafB] at h; obtain ⟨h1, h2, h3, h4⟩ := h
  refine ⟨?_, h1, h2⟩; cases n; simp_all
theorem splitB_form {n : NodeD} (h : splitB n = true) : n = ⟨0, n.down, n.first⟩ ∧ 1 ≤ n.first ∧ n.first ≤ 120 := by
  simp [splitB] at h; obtain ⟨h1, h2, h3⟩ := h
  refine ⟨?_, h2, h3⟩; cases n; simp_all
theorem nodes_pos : ∀ t : Tree, 0 < t.nodes.length
  | leaf _ => by simp [nodes]
  | split _ _ a b => by simp [nodes]
/-- reading a tree off the front, at most k nodes deep -/
def readT : Nat → List NodeD → Option (Tree × List NodeD)
  | 0, _ => none
  | _ + 1, [] => none
  | k + 1, n :: r =>
    if leafB n = true then some (leaf n.pane, r)
    else if splitB n = true then
      match readT k r with
      | none => none
      | some (a, r1) => match readT k r1 with
        | none => none
        | some (b, r2) => some (split n.down n.first a b, r2)
    else none
theorem readT_sound : ∀ (k : Nat) (t : List NodeD) (x : Tree) (r : List NodeD), readT k t = some (x, r) → t = x.nodes ++ r ∧ x.ok
  | 0, _, _, _, h => by simp [readT] at h
  | _ + 1, [], _, _, h => by simp [readT] at h
  | k + 1, n :: s, x, r, h => by
    unfold readT at h
    by_cases hl : leafB n = true
    · rw [if_pos hl] at h
      simp at h; obtain ⟨rfl, rfl⟩ := h
      obtain ⟨e, h1⟩ := leafB_form hl
      exact ⟨by simp only [nodes, List.singleton_append]; rw [← e], h1⟩
    · rw [if_neg hl] at h
      by_cases hs : splitB n = true
      · rw [if_pos hs] at h
        obtain ⟨e, h1⟩ := splitB_form hs
        rcases ha : readT k s with _ | ⟨a, r1⟩ <;> rw [ha] at h
        · simp at h
        · simp only at h
          rcases hb : readT k r1 with _ | ⟨b, r2⟩ <;> rw [hb] at h
          · simp at h
          · simp at h; obtain ⟨rfl, rfl⟩ := h
            obtain ⟨e1, o1⟩ := readT_sound k s a r1 ha
            obtain ⟨e2, o2⟩ := readT_sound k r1 b r2 hb
            refine ⟨?_, h1.1, h1.2, o1, o2⟩
            simp only [nodes, List.cons_append, List.append_assoc]
            rw [← e2, ← e1, ← e]
      · rw [if_neg hs] at h; simp at h
theorem readT_all : ∀ (x : Tree) (k : Nat) (r : List NodeD), x.ok → x.nodes.length ≤ k → readT k (x.nodes ++ r) = some (x, r)
  | leaf p, 0, r, _, h => by simp [nodes] at h
  | leaf p, k + 1, r, ho, h => by simp only [nodes, List.singleton_append, readT]; rw [if_pos (leafB_leaf ho)]
  | split d f a b, 0, r, _, h => by simp [nodes] at h
  | split d f a b, k + 1, r, ho, h => by
    obtain ⟨h1, h2, oa, ob⟩ := ho
    simp only [nodes, List.length_cons, List.length_append] at h
    have ha := readT_all a k (b.nodes ++ r) oa (by omega)
    have hb := readT_all b k r ob (by omega)
    simp only [nodes, List.cons_append, List.append_assoc, readT]
    rw [if_neg (by simp [leafB_split]), if_pos (splitB_split d ⟨h1, h2⟩), ha]
    simp only [hb]
/-- the places of the leaves' panes in any list of nodes -/
def panesD (t : List NodeD) : List Int := (t.filter leafB).map (·.pane)
theorem panes_nodes : ∀ x : Tree, x.ok → panesD x.nodes = x.leaves
  | leaf p, h => by simp [panesD, nodes, leaves, leafB_leaf h]
  | split d f a b, h => by
    have ha := panes_nodes a h.2.2.1
    have hb := panes_nodes b h.2.2.2
    simp only [panesD] at ha hb
    simp only [panesD, nodes, leaves, List.filter_cons, leafB_split, List.filter_append, Bool.false_eq_true, if_false, List.map_append, ha, hb]
/-- the tree that a list of nodes is -/
def treeD (t : List NodeD) : Option Tree :=
  if 31 < t.length then none
  else match readT t.length t with
    | some (x, []) => if (panesD t).Nodup then some x else none
    | _ => none
theorem treeD_some {t : List NodeD} {x : Tree} : treeD t = some x ↔ t = x.nodes ∧ x.ok ∧ t.length ≤ 31 ∧ x.leaves.Nodup := by
  unfold treeD
  constructor
  · intro h
    by_cases hl : 31 < t.length
    · rw [if_pos hl] at h; simp at h
    · rw [if_neg hl] at h
      rcases hr : readT t.length t with _ | ⟨y, _ | ⟨n, r⟩⟩ <;> rw [hr] at h <;> simp at h
      obtain ⟨hn, rfl⟩ := h
      obtain ⟨e, ho⟩ := readT_sound _ _ _ _ hr
      rw [List.append_nil] at e
      rw [e, panes_nodes _ ho] at hn
      exact ⟨e, ho, by omega, hn⟩
  · rintro ⟨rfl, ho, hl, hn⟩
    have := readT_all x x.nodes.length [] ho (Nat.le_refl _)
    rw [List.append_nil] at this
    rw [if_neg (by omega), this]
    simp only [panes_nodes _ ho, if_pos hn]
/-! ### the model's way: counting what is still needed -/
def endL : Nat → List NodeD → Option Nat
  | _, [] => none
  | m, n :: r =>
    let m' := if n.pane = 0 then m + 1 else m - 1
    if m' = 0 then some 1 else (endL m' r).map (· + 1)
theorem endL_tree : ∀ (x : Tree) (m : Nat) (r : List NodeD), x.ok → endL (m + 1) (x.nodes ++ r) = if m = 0 then some x.nodes.length else (endL m r).map (· + x.nodes.length)
  | leaf p, m, r, ho => by
    have hp : p ≠ 0 := by have := ho.1; omega
    simp only [nodes, List.singleton_append, endL, if_neg hp, Nat.add_sub_cancel, List.length_singleton]
  | split d f a b, m, r, ho => by
    have hb := endL_tree b m r ho.2.2.2
    have ha := endL_tree a (m + 1) (b.nodes ++ r) ho.2.2.1
    simp only [nodes, List.cons_append, List.append_assoc, endL]
    rw [if_pos trivial, if_neg (by omega), ha, if_neg (by omega), hb]
    by_cases hm : m = 0
    · simp only [if_pos hm, Option.map_some, List.length_cons, List.length_append]; congr 1; omega
    · simp only [if_neg hm, Option.map_map, List.length_cons, List.length_append]
      rcases endL m r with _ | e
      · rfl
      · simp only [Option.map_some, Function.comp]; congr 1; omega
def nodeB (n : NodeD) : Bool := leafB n || splitB n
theorem forest : ∀ (t : List NodeD) (m : Nat), 0 < m → (∀ n ∈ t, nodeB n = true) → endL m t = some t.length → ∃ xs : List Tree, xs.length = m ∧ (∀ x ∈ xs, x.ok) ∧ t = (xs.map nodes).flatten
  | [], m, _, _, h => by simp [endL] at h
  | n :: r, m, hm, hv, h => by
    have hn : nodeB n = true := hv n (by simp)
    have hr : ∀ k ∈ r, nodeB k = true := fun k hk => hv k (by simp [hk])
    simp only [endL, List.length_cons] at h
    unfold nodeB at hn
    rw [Bool.or_eq_true] at hn
    rcases hn with hn | hn
    · obtain ⟨e, h1, h2⟩ := leafB_form hn
      rw [if_neg (show ¬ n.pane = 0 by omega)] at h
      by_cases h0 : m - 1 = 0
      · rw [if_pos h0] at h
        have hl : r = [] := by
          have : r.length = 0 := by injection h with h; omega
          exact List.length_eq_zero_iff.1 this
        subst hl
        refine ⟨[leaf n.pane], by simp; omega, ?_, ?_⟩
        · intro x hx; simp at hx; subst hx; exact ⟨h1, h2⟩
        · simp [nodes, ← e]
      · rw [if_neg h0] at h
        have h' : endL (m - 1) r = some r.length := by
          rcases he : endL (m - 1) r with _ | e'
          · rw [he] at h; simp at h
          · rw [he] at h; simp at h; rw [h]
        obtain ⟨xs, hl, ho, hf⟩ := forest r (m - 1) (by omega) hr h'
        refine ⟨leaf n.pane :: xs, by simp; omega, ?_, ?_⟩
        · intro x hx; simp at hx; rcases hx with rfl | hx
          · exact ⟨h1, h2⟩
          · exact ho x hx
        · simp only [List.map_cons, List.flatten_cons, nodes, ← hf, List.singleton_append]; rw [← e]
    · obtain ⟨e, h1, h2⟩ := splitB_form hn
      have hp : n.pane = 0 := by rw [e]
      rw [if_pos hp, if_neg (by omega)] at h
      have h' : endL (m + 1) r = some r.length := by
        rcases he : endL (m + 1) r with _ | e'
        · rw [he] at h; simp at h
        · rw [he] at h; simp at h; rw [h]
      obtain ⟨xs, hl, ho, hf⟩ := forest r (m + 1) (by omega) hr h'
      match xs, hl, ho, hf with
      | a :: b :: rest, hl, ho, hf =>
        refine ⟨split n.down n.first a b :: rest, by simp at hl ⊢; omega, ?_, ?_⟩
        · intro x hx; simp at hx; rcases hx with rfl | hx
          · exact ⟨h1, h2, ho a (by simp), ho b (by simp)⟩
          · exact ho x (by simp [hx])
        · simp only [List.map_cons, List.flatten_cons, nodes, List.cons_append]
          rw [hf]; simp only [List.map_cons, List.flatten_cons, List.append_assoc]; rw [← e]
      | [a], hl, _, _ => simp at hl; omega
      | [], hl, _, _ => simp at hl
theorem nodes_valid : ∀ x : Tree, x.ok → ∀ n ∈ x.nodes, nodeB n = true
  | leaf p, h, n, hn => by simp [nodes] at hn; subst hn; simp [nodeB, leafB_leaf h]
  | split d f a b, h, n, hn => by
    simp [nodes] at hn
    rcases hn with rfl | hn | hn
    · simp [nodeB, splitB_split d ⟨h.1, h.2.1⟩]
    · exact nodes_valid a h.2.2.1 n hn
    · exact nodes_valid b h.2.2.2 n hn
/-- the model's test of a tree -/
def okN (t : List NodeD) : Prop := t.length ≤ 31 ∧ endL 1 t = some t.length ∧ (∀ n ∈ t, nodeB n = true) ∧ (panesD t).Nodup
theorem okN_iff (t : List NodeD) : okN t ↔ (treeD t).isSome = true := by
  constructor
  · rintro ⟨h1, h2, h3, h4⟩
    obtain ⟨xs, hl, ho, hf⟩ := forest t 1 (by omega) h3 h2
    match xs, hl, ho, hf with
    | [x], _, ho, hf =>
      simp at hf
      have hok := ho x (by simp)
      rw [hf, panes_nodes x hok] at h4
      rw [treeD_some.2 ⟨hf, hok, h1, h4⟩]; rfl
    | [], hl, _, _ => simp at hl
    | _ :: _ :: _, hl, _, _ => simp at hl
  · intro h
    obtain ⟨x, hx⟩ := Option.isSome_iff_exists.1 h
    obtain ⟨rfl, ho, hl, hn⟩ := treeD_some.1 hx
    refine ⟨hl, ?_, nodes_valid x ho, by rw [panes_nodes x ho]; exact hn⟩
    have := endL_tree x 0 [] ho
    simpa using this
end Go.Proofs.Ytgejjdkgeoojmaa.Tr

