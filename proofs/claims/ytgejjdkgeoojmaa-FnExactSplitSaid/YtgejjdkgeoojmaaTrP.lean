/- The places of a tree in an area, as plain data. -/
import Derived.Test.YtgejjdkgeoojmaaTrM
namespace Go.Proofs.Ytgejjdkgeoojmaa.Tr
set_option linter.unusedVariables false
open Tree
def ext (d : Bool) (r : RectD) : Int := if d = true then r.h else r.w
def shareD (f n : Int) : Int := if f ≤ n - 2 then f else n - 2
def areaA (d : Bool) (f : Int) (r : RectD) : RectD := if d = true then ⟨r.pane, r.x, r.y, r.w, shareD f r.h⟩ else ⟨r.pane, r.x, r.y, shareD f r.w, r.h⟩
def areaB (d : Bool) (f : Int) (r : RectD) : RectD := if d = true then ⟨r.pane, r.x, r.y + shareD f r.h + 1, r.w, r.h - shareD f r.h - 1⟩ else ⟨r.pane, r.x + shareD f r.w + 1, r.y, r.w - shareD f r.w - 1, r.h⟩
def RB (r : RectD) : Prop := 0 ≤ r.x ∧ 0 ≤ r.y ∧ 1 ≤ r.w ∧ 1 ≤ r.h ∧ r.x + r.w ≤ 120 ∧ r.y + r.h ≤ 120
theorem share_bd {f n : Int} (hf : 1 ≤ f) (hn : 3 ≤ n) : 1 ≤ shareD f n ∧ shareD f n ≤ n - 2 := by unfold shareD; split <;> omega
theorem RB.areaA {d : Bool} {f : Int} {r : RectD} (h : RB r) (hf : 1 ≤ f) (he : 3 ≤ ext d r) : RB (areaA d f r) := by
  obtain ⟨h1, h2, h3, h4, h5, h6⟩ := h
  cases d
  · have := share_bd hf (show 3 ≤ r.w from he); simp only [Tr.areaA, RB, Bool.false_eq_true, if_false]; omega
  · have := share_bd hf (show 3 ≤ r.h from he); simp only [Tr.areaA, RB, if_true]; omega
theorem RB.areaB {d : Bool} {f : Int} {r : RectD} (h : RB r) (hf : 1 ≤ f) (he : 3 ≤ ext d r) : RB (areaB d f r) := by
  obtain ⟨h1, h2, h3, h4, h5, h6⟩ := h
  cases d
  · have := share_bd hf (show 3 ≤ r.w from he); simp only [Tr.areaB, RB, Bool.false_eq_true, if_false]; omega
  · have := share_bd hf (show 3 ≤ r.h from he); simp only [Tr.areaB, RB, if_true]; omega
def placeT : Tree → RectD → Option (List RectD)
  | leaf p, r => some [⟨p, r.x, r.y, r.w, r.h⟩]
  | split d f a b, r =>
    if ext d r < 3 then none
    else match placeT a (areaA d f r), placeT b (areaB d f r) with
      | some x, some y => some (x ++ y)
      | _, _ => none
theorem placeT_split {d : Bool} {f : Int} {a b : Tree} {r : RectD} {zs : List RectD} (h : placeT (split d f a b) r = some zs) :
    3 ≤ ext d r ∧ ∃ x y, placeT a (areaA d f r) = some x ∧ placeT b (areaB d f r) = some y ∧ zs = x ++ y := by
  unfold placeT at h
  by_cases he : ext d r < 3
  · rw [if_pos he] at h; simp at h
  · rw [if_neg he] at h
    rcases ha : placeT a (areaA d f r) with _ | x <;> rcases hb : placeT b (areaB d f r) with _ | y <;> simp [ha, hb] at h
    exact ⟨by omega, x, y, rfl, rfl, h.symm⟩
theorem placeT_panes : ∀ (t : Tree) (r : RectD) (zs : List RectD), placeT t r = some zs → zs.map (·.pane) = t.leaves
  | leaf p, r, zs, h => by simp [placeT] at h; subst h; rfl
  | split d f a b, r, zs, h => by
    obtain ⟨_, x, y, hx, hy, rfl⟩ := placeT_split h
    rw [List.map_append, placeT_panes a _ _ hx, placeT_panes b _ _ hy]; rfl
theorem leaves_le : ∀ t : Tree, t.leaves.length ≤ t.nodes.length
  | leaf p => by simp [leaves, nodes]
  | split d f a b => by have := leaves_le a; have := leaves_le b; simp [leaves, nodes]; omega
theorem placeT_rb : ∀ (t : Tree) (r : RectD) (zs : List RectD), t.ok → RB r → placeT t r = some zs → ∀ z ∈ zs, RB z
  | leaf p, r, zs, _, hr, h, z, hz => by simp [placeT] at h; subst h; simp at hz; subst hz; exact hr
  | split d f a b, r, zs, ho, hr, h, z, hz => by
    obtain ⟨he, x, y, hx, hy, rfl⟩ := placeT_split h
    rw [List.mem_append] at hz
    rcases hz with hz | hz
    · exact placeT_rb a _ _ ho.2.2.1 (hr.areaA ho.1 he) hx z hz
    · exact placeT_rb b _ _ ho.2.2.2 (hr.areaB ho.1 he) hy z hz
def placesD (t : List NodeD) (w h : Int) : Option (List RectD) :=
  match treeD t with
  | none => none
  | some x => if (1 ≤ w ∧ w ≤ 120) ∧ 1 ≤ h ∧ h ≤ 120 then placeT x ⟨0, 0, 0, w, h⟩ else none
def listD (t : List NodeD) (w h : Int) : List RectD := (placesD t w h).getD []
theorem placesD_some {t : List NodeD} {w h : Int} {zs : List RectD} (hp : placesD t w h = some zs) :
    ∃ x, treeD t = some x ∧ placeT x ⟨0, 0, 0, w, h⟩ = some zs ∧ (1 ≤ w ∧ w ≤ 120) ∧ 1 ≤ h ∧ h ≤ 120 := by
  unfold placesD at hp
  rcases ht : treeD t with _ | x <;> rw [ht] at hp
  · simp at hp
  · simp only at hp
    by_cases hc : (1 ≤ w ∧ w ≤ 120) ∧ 1 ≤ h ∧ h ≤ 120
    · rw [if_pos hc] at hp; exact ⟨x, rfl, hp, hc⟩
    · rw [if_neg hc] at hp; simp at hp
theorem placesD_rb {t : List NodeD} {w h : Int} {zs : List RectD} (hp : placesD t w h = some zs) : ∀ z ∈ zs, RB z := by
  obtain ⟨x, ht, hx, h1, h2⟩ := placesD_some hp
  obtain ⟨_, ho, _, _⟩ := treeD_some.1 ht
  exact placeT_rb x _ _ ho (by simp [RB]; omega) hx
theorem placesD_panes {t : List NodeD} {w h : Int} {zs : List RectD} (hp : placesD t w h = some zs) : ∃ x, treeD t = some x ∧ zs.map (·.pane) = x.leaves := by
  obtain ⟨x, ht, hx, _⟩ := placesD_some hp
  exact ⟨x, ht, placeT_panes x _ _ hx⟩
theorem treeD_len {t : List NodeD} {x : Tree} (h : treeD t = some x) : t.length ≤ 31 ∧ x.leaves.length ≤ 31 ∧ 0 < t.length := by
  obtain ⟨rfl, ho, hl, _⟩ := treeD_some.1 h
  have := leaves_le x
  exact ⟨hl, by omega, nodes_pos x⟩
theorem placesD_len {t : List NodeD} {w h : Int} {zs : List RectD} (hp : placesD t w h = some zs) : zs.length ≤ 31 := by
  obtain ⟨x, ht, hm⟩ := placesD_panes hp
  have := (treeD_len ht).2.1
  have e := congrArg List.length hm
  rw [List.length_map] at e; omega
theorem listD_len (t : List NodeD) (w h : Int) : (listD t w h).length ≤ 31 := by
  unfold listD
  rcases hp : placesD t w h with _ | zs
  · simp
  · simpa using placesD_len hp
theorem listD_rb (t : List NodeD) (w h : Int) : ∀ z ∈ listD t w h, RB z := by
  unfold listD
  rcases hp : placesD t w h with _ | zs
  · simp
  · simpa using placesD_rb hp
end Go.Proofs.Ytgejjdkgeoojmaa.Tr

