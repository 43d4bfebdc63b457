/- A tree of the program's parts in memory: a leaf by value, a split behind a pointer, each child in newer blocks than its split. -/
import Derived.Test.YtgejjdkgeoojmaaTrI1
namespace Go.Proofs.Ytgejjdkgeoojmaa.Tr
open Go.RowKit Go.Proofs.Ytgejjdkgeoojmaa.Bytes Go.Proofs.Ytgejjdkgeoojmaa.Rows_ Go.Proofs.Ytgejjdkgeoojmaa.RowK Go.Proofs.Ytgejjdkgeoojmaa.Opq
open Tree
set_option linter.unusedVariables false
abbrev leafV (p : Int) : Value := .iface 120 (.agg #[.int .i64 p])
abbrev ptrV (g : Nat) : Value := .iface 121 (.pointer (some ⟨g, 0, none⟩))
abbrev splitC (d : Bool) (f : Int) (a b : Value) : Array Value := #[.bool d, .int .i64 f, a, b]
def TreeAt (w : World) : Tree → Nat → Nat → Value → Prop
  | leaf p, lo, hi, v => v = leafV p
  | split d f a b, lo, hi, v => ∃ g m va vb, v = ptrV g ∧ lo ≤ g ∧ g < m ∧ m ≤ hi ∧ RowB w g (splitC d f va vb) ∧ TreeAt w a (g + 1) m va ∧ TreeAt w b m hi vb
theorem TreeAt.below {w w' : World} {B : Nat} (hb : Below B w w') : ∀ {x : Tree} {lo hi : Nat} {v : Value}, TreeAt w x lo hi v → hi ≤ B → TreeAt w' x lo hi v
  | leaf p, _, _, _, h, _ => h
  | split d f a b, lo, hi, v, h, hB => by
    obtain ⟨g, m, va, vb, e, h1, h2, h3, hr, ha, hb'⟩ := h
    exact ⟨g, m, va, vb, e, h1, h2, h3, hr.below hb (by omega), TreeAt.below hb ha (by omega), TreeAt.below hb hb' hB⟩
theorem TreeAt.mono {w : World} : ∀ {x : Tree} {lo hi lo' hi' : Nat} {v : Value}, TreeAt w x lo hi v → lo' ≤ lo → hi ≤ hi' → TreeAt w x lo' hi' v
  | leaf p, _, _, _, _, _, h, _, _ => h
  | split d f a b, lo, hi, lo', hi', v, h, h1', h2' => by
    obtain ⟨g, m, va, vb, e, h1, h2, h3, hr, ha, hb'⟩ := h
    exact ⟨g, m, va, vb, e, by omega, h2, by omega, hr, ha, TreeAt.mono hb' (Nat.le_refl _) h2'⟩
theorem TreeAt.only {S : Nat → Prop} {w w' : World} (on : Only S w w') : ∀ {x : Tree} {lo hi : Nat} {v : Value}, TreeAt w x lo hi v → (∀ i, lo ≤ i → i < hi → ¬ S i) → TreeAt w' x lo hi v
  | leaf p, _, _, _, h, _ => h
  | split d f a b, lo, hi, v, h, hS => by
    obtain ⟨g, m, va, vb, e, h1, h2, h3, hr, ha, hb'⟩ := h
    exact ⟨g, m, va, vb, e, h1, h2, h3, hr.only on (hS g h1 (by omega)), TreeAt.only on ha (fun i hi hi' => hS i (by omega) (by omega)), TreeAt.only on hb' (fun i hi hi' => hS i (by omega) (by omega))⟩
theorem TreeAt.iface {w : World} : ∀ {x : Tree} {lo hi : Nat} {v : Value}, TreeAt w x lo hi v → ∃ t u, v = .iface t u
  | leaf p, _, _, _, h => ⟨_, _, h⟩
  | split d f a b, _, _, _, h => by obtain ⟨g, m, va, vb, e, _⟩ := h; exact ⟨_, _, e⟩
theorem TreeAt.drew {w : World} {x : Tree} {lo hi : Nat} {v : Value} (h : TreeAt w x lo hi v) (hh : hi ≤ w.heap.size) : TreeAt w.drew x lo hi v := TreeAt.below (w := w) (w' := w.drew) (B := w.heap.size) (show Below w.heap.size w w.drew from ⟨rfl, rfl, rfl, Nat.le_refl _, fun _ _ => rfl⟩) h hh
theorem RdN.tail {w : World} {B : Nat} {b o : Nat} {x : NodeD} {t : List NodeD} (h : RdN w B (some ⟨b, o, none⟩) (x :: t)) : RdN w B (some ⟨b, o + 3, none⟩) t := by
  intro hn
  obtain ⟨b', o', e, hlt, hc⟩ := h (by simp)
  injection e with e; injection e with e1 e2; subst e1 e2
  refine ⟨b, o + 3, rfl, hlt, fun i r hr j v hv => ?_⟩
  have := hc (i + 1) r (by simpa using hr) j v hv
  rw [show o + 3 + i * 3 + j = o + (i + 1) * 3 + j by omega]; exact this
theorem RdN.nil {w : World} {B : Nat} {A : Option Addr} : RdN w B A [] := fun h => by simp at h
/-- what reading a part off the front leaves -/
def ReadP (w : World) (B : Nat) (o : Option (Tree × List NodeD)) (e : Ending) (w' : World) : Prop :=
  Below w.heap.size w w' ∧ match o with
  | none => e = .returned (.tuple #[.nilIface, .slice none 0 0, .bool false])
  | some (x, r) => ∃ v A c, e = .returned (.tuple #[v, .slice A r.length c, .bool true]) ∧ TreeAt w' x w.heap.size w'.heap.size v ∧ RdN w' B A r ∧ r.length ≤ c ∧ c ≤ maxLen
end Go.Proofs.Ytgejjdkgeoojmaa.Tr

