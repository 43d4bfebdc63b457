/- What a power failure leaves of a disk, as data. Plain reasoning. -/
import Derived.Test.YtckiloacbanbmaaGreatKeep
import Derived.Test.YtckiloacbanbmaaGreatSetBase
namespace Go.Proofs.YtckiloacbanbmaaGreat.DOk
open Go.RowKit Go.Proofs.YtckiloacbanbmaaGreat.Bytes Go.Proofs.YtckiloacbanbmaaGreat.Rows_ Go.Maps
set_option linter.unusedVariables false

def clampD (k m : Int) : Int := if k < 0 then 0 else if k > m then m else k
def cutN (k : Int) (f : FileD) : Nat := (f.safe + clampD k ((f.n : Int) - f.safe)).toNat
def cutF (k : Int) (f : FileD) : FileD := ⟨f.id, f.A, cutN k f, f.c, (cutN k f : Nat), f.bytes.take (cutN k f)⟩
def kAt (cs : List Int) (i : Nat) : Int := if cs.length = 0 then 0 else cs.getD (i % cs.length) 0
def cutAll (cs : List Int) : Nat → List FileD → List FileD
  | _, [] => []
  | i, f :: r => cutF (kAt cs i) f :: cutAll cs (i + 1) r
/-- the files of which the first are cut -/
theorem cutAll_snoc (cs : List Int) : ∀ (l : List FileD) (i : Nat) (f : FileD), cutAll cs i (l ++ [f]) = cutAll cs i l ++ [cutF (kAt cs (i + l.length)) f]
  | [], i, f => rfl
  | x :: r, i, f => by
    rw [List.cons_append, cutAll, cutAll_snoc cs r (i + 1) f, cutAll, List.cons_append, List.length_cons, show i + 1 + r.length = i + (r.length + 1) by omega]
theorem cutAll_len (cs : List Int) : ∀ (l : List FileD) (i : Nat), (cutAll cs i l).length = l.length
  | [], _ => rfl
  | x :: r, i => by rw [cutAll, List.length_cons, cutAll_len cs r, List.length_cons]
theorem clamp_rng {k m : Int} (hm : 0 ≤ m) : 0 ≤ clampD k m ∧ clampD k m ≤ m := by
  unfold clampD
  split
  · omega
  · split <;> omega
def Safe (f : FileD) : Prop := 0 ≤ f.safe ∧ f.safe ≤ f.n
theorem cutN_le {k : Int} {f : FileD} (h : Safe f) : cutN k f ≤ f.n ∧ ((cutN k f : Nat) : Int) = f.safe + clampD k ((f.n : Int) - f.safe) := by
  have := clamp_rng (k := k) (m := (f.n : Int) - f.safe) (by have := h.2; omega)
  have h1 := h.1
  unfold cutN
  constructor <;> omega
theorem cutF_key {k : Int} {f g : FileD} (h : keyF f = keyF g) : keyF (cutF k f) = keyF (cutF k g) := by
  unfold keyF at h
  simp only [Prod.mk.injEq] at h
  obtain ⟨h1, h2, h3, h4⟩ := h
  have e : cutN k f = cutN k g := by unfold cutN; rw [h2, h3]
  unfold keyF cutF
  simp only
  rw [h1, h4, e]
theorem cutAll_keys (cs : List Int) : ∀ (l m : List FileD) (i : Nat), l.map keyF = m.map keyF → (cutAll cs i l).map keyF = (cutAll cs i m).map keyF
  | [], [], _, _ => rfl
  | [], _ :: _, _, h => by cases h
  | _ :: _, [], _, h => by cases h
  | x :: r, y :: s, i, h => by
    rw [List.map_cons, List.map_cons] at h
    injection h with h1 h2
    rw [cutAll, cutAll, List.map_cons, List.map_cons, cutF_key h1, cutAll_keys cs r s (i + 1) h2]
theorem kept_keys (ids : List Int) : ∀ (l m : List FileD), l.map keyF = m.map keyF → (keptF ids l).map keyF = (keptF ids m).map keyF
  | [], [], _ => rfl
  | [], _ :: _, h => by cases h
  | _ :: _, [], h => by cases h
  | x :: r, y :: s, h => by
    rw [List.map_cons, List.map_cons] at h
    injection h with h1 h2
    have ih := kept_keys ids r s h2
    have hid : x.id = y.id := by unfold keyF at h1; simp only [Prod.mk.injEq] at h1; exact h1.1
    unfold keptF at ih ⊢
    by_cases hx : hasI ids x.id = true
    · rw [List.filter_cons_of_pos (by simpa using hx), List.filter_cons_of_pos (by rw [← hid]; simpa using hx), List.map_cons, List.map_cons, h1, ih]
    · rw [List.filter_cons_of_neg (by simpa using hx), List.filter_cons_of_neg (by rw [← hid]; simpa using hx), ih]
theorem hasI_same {ids ids' : List Int} (h : ∀ z, z ∈ ids ↔ z ∈ ids') (z : Int) : hasI ids z = hasI ids' z := by
  rw [Bool.eq_iff_iff, hasI_iff, hasI_iff]; exact h z
theorem kept_same {ids ids' : List Int} (h : ∀ z, z ∈ ids ↔ z ∈ ids') (fs : List FileD) : keptF ids fs = keptF ids' fs := by
  unfold keptF; congr 1; funext f; exact hasI_same h f.id
theorem kept_mem {ids : List Int} {fs : List FileD} {f : FileD} (h : f ∈ keptF ids fs) : f ∈ fs := (List.mem_filter.1 h).1
theorem kept_len (ids : List Int) (fs : List FileD) : (keptF ids fs).length ≤ fs.length := List.length_filter_le _ _
theorem kept_sep {ids : List Int} {w : World} {base : Nat} {fs : List FileD} (h : OwnBs w base fs) : OwnBs w base (keptF ids fs) :=
  ⟨fun f hf => h.1 f (kept_mem hf), List.Pairwise.filter _ h.2⟩
theorem clampI_nat (turns : Int) (n : Nat) : ∃ m : Nat, m ≤ n ∧ clampD turns (n : Int) = (m : Int) := by
  have := clamp_rng (k := turns) (m := (n : Int)) (by omega)
  exact ⟨(clampD turns n).toNat, by omega, by omega⟩
/-- what the failure answers -/
def CrashD (P : Prop) (room next : Int) (fs : List FileD) (ks : List LinkD) (ts : List TurnD) (m : Nat) (cs : List Int) (r f x : Int) (gs : List FileD) (ks' : List LinkD) (ts' : List TurnD) (o : Value) : Prop :=
  (P ∧ o = .bool true ∧ r = room ∧ f = -1 ∧ x = next ∧ gs.map keyF = (cutAll cs 0 (keptF ((dirAt ks (ts.take m)).map (·.2)) fs)).map keyF ∧ ks' = dirAt ks (ts.take m) ∧ ts' = []) ∨
  (¬ P ∧ o = .bool false ∧ r = 0 ∧ f = 0 ∧ x = 0 ∧ gs = [] ∧ ks' = [] ∧ ts' = [])
end Go.Proofs.YtckiloacbanbmaaGreat.DOk
