/- Plain facts on a journal, as a list of bytes: how it is written, how it is read; no program is named. -/
import Derived.Test.YteiojpglhmikoaaFrameRead
namespace Go.Proofs.Yteiojpglhmikoaa.Frame
open Go.Proofs.Yteiojpglhmikoaa.Var Go.Proofs.Yteiojpglhmikoaa.Crc

/-! ### a journal, written -/
def jrK : Int → List (List Int) → Bool
  | _, [] => true
  | s, d :: l => frK s d.length && jrK (s + 1) l
def jrB : Int → List (List Int) → List Int
  | _, [] => []
  | s, d :: l => frO s d ++ jrB (s + 1) l
def jrO (s : Int) (l : List (List Int)) : List Int := if jrK s l = true then jrB s l else []
theorem jrK_app (a b : List (List Int)) : ∀ s, jrK s (a ++ b) = (jrK s a && jrK (s + a.length) b) := by
  induction a with
  | nil => intro s; simp [jrK]
  | cons d a ih =>
    intro s
    rw [List.cons_append, jrK, jrK, ih, Bool.and_assoc, List.length_cons, show s + 1 + (a.length : Int) = s + ((a.length + 1 : Nat) : Int) by omega]
theorem jrB_app (a b : List (List Int)) : ∀ s, jrB s (a ++ b) = jrB s a ++ jrB (s + a.length) b := by
  induction a with
  | nil => intro s; simp [jrB]
  | cons d a ih =>
    intro s
    rw [List.cons_append, jrB, jrB, ih, List.append_assoc, List.length_cons, show s + 1 + (a.length : Int) = s + ((a.length + 1 : Nat) : Int) by omega]
theorem jrK_snoc (a : List (List Int)) (d : List Int) (s : Int) : jrK s (a ++ [d]) = (jrK s a && frK (s + a.length) d.length) := by
  rw [jrK_app]; simp [jrK]
theorem jrB_snoc (a : List (List Int)) (d : List Int) (s : Int) : jrB s (a ++ [d]) = jrB s a ++ frO (s + a.length) d := by
  rw [jrB_app]; simp [jrB]
theorem jrB_len (l : List (List Int)) : ∀ s, (jrB s l).length ≤ 60016 * l.length := by
  induction l with
  | nil => intro s; simp [jrB]
  | cons d l ih => intro s; rw [jrB, List.length_append, List.length_cons]; have := ih (s + 1); have := frO_len s d; omega
theorem jrO_len (s : Int) (l : List (List Int)) : (jrO s l).length ≤ 60016 * l.length := by
  unfold jrO; split
  · exact jrB_len l s
  · simp
theorem jrK_range (l : List (List Int)) : ∀ s, jrK s l = true → 0 < l.length → 1 ≤ s ∧ s + l.length - 1 ≤ 1000000000 := by
  induction l with
  | nil => intro s _ h; simp at h
  | cons d l ih =>
    intro s h _
    rw [jrK, Bool.and_eq_true] at h
    obtain ⟨h1, h2⟩ := h
    obtain ⟨a1, a2, _⟩ := of_frK h1
    rw [List.length_cons]
    by_cases hl : 0 < l.length
    · have := ih (s + 1) h2 hl; omega
    · omega
/-- one step of the writing -/
theorem jr_step {l : List (List Int)} {s : Int} {k : Nat} (h : k < l.length) (hk : jrK s (l.take k) = true) (hf : frK (s + k) (l[k]).length = true) :
    jrK s (l.take (k + 1)) = true ∧ jrB s (l.take (k + 1)) = jrB s (l.take k) ++ frO (s + k) l[k] := by
  have e : (l.take k).length = k := by rw [List.length_take]; omega
  rw [List.take_succ_eq_append_getElem h, jrK_snoc, jrB_snoc, e, hk, hf]
  exact ⟨rfl, rfl⟩
theorem jr_fail {l : List (List Int)} {s : Int} {k : Nat} (h : k < l.length) (hf : frK (s + k) (l[k]).length = false) : jrK s l = false := by
  have e : (l.take k).length = k := by rw [List.length_take]; omega
  have := jrK_app (l.take (k + 1)) (l.drop (k + 1)) s
  rw [List.take_append_drop, List.take_succ_eq_append_getElem h, jrK_snoc, e, hf] at this
  simpa using this

/-! ### a journal, read: at most f frames -/
def jStep (zs : List Int) (s a : Int) : Bool := decide (frC zs a = 0) && decide (frSeq zs a = s)
def jrL : Nat → List Int → Int → Int → List (List Int)
  | 0, _, _, _ => []
  | f + 1, zs, s, a => if jStep zs s a = true then frData zs a :: jrL f zs (s + 1) (frNext zs a) else []
def jrE : Nat → List Int → Int → Int → Int
  | 0, _, _, a => a
  | f + 1, zs, s, a => if jStep zs s a = true then jrE f zs (s + 1) (frNext zs a) else a
def jL (zs : List Int) (s : Int) : List (List Int) := jrL (zs.length + 1) zs s 0
def jE (zs : List Int) (s : Int) : Int := jrE (zs.length + 1) zs s 0
theorem jStep_mk {zs : List Int} {s a : Int} (h1 : frC zs a = 0) (h2 : frSeq zs a = s) : jStep zs s a = true := by
  unfold jStep; rw [Bool.and_eq_true]; exact ⟨decide_eq_true h1, decide_eq_true h2⟩
theorem jStep_no1 {zs : List Int} {s a : Int} (h1 : frC zs a ≠ 0) : jStep zs s a = false := by unfold jStep; rw [decide_eq_false h1]; rfl
theorem jStep_no2 {zs : List Int} {s a : Int} (h1 : frSeq zs a ≠ s) : jStep zs s a = false := by unfold jStep; rw [decide_eq_false h1]; simp
/-- a step goes forward, inside the bytes; the number is a sequence number -/
theorem jNext {zs : List Int} {a : Int} (h : frC zs a = 0) : 0 ≤ a ∧ a < frNext zs a ∧ frNext zs a ≤ zs.length ∧ 1 ≤ frSeq zs a ∧ frSeq zs a ≤ 1000000000 ∧ (frData zs a).length ≤ 60000 := by
  have hd := frData_len zs a
  obtain ⟨a, P1, P2, P3, S, Z, C, rfl, h0, hz, h3, hN, b1, b2, b3, b4, b5, b6, b7, b8, b9, hC, e1, e2, e3⟩ := good_nums h
  rw [e3, e1]; omega
theorem jrL_succ {f : Nat} {zs : List Int} {s a : Int} (h : jStep zs s a = true) : jrL (f + 1) zs s a = frData zs a :: jrL f zs (s + 1) (frNext zs a) := by rw [jrL, if_pos h]
theorem jrE_succ {f : Nat} {zs : List Int} {s a : Int} (h : jStep zs s a = true) : jrE (f + 1) zs s a = jrE f zs (s + 1) (frNext zs a) := by rw [jrE, if_pos h]
theorem jrL_stop {f : Nat} {zs : List Int} {s a : Int} (h : jStep zs s a = false) : jrL f zs s a = [] := by
  cases f with
  | zero => rfl
  | succ f => rw [jrL, if_neg (by rw [h]; simp)]
theorem jrE_stop {f : Nat} {zs : List Int} {s a : Int} (h : jStep zs s a = false) : jrE f zs s a = a := by
  cases f with
  | zero => rfl
  | succ f => rw [jrE, if_neg (by rw [h]; simp)]
end Go.Proofs.Yteiojpglhmikoaa.Frame

