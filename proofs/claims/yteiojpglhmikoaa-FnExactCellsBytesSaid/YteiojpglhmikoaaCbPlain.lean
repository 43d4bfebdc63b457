/- Runs of cells as bytes: plain functions over lists; nothing of the program is named. -/
import Derived.Test.YteiojpglhmikoaaGrNeq
import Derived.Test.YteiojpglhmikoaaAttrN
import Derived.Test.YteiojpglhmikoaaGetPlain
namespace Go.Proofs.Yteiojpglhmikoaa.Cb
open Go.Proofs.Yteiojpglhmikoaa.Gr Go.Proofs.Yteiojpglhmikoaa.Var Go.Proofs.Yteiojpglhmikoaa.Attr Go.Proofs.Yteiojpglhmikoaa.Rune
set_option linter.unusedVariables false
def numC (x : CellD) : Nat := (anV x.fg x.bg x.b x.u x.t).toNat
def encC (k : Nat) (x : CellD) : List Int := vEnc k ++ (vEnc x.r.toNat ++ vEnc (numC x))
def runC (x : CellD) : List CellD → Nat
  | [] => 0
  | y :: l => if beqC y x then runC x l + 1 else 0
theorem runC_le (x : CellD) (l : List CellD) : runC x l ≤ l.length := by
  induction l with
  | nil => simp [runC]
  | cons y l ih => rw [runC]; split <;> simp; omega
theorem runC_at (x : CellD) (l : List CellD) : ∀ i (h : i < l.length), i < runC x l → l[i] = x := by
  induction l with
  | nil => intro i h; simp at h
  | cons y l ih =>
    intro i h hi
    rw [runC] at hi
    by_cases hb : beqC y x = true
    · rw [if_pos hb] at hi
      cases i with
      | zero => exact (beqC_iff y x).1 hb
      | succ i => exact ih i (by simpa using h) (by omega)
    · rw [if_neg hb] at hi; omega
theorem runC_end (x : CellD) (l : List CellD) (h : runC x l < l.length) : beqC l[runC x l] x = false := by
  induction l with
  | nil => simp at h
  | cons y l ih =>
    by_cases hb : beqC y x = true
    · have e : runC x (y :: l) = runC x l + 1 := by rw [runC, if_pos hb]
      have h2 : runC x l < l.length := by rw [e] at h; simpa using h
      simp only [e, List.getElem_cons_succ]
      exact ih h2
    · have e : runC x (y :: l) = 0 := by rw [runC, if_neg hb]
      simp only [e, List.getElem_cons_zero]
      simpa using hb
def encR : List CellD → List Int
  | [] => []
  | x :: l => encC (runC x l + 1) x ++ encR (l.drop (runC x l))
termination_by l => l.length
decreasing_by simp; omega
theorem encR_nil : encR [] = [] := by rw [encR]
theorem encR_cons (x : CellD) (l : List CellD) : encR (x :: l) = encC (runC x l + 1) x ++ encR (l.drop (runC x l)) := by rw [encR]
def encN (n : Nat) : List CellD → List Int
  | [] => []
  | x :: l => encC (n + runC x l + 1) x ++ encR (l.drop (runC x l))
theorem encN_zero (l : List CellD) : encN 0 l = encR l := by
  cases l with
  | nil => rw [encR]; rfl
  | cons x l => rw [encR_cons]; show encC (0 + runC x l + 1) x ++ _ = _; rw [Nat.zero_add]
theorem encN_same {n : Nat} {x y : CellD} {l : List CellD} (h : beqC y x = true) : encN n (x :: y :: l) = encN (n + 1) (y :: l) := by
  obtain rfl := (beqC_iff y x).1 h
  show encC (n + runC y (y :: l) + 1) y ++ encR ((y :: l).drop (runC y (y :: l))) = encC (n + 1 + runC y l + 1) y ++ encR (l.drop (runC y l))
  have e : runC y (y :: l) = runC y l + 1 := by rw [runC, if_pos h]
  rw [e, List.drop_succ_cons, show n + (runC y l + 1) + 1 = n + 1 + runC y l + 1 by omega]
theorem encN_new {n : Nat} {x : CellD} {l : List CellD} (h : runC x l = 0) : encN n (x :: l) = encC (n + 1) x ++ encR l := by
  show encC (n + runC x l + 1) x ++ encR (l.drop (runC x l)) = _
  rw [h, List.drop_zero, Nat.add_zero]
theorem numC_bd {x : CellD} (h : okC x = true) : x.r.toNat ≤ 1114111 ∧ 0 ≤ x.r ∧ 0 ≤ anV x.fg x.bg x.b x.u x.t ∧ anV x.fg x.bg x.b x.u x.t < 648 ∧ numC x < 648 := by
  unfold okC at h
  rw [Bool.and_eq_true] at h
  have h1 := h.1
  obtain ⟨a1, a2, a3, a4⟩ := okA_t h.2
  have e := anV_yes x.b x.u x.t h.2
  have hb : ∀ (b : Bool) (m : Int), 0 ≤ m → 0 ≤ bi b m ∧ bi b m ≤ m := by intro b m hm; cases b <;> simp [bi] <;> omega
  have b1 := hb x.b 1 (by omega)
  have b2 := hb x.u 2 (by omega)
  have b3 := hb x.t 4 (by omega)
  have hs : 0 ≤ x.r ∧ x.r ≤ 1114111 := by
    unfold showB at h1
    have := of_decide_eq_true h1; omega
  unfold numC
  refine ⟨by omega, by omega, by omega, by omega, by omega⟩
theorem encC_len {k : Nat} {x : CellD} (hk : k ≤ 4294967295) (h : okC x = true) : (encC k x).length ≤ 15 := by
  obtain ⟨h1, h2, h3, h4, h5⟩ := numC_bd h
  have a := vEnc_len5 hk
  have b := vEnc_len5 (n := x.r.toNat) (by omega)
  have c := vEnc_len5 (n := numC x) (by omega)
  unfold encC
  rw [List.length_append, List.length_append]; omega
theorem encR_len : ∀ (n : Nat) (l : List CellD), l.length ≤ n → n ≤ 1048576 → l.all okC = true → (encR l).length ≤ 15 * l.length
  | n, [], _, _, _ => by rw [encR_nil]; simp
  | 0, x :: l, h, _, _ => by simp at h
  | n + 1, x :: l, h, hn, ha => by
    have h' : l.length ≤ n := by simpa using h
    rw [List.all_cons, Bool.and_eq_true] at ha
    have hr := runC_le x l
    have h1 := encC_len (k := runC x l + 1) (x := x) (by omega) ha.1
    have hd : (l.drop (runC x l)).length = l.length - runC x l := List.length_drop
    have hall : (l.drop (runC x l)).all okC = true := by
      rw [List.all_eq_true] at ha ⊢
      exact fun y hy => ha.2 y (List.mem_of_mem_drop hy)
    have h2 := encR_len n (l.drop (runC x l)) (by omega) (by omega) hall
    rw [encR_cons, List.length_append, List.length_cons]
    omega
/-! ### decoding is unique -/
/-! ### runs -/
theorem beqC_refl (c : CellD) : beqC c c = true := (beqC_iff c c).2 rfl
end Go.Proofs.Yteiojpglhmikoaa.Cb

