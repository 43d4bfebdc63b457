/- Runs of cells as bytes: plain functions over lists; nothing of the program is named. -/
import Derived.Test.YtbifbeahakchjaaGrNeq
import Derived.Test.YtbifbeahakchjaaAttrN
import Derived.Test.YtbifbeahakchjaaGetPlain
namespace Go.Proofs.Ytbifbeahakchjaa.Cb
open Go.Proofs.Ytbifbeahakchjaa.Gr Go.Proofs.Ytbifbeahakchjaa.Var Go.Proofs.Ytbifbeahakchjaa.Attr Go.Proofs.Ytbifbeahakchjaa.Rune
set_option linter.unusedVariables false
def numC (x : CellD) : Nat := (anV x.fg x.bg x.b x.u x.t).toNat
def encC (k : Nat) (x : CellD) : List Int := vEnc k ++ (vEnc x.r.toNat ++ vEnc (numC x))
def runC (x : CellD) : List CellD → Nat
  | [] => 0
  | y :: l => if beqC y x then runC x l + 1 else 0
theorem runC_le (x : CellD) (l : List CellD) : runC x l ≤ l.length := by
  induction l with
  | nil => simp [runC]
  | cons y l ih => rw [runC]; split <;> simp; omega
theorem runC_at (x : CellD) (l : List CellD) : ∀ i (h : i < l.length), i < runC x l → l[i] = x := by
  induction l with
  | nil => intro i h; simp at h
  | cons y l ih =>
    intro i h hi
    rw [runC] at hi
    by_cases hb : beqC y x = true
    · rw [if_pos hb] at hi
      cases i with
      | zero => exact (beqC_iff y x).1 hb
      | succ i => exact ih i (by simpa using h) (by omega)
    · rw [if_neg hb] at hi; omega
theorem runC_end (x : CellD) (l : List CellD) (h : runC x l < l.length) : beqC l[runC x l] x = false := by
  induction l with
  | nil => simp at h
  | cons y l ih =>
    by_cases hb : beqC y x = true
    · have e : runC x (y :: l) = runC x l + 1 := by rw [runC, if_pos hb]
      have h2 : runC x l < l.length := by rw [e] at h; simpa using h
      simp only [e, List.getElem_cons_succ]
      exact ih h2
    · have e : runC x (y :: l) = 0 := by rw [runC, if_neg hb]
      simp only [e, List.getElem_cons_zero]
      simpa using hb
def encR : List CellD → List Int
  | [] => []
  | x :: l => encC (runC x l + 1) x ++ encR (l.drop (runC x l))
termination_by l => l.length
decreasing_by simp; omega
theorem encR_nil : encR [] = [] := by rw [encR]
theorem encR_cons (x : CellD) (l : List CellD) : encR (x :: l) = encC (runC x l + 1) x ++ encR (l.drop (runC x l)) := by rw [encR]
def encN (n : Nat) : List CellD → List Int
  | [] => []
  | x :: l => encC (n + runC x l + 1) x ++ encR (l.drop (runC x l))
theorem encN_zero (l : List CellD) : encN 0 l = encR l := by
  cases l with
  | nil => rw [encR]; rfl
  | cons x l => rw [encR_cons]; show encC (0 + runC x l + 1) x ++ _ = _; rw [Nat.zero_add]
theorem encN_same {n : Nat} {x y : CellD} {l : List CellD} (h : beqC y x = true) : encN n (x :: y :: l) = encN (n + 1) (y :: l) := by
  obtain rfl := (beqC_iff y x).1 h
  show encC (n + runC y (y :: l) + 1) y ++ encR ((y :: l).drop (runC y (y :: l))) = encC (n + 1 + runC y l + 1) y ++ encR (l.drop (runC y l))
  have e : runC y (y :: l) = runC y l + 1 := by rw [runC, if_pos h]
  rw [e, List.drop_succ_cons, show n + (runC y l + 1) + 1 = n + 1 + runC y l + 1 by omega]
theorem encN_new {n : Nat} {x : CellD} {l : List CellD} (h : runC x l = 0) : encN n (x :: l) = encC (n + 1) x ++ encR l := by
  show encC (n + runC x l + 1) x ++ encR (l.drop (runC x l)) = _
  rw [h, List.drop_zero, Nat.add_zero]
theorem numC_bd {x : CellD} (h : okC x = true) : x.r.toNat ≤ 1114111 ∧ 0 ≤ x.r ∧ 0 ≤ anV x.fg x.bg x.b x.u x.t ∧ anV x.fg x.bg x.b x.u x.t < 648 ∧ numC x < 648 := by
  unfold okC at h
  rw [Bool.and_eq_true] at h
  have h1 := h.1
  obtain ⟨a1, a2, a3, a4⟩ := okA_t h.2
  have e := anV_yes x.b x.u x.t h.2
  have hb : ∀ (b : Bool) (m : Int), 0 ≤ m → 0 ≤ bi b m ∧ bi b m ≤ m := by intro b m hm; cases b <;> simp [bi] <;> omega
  have b1 := hb x.b 1 (by omega)
  have b2 := hb x.u 2 (by omega)
  have b3 := hb x.t 4 (by omega)
  have hs : 0 ≤ x.r ∧ x.r ≤ 1114111 := by
    unfold showB at h1
    have := of_decide_eq_true h1; omega
  unfold numC
  refine ⟨by omega, by omega, by omega, by omega, by omega⟩
theorem encC_len {k : Nat} {x : CellD} (hk : k ≤ 4294967295) (h : okC x = true) : (encC k x).length ≤ 15 := by
  obtain ⟨h1, h2, h3, h4, h5⟩ := numC_bd h
  have a := vEnc_len5 hk
  have b := vEnc_len5 (n := x.r.toNat) (by omega)
  have c := vEnc_len5 (n := numC x) (by omega)
  unfold encC
  rw [List.length_append, List.length_append]; omega
theorem encR_len : ∀ (n : Nat) (l : List CellD), l.length ≤ n → n ≤ 1048576 → l.all okC = true → (encR l).length ≤ 15 * l.length
  | n, [], _, _, _ => by rw [encR_nil]; simp
  | 0, x :: l, h, _, _ => by simp at h
  | n + 1, x :: l, h, hn, ha => by
    have h' : l.length ≤ n := by simpa using h
    rw [List.all_cons, Bool.and_eq_true] at ha
    have hr := runC_le x l
    have h1 := encC_len (k := runC x l + 1) (x := x) (by omega) ha.1
    have hd : (l.drop (runC x l)).length = l.length - runC x l := List.length_drop
    have hall : (l.drop (runC x l)).all okC = true := by
      rw [List.all_eq_true] at ha ⊢
      exact fun y hy => ha.2 y (List.mem_of_mem_drop hy)
    have h2 := encR_len n (l.drop (runC x l)) (by omega) (by omega) hall
    rw [encR_cons, List.length_append, List.length_cons]
    omega
theorem encC_rng (k : Nat) (x : CellD) : ∀ z ∈ encC k x, 0 ≤ z ∧ z < 256 := by
  intro z hz
  unfold encC at hz
  rcases List.mem_append.1 hz with hz | hz
  · exact vEnc_rng _ _ (Nat.lt_succ_self _) z hz
  · rcases List.mem_append.1 hz with hz | hz
    · exact vEnc_rng _ _ (Nat.lt_succ_self _) z hz
    · exact vEnc_rng _ _ (Nat.lt_succ_self _) z hz
theorem encR_rng : ∀ (n : Nat) (l : List CellD), l.length ≤ n → ∀ z ∈ encR l, 0 ≤ z ∧ z < 256
  | _, [], _ => by rw [encR_nil]; simp
  | 0, x :: l, h => by simp at h
  | n + 1, x :: l, h => by
    rw [encR_cons]
    intro z hz
    rcases List.mem_append.1 hz with hz | hz
    · exact encC_rng _ _ z hz
    · have h' : l.length ≤ n := by simpa using h
      exact encR_rng n (l.drop (runC x l)) (by rw [List.length_drop]; omega) z hz
/-! ### decoding is unique -/
theorem vEnc_cut : ∀ (n a b : Nat) (s t : List Int), a < n → vEnc a ++ s = vEnc b ++ t → a = b ∧ s = t
  | 0, a, b, s, t, h, _ => by omega
  | n + 1, a, b, s, t, h, he => by
    by_cases ha : a < 128
    · rw [vEnc_small ha] at he
      by_cases hb : b < 128
      · rw [vEnc_small hb] at he
        simp only [List.cons_append, List.nil_append] at he
        injection he with h1 h2
        exact ⟨by omega, h2⟩
      · rw [vEnc_big hb] at he
        simp only [List.cons_append, List.nil_append] at he
        injection he with h1 h2
        exfalso; omega
    · rw [vEnc_big ha] at he
      by_cases hb : b < 128
      · rw [vEnc_small hb] at he
        simp only [List.cons_append, List.nil_append] at he
        injection he with h1 h2
        exfalso; omega
      · rw [vEnc_big hb] at he
        simp only [List.cons_append] at he
        injection he with h1 h2
        obtain ⟨h3, h4⟩ := vEnc_cut n (a / 128) (b / 128) s t (by omega) h2
        exact ⟨by omega, h4⟩
theorem encC_cut {k k' : Nat} {x : CellD} {s t : List Int} (h : encC k x ++ s = encC k' x ++ t) : k = k' ∧ s = t := by
  unfold encC at h
  simp only [List.append_assoc] at h
  obtain ⟨h1, h2⟩ := vEnc_cut (k + 1) k k' _ _ (by omega) h
  exact ⟨h1, List.append_cancel_left (List.append_cancel_left h2)⟩
/-! ### runs -/
def expand (R : List (Nat × CellD)) : List CellD := R.flatMap fun p => List.replicate p.1 p.2
def encRs (R : List (Nat × CellD)) : List Int := R.flatMap fun p => encC p.1 p.2
theorem expand_cons (k : Nat) (c : CellD) (R : List (Nat × CellD)) : expand ((k, c) :: R) = List.replicate k c ++ expand R := by simp [expand]
theorem encRs_cons (k : Nat) (c : CellD) (R : List (Nat × CellD)) : encRs ((k, c) :: R) = encC k c ++ encRs R := by simp [encRs]
theorem expand_snoc (k : Nat) (c : CellD) (R : List (Nat × CellD)) : expand (R ++ [(k, c)]) = expand R ++ List.replicate k c := by simp [expand]
theorem encRs_snoc (k : Nat) (c : CellD) (R : List (Nat × CellD)) : encRs (R ++ [(k, c)]) = encRs R ++ encC k c := by simp [encRs]
def newC : Option CellD → CellD → Bool
  | none, _ => true
  | some z, c => !beqC z c
def goodR : Option CellD → List (Nat × CellD) → Bool
  | _, [] => true
  | last, (_, c) :: R => showB c.r && (newC last c && goodR (some c) R)
theorem beqC_refl (c : CellD) : beqC c c = true := (beqC_iff c c).2 rfl
theorem beqC_comm (x y : CellD) : beqC x y = beqC y x := by
  rw [Bool.eq_iff_iff, beqC_iff, beqC_iff]; exact eq_comm
theorem runC_rep (c : CellD) (m : Nat) (l : List CellD) : runC c (List.replicate m c ++ l) = m + runC c l := by
  induction m with
  | zero => simp
  | succ m ih => rw [List.replicate_succ, List.cons_append, runC, if_pos (beqC_refl c), ih]; omega
theorem expand_run {c : CellD} {R : List (Nat × CellD)} (hk : ∀ p ∈ R, 1 ≤ p.1) (h : ∀ k' c' R', R = (k', c') :: R' → beqC c c' = false) : runC c (expand R) = 0 := by
  cases R with
  | nil => rfl
  | cons p R =>
    obtain ⟨k', c'⟩ := p
    have h1 := h k' c' R rfl
    have h2 : 1 ≤ k' := hk (k', c') (by simp)
    obtain ⟨m, rfl⟩ : ∃ m, k' = m + 1 := ⟨k' - 1, by omega⟩
    rw [expand_cons, List.replicate_succ, List.cons_append, runC, if_neg]
    rw [beqC_comm, h1]; simp
theorem encR_run {c : CellD} {k : Nat} {R : List (Nat × CellD)} (hk : 1 ≤ k) : encR (expand ((k, c) :: R)) = encC (k + runC c (expand R)) c ++ encR ((expand R).drop (runC c (expand R))) := by
  obtain ⟨m, rfl⟩ : ∃ m, k = m + 1 := ⟨k - 1, by omega⟩
  rw [expand_cons, List.replicate_succ, List.cons_append, encR_cons, runC_rep, show m + runC c (expand R) + 1 = m + 1 + runC c (expand R) by omega, ← List.drop_drop, List.drop_left' (by simp)]
theorem good_enc : ∀ (R : List (Nat × CellD)) (last : Option CellD), (∀ p ∈ R, 1 ≤ p.1) → goodR last R = true → encR (expand R) = encRs R
  | [], _, _, _ => by simp [expand, encRs, encR_nil]
  | (k, c) :: R, last, hk, hg => by
    unfold goodR at hg
    rw [Bool.and_eq_true, Bool.and_eq_true] at hg
    have hk' : ∀ p ∈ R, 1 ≤ p.1 := fun p hp => hk p (by simp [hp])
    have h0 : runC c (expand R) = 0 := expand_run hk' fun k' c' R' e => by
      subst e
      have h := hg.2.2
      unfold goodR at h
      rw [Bool.and_eq_true, Bool.and_eq_true] at h
      simpa [newC] using h.2.1
    rw [encR_run (hk (k, c) (by simp)), h0, encRs_cons, List.drop_zero, Nat.add_zero, good_enc R (some c) hk' hg.2.2]
theorem enc_good : ∀ (R : List (Nat × CellD)) (last : Option CellD), (∀ p ∈ R, 1 ≤ p.1) → (∀ p ∈ R, showB p.2.r = true) → (∀ k c R', R = (k, c) :: R' → newC last c = true) → encR (expand R) = encRs R → goodR last R = true
  | [], _, _, _, _, _ => rfl
  | (k, c) :: R, last, hk, hs, hn, he => by
    have hk' : ∀ p ∈ R, 1 ≤ p.1 := fun p hp => hk p (by simp [hp])
    have hs' : ∀ p ∈ R, showB p.2.r = true := fun p hp => hs p (by simp [hp])
    rw [encR_run (hk (k, c) (by simp)), encRs_cons] at he
    obtain ⟨h1, h2⟩ := encC_cut he
    have h0 : runC c (expand R) = 0 := by omega
    rw [h0, List.drop_zero] at h2
    unfold goodR
    rw [hs (k, c) (by simp), hn k c R rfl, Bool.true_and, Bool.true_and]
    refine enc_good R (some c) hk' hs' (fun k' c' R' e => ?_) h2
    subst e
    have h3 : 1 ≤ k' := hk' (k', c') (by simp)
    obtain ⟨m, rfl⟩ : ∃ m, k' = m + 1 := ⟨k' - 1, by omega⟩
    rw [expand_cons, List.replicate_succ, List.cons_append, runC] at h0
    by_cases hb : beqC c' c = true
    · rw [if_pos hb] at h0; omega
    · show (!beqC c c') = true
      rw [beqC_comm]; simpa using hb
end Go.Proofs.Ytbifbeahakchjaa.Cb
