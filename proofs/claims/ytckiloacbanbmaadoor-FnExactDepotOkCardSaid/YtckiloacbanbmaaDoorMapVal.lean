/- The values of the program's directory against the model's list of links: for every name of the list the map has its id. Plain reasoning. -/
import Derived.Test.YtckiloacbanbmaaDoorTurnMath
namespace Go.Proofs.YtckiloacbanbmaaDoor.DOk
open Go.RowKit Go.Proofs.YtckiloacbanbmaaDoor.Bytes Go.Proofs.YtckiloacbanbmaaDoor.Rows_ Go.Maps
open Go.Proofs.YtckiloacbanbmaaDoor.Made (madeB nb)
set_option linter.unusedVariables false

theorem less_irrefl : ∀ a : List UInt8, Op.bytesLess a a = false
  | [] => rfl
  | x :: r => by unfold Op.bytesLess; simp [less_irrefl r]
theorem less_trans : ∀ a b c : List UInt8, Op.bytesLess a b = true → Op.bytesLess b c = true → Op.bytesLess a c = true
  | _, [], _, h, _ => by unfold Op.bytesLess at h; cases h
  | _, y :: s, [], _, h => by unfold Op.bytesLess at h; cases h
  | [], y :: s, z :: t, _, _ => rfl
  | x :: r, y :: s, z :: t, h1, h2 => by
    have ih := less_trans r s t
    unfold Op.bytesLess at h1 h2 ⊢
    simp only [Bool.or_eq_true, decide_eq_true_iff, Bool.and_eq_true, beq_iff_eq, UInt8.lt_iff_toNat_lt] at h1 h2 ⊢
    rcases h1 with h1 | ⟨rfl, h1⟩ <;> rcases h2 with h2 | ⟨rfl, h2⟩
    · exact .inl (by omega)
    · exact .inl h1
    · exact .inl h2
    · exact .inr ⟨rfl, ih h1 h2⟩
/-- strictly rising names -/
def Ris (l : List LinkD) : Prop := l.Pairwise fun x y => Op.bytesLess x.1.toList y.1.toList = true
theorem less_ne {a b : List UInt8} (h : Op.bytesLess a b = true) : a ≠ b := by rintro rfl; rw [less_irrefl] at h; cases h
theorem kept_lt (ks : List LinkD) (ha : ∀ j h, KeptAt ks j h) : ∀ (d i : Nat) (h : i + d + 1 < ks.length), Op.bytesLess (ks[i]'(by omega)).1.toList (ks[i + d + 1]'h).1.toList = true
  | 0, i, h => (ha (i + 1) h).2 (by omega)
  | d + 1, i, h => less_trans _ _ _ (kept_lt ks ha d i (by omega)) ((ha (i + d + 1 + 1) (by omega)).2 (by omega))
theorem kept_ris (ks : List LinkD) (ha : ∀ j h, KeptAt ks j h) : Ris ks := by
  unfold Ris
  rw [List.pairwise_iff_getElem]
  intro i j hi hj hij
  obtain ⟨d, rfl⟩ : ∃ d, j = i + d + 1 := ⟨j - i - 1, by omega⟩
  exact kept_lt ks ha d i hj
def Val (l : List LinkD) (D : Dat) : Prop := ∀ x ∈ l, D.atKey (kS x.1) (vI 0) = vI x.2
theorem find_memN : ∀ (l : List LinkD) (s : List UInt8), InN l s → ∃ x ∈ l, x.1.toList = s ∧ x.2 = findD l s
  | [], s, h => by obtain ⟨x, hx, _⟩ := h; cases hx
  | x :: r, s, h => by
    unfold findD
    by_cases hx : (x.1.toList == s) = true
    · rw [if_pos hx]; exact ⟨x, by simp, by simpa using hx, rfl⟩
    · rw [if_neg hx]
      obtain ⟨y, hy, e⟩ := h
      rcases List.mem_cons.1 hy with rfl | hy
      · exact absurd (by simpa using e) hx
      · obtain ⟨z, hz, e1, ez⟩ := find_memN r s ⟨y, hy, e⟩
        exact ⟨z, by simp [hz], e1, ez⟩
theorem Val.find {l : List LinkD} {D : Dat} (h : Val l D) {s : ByteArray} (hs : InN l s.toList) : D.atKey (kS s) (vI 0) = vI (findD l s.toList) := by
  obtain ⟨x, hx, e1, e2⟩ := find_memN l _ hs
  rw [← e2, ← h x hx, (kS_iff _ _).2 e1]
theorem at_put_ne {D : Dat} {a b : ByteArray} {v z : Dat} (h : a.toList ≠ b.toList) : (D.put (kS a) v).atKey (kS b) z = D.atKey (kS b) z :=
  atKey_put_other (fun e => h ((kS_iff b a).1 e).symm) v z
theorem at_del_ne {D : Dat} {a b : ByteArray} {z : Dat} (h : a.toList ≠ b.toList) : (D.del (kS a)).atKey (kS b) z = D.atKey (kS b) z :=
  atKey_del_other (fun e => h ((kS_iff b a).1 e).symm) z
theorem at_put_eq {D : Dat} (h : IsMap D) {a : ByteArray} {v z : Dat} : (D.put (kS a) v).atKey (kS a) z = v :=
  atKey_put_same h (show WideAt.IsKeyLit (kS a) from trivial) v z
theorem val_dirL_rev : ∀ (r : List LinkD), (∀ x ∈ r, 0 < x.2) → Ris r.reverse → Val r.reverse (dirL r.reverse)
  | [], _, _ => fun x hx => by cases hx
  | x :: r, hp, hr => by
    rw [List.reverse_cons] at hr ⊢
    have hr' : Ris r.reverse ∧ _ ∧ _ := List.pairwise_append.1 hr
    have ih := val_dirL_rev r (fun y hy => hp y (by simp [hy])) hr'.1
    have hS := same_dirL_rev r (fun y hy => hp y (by simp [hy]))
    have e : dirL (r.reverse ++ [x]) = (dirL r.reverse).put (kS x.1) (vI x.2) := by unfold dirL; rw [List.foldl_append]; rfl
    rw [e]
    intro y hy
    rcases List.mem_append.1 hy with hy | hy
    · rw [at_put_ne (less_ne (hr'.2.2 y hy x (by simp))).symm]; exact ih y hy
    · simp at hy; subst hy; exact at_put_eq hS.1
theorem val_dirL (ks : List LinkD) (hp : ∀ x ∈ ks, 0 < x.2) (hr : Ris ks) : Val ks (dirL ks) := by
  have := val_dirL_rev ks.reverse (fun x hx => hp x (by simpa using hx)) (by rw [List.reverse_reverse]; exact hr)
  rw [List.reverse_reverse] at this; exact this
theorem val_next {l : List LinkD} {D : Dat} (hS : Same l D) (hV : Val l D) (t : TurnD) (hok : turnOkS l t = true) : Val (turnD l t) (applyD D t) := by
  obtain ⟨h1, h2, h3⟩ := hS
  have hfp := find_pos l t.name.toList h3
  unfold turnOkS tokS at hok
  unfold turnD applyD
  by_cases k1 : t.kind = 1
  · simp only [k1, if_true, Bool.and_eq_true, decide_eq_true_iff, Bool.not_eq_true'] at hok
    rw [if_pos k1, if_pos k1]
    have hno : ¬ InN l t.name.toList := fun h => by have := hfp.2 h; have h4 := hok.2.2; simp at h4; omega
    intro x hx
    rcases (mem_with _ _ _ _).1 hx with hx | rfl
    · rw [at_put_ne (fun e => hno ⟨x, hx, e.symm⟩)]; exact hV x hx
    · exact at_put_eq h1
  · by_cases k4 : t.kind = 4
    · rw [k4] at hok
      rw [if_neg (by decide), if_pos rfl] at hok
      simp only [Bool.and_eq_true, decide_eq_true_iff, Bool.not_eq_true'] at hok
      have hne : t.to_.toList ≠ t.name.toList := by have := hok.2.1.1.2; simpa using this
      have hin : InN l t.name.toList := hfp.1 hok.2.2
      rw [if_neg k1, if_pos k4, if_neg k1, if_pos k4]
      intro x hx
      rcases (mem_with _ _ _ _).1 hx with hx | rfl
      · obtain ⟨hx1, hx2⟩ := (mem_less _ _ _).1 hx
        obtain ⟨hx3, hx4⟩ := (mem_less _ _ _).1 hx1
        rw [at_del_ne (fun e => hx4 e.symm), at_put_ne (fun e => hx2 e.symm)]
        exact hV x hx3
      · rw [at_del_ne (fun e => hne e.symm)]
        show _ = vI (findD l t.name.toList)
        rw [at_put_eq h1, hV.find hin]
    · by_cases k5 : t.kind = 5
      · rw [if_neg k1, if_neg k4, if_neg k1, if_neg k4, if_pos k5]
        intro x hx
        obtain ⟨hx3, hx4⟩ := (mem_less _ _ _).1 hx
        rw [at_del_ne (fun e => hx4 e.symm)]
        exact hV x hx3
      · rw [if_neg k1, if_neg k4, if_neg k5] at hok
        simp at hok
theorem dir_all (ks : List LinkD) (ts : List TurnD) (hk : ∀ x ∈ ks, 0 < x.2) (hr : Ris ks) (ha : ∀ j h, TurnAt ks ts j h) : ∀ j, j ≤ ts.length → Same (dirAt ks (ts.take j)) (dirM ks (ts.take j)) ∧ Val (dirAt ks (ts.take j)) (dirM ks (ts.take j)) := by
  intro j
  induction j with
  | zero => intro _; exact ⟨same_dirL ks hk, val_dirL ks hk hr⟩
  | succ j ih =>
    intro hj
    have h := ih (by omega)
    rw [dirAt_snoc ks ts j hj, dirM_snoc' ks ts j hj]
    exact ⟨turn_next h.1 _ (ha j hj), val_next h.1 h.2 _ (ha j hj)⟩
end Go.Proofs.YtckiloacbanbmaaDoor.DOk
