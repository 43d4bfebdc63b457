/- Plain facts on the model's directory: its names rise behind every turn. No function is walked. -/
import Derived.Test.YtmlodfceepokoaaReadMath
namespace Go.Proofs.Ytmlodfceepokoaa.DOk
open Go.RowKit Go.Proofs.Ytmlodfceepokoaa.Bytes Go.Proofs.Ytmlodfceepokoaa.Rows_
set_option linter.unusedVariables false

theorem ris_less {l : List LinkD} (h : Ris l) (s : List UInt8) : Ris (lessD l s) := List.Pairwise.filter _ h
theorem gtB_iff (a b : List UInt8) : gtB a b = Op.bytesLess b a := by unfold gtB; rw [less_total]; simp
theorem ris_fold (s : ByteArray) (id : Int) : ∀ (r acc : List LinkD) (d : Bool), Ris (acc ++ r) → (d = false → (∀ x ∈ acc, Op.bytesLess x.1.toList s.toList = true) ∧ ∀ x ∈ r, x.1.toList ≠ s.toList) →
    Ris (if (r.foldl (withStep s id) (acc, d)).2 = true then (r.foldl (withStep s id) (acc, d)).1 else (r.foldl (withStep s id) (acc, d)).1 ++ [(s, id)])
  | [], acc, d, h, h2 => by
    rw [List.append_nil] at h
    cases d
    · rw [List.foldl_nil, if_neg (by simp)]
      exact List.pairwise_append.2 ⟨h, List.pairwise_singleton _ _, fun x hx y hy => by rw [List.mem_singleton] at hy; subst hy; exact (h2 rfl).1 x hx⟩
    · rw [List.foldl_nil, if_pos rfl]; exact h
  | x :: r, acc, d, h, h2 => by
    rw [List.foldl_cons]
    have e : acc ++ x :: r = acc ++ [x] ++ r := by simp
    cases d
    · obtain ⟨ha, hr⟩ := h2 rfl
      cases hg : gtB x.1.toList s.toList
      · have hst : withStep s id (acc, false) x = (acc ++ [x], false) := by unfold withStep; rw [hg]; rfl
        rw [hst]
        refine ris_fold s id r _ _ (by rw [← e]; exact h) (fun _ => ⟨fun y hy => ?_, fun y hy => hr y (List.mem_cons_of_mem _ hy)⟩)
        rcases List.mem_append.1 hy with hy | hy
        · exact ha y hy
        · rw [List.mem_singleton] at hy
          subst hy
          have hne := hr y List.mem_cons_self
          rw [gtB_iff] at hg
          cases hl : Op.bytesLess y.1.toList s.toList
          · exfalso
            have := less_total y.1.toList s.toList
            rw [hl, hg] at this
            simp at this
            exact hne this
          · rfl
      · have hst : withStep s id (acc, false) x = (acc ++ [(s, id)] ++ [x], true) := by unfold withStep; rw [hg]; rfl
        rw [hst]
        rw [gtB_iff] at hg
        refine ris_fold s id r _ _ ?_ (fun h => by cases h)
        obtain ⟨p1, p2, p3⟩ := List.pairwise_append.1 h
        obtain ⟨p4, p5⟩ := List.pairwise_cons.1 p2
        rw [List.append_assoc, List.append_assoc]
        refine List.pairwise_append.2 ⟨p1, ?_, fun a hA b hb => ?_⟩
        · refine List.pairwise_cons.2 ⟨fun b hb => ?_, by simpa using p2⟩
          have hb' : b ∈ x :: r := by simpa using hb
          rcases List.mem_cons.1 hb' with rfl | hb'
          · exact hg
          · exact less_trans _ _ _ hg (p4 b hb')
        · rcases List.mem_cons.1 (by simpa using hb : b ∈ (s, id) :: x :: r) with rfl | hb'
          · exact ha a hA
          · exact p3 a hA b hb'
    · have hst : withStep s id (acc, true) x = (acc ++ [x], true) := by unfold withStep; simp
      rw [hst]
      exact ris_fold s id r _ _ (by rw [← e]; exact h) (fun h => by cases h)
theorem ris_with {l : List LinkD} (h : Ris l) (s : ByteArray) (id : Int) (hn : ¬ InN l s.toList) : Ris (withD l s id) :=
  ris_fold s id l [] false h (fun _ => ⟨(fun x hx => by cases hx), fun x hx e => hn ⟨x, hx, e⟩⟩)
theorem ris_turn {l : List LinkD} (h : Ris l) (hp : ∀ x ∈ l, 0 < x.2) (t : TurnD) (hok : turnOkS l t = true) : Ris (turnD l t) := by
  have hfp := find_pos l t.name.toList hp
  unfold turnOkS tokS at hok
  unfold turnD
  by_cases k1 : t.kind = 1
  · simp only [k1, if_true, Bool.and_eq_true, decide_eq_true_iff, Bool.not_eq_true'] at hok
    rw [if_pos k1]
    refine ris_with h _ _ (fun hin => ?_)
    have := hfp.2 hin
    have h0 := hok.2.2
    simp at h0
    omega
  · rw [if_neg k1]
    split
    · refine ris_with (ris_less (ris_less h _) _) _ _ (fun hin => ?_)
      obtain ⟨x, hx, e⟩ := hin
      exact ((mem_less _ _ _).1 hx).2 e
    · exact ris_less h _
theorem ris_dir (ks : List LinkD) (ts : List TurnD) (hk : ∀ x ∈ ks, 0 < x.2) (hr : Ris ks) (ha : ∀ j h, TurnAt ks ts j h) : ∀ j, j ≤ ts.length → Ris (dirAt ks (ts.take j)) := by
  intro j
  induction j with
  | zero => intro _; exact hr
  | succ j ih =>
    intro hj
    have h := ih (by omega)
    have h2 := (dir_all ks ts hk hr ha j (by omega)).1
    rw [dirAt_snoc ks ts j hj]
    exact ris_turn h h2.2.2 _ (ha j hj)
theorem okS_ris {room fuse next : Int} {fs : List FileD} {ks : List LinkD} {ts : List TurnD} (h : OkS room fuse next fs ks ts) : Ris (dirAt ks ts) := by
  obtain ⟨_, _, _, _, _, hf, hk, hl, hid, ht⟩ := h
  have hsub : ∀ z ∈ idsD ks ts, z ∈ fidsD fs := by
    intro z hz
    obtain ⟨j, hj, rfl⟩ := List.getElem_of_mem hz
    exact (hasI_iff _ _).1 (hid j hj).2
  have hpos : ∀ x ∈ ks, 0 < x.2 := fun x hx => fids_pos next fs hf _ (hsub _ (List.mem_append_left _ (List.mem_map.2 ⟨x, hx, rfl⟩)))
  have := ris_dir ks ts hpos (kept_ris ks hk) ht ts.length (Nat.le_refl _)
  rwa [List.take_length] at this
end Go.Proofs.Ytmlodfceepokoaa.DOk
