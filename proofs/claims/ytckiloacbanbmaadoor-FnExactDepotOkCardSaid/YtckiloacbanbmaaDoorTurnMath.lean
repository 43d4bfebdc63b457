/- DiskOk: the model's list of links and the program's map say the same of every name, turn by turn. Plain reasoning. -/
import Derived.Test.YtckiloacbanbmaaDoorOkMath
namespace Go.Proofs.YtckiloacbanbmaaDoor.DOk
open Go.RowKit Go.Proofs.YtckiloacbanbmaaDoor.Bytes Go.Proofs.YtckiloacbanbmaaDoor.Rows_ Go.Maps
open Go.Proofs.YtckiloacbanbmaaDoor.Made (madeB nb)
set_option linter.unusedVariables false

def InN (l : List LinkD) (s : List UInt8) : Prop := ∃ x ∈ l, x.1.toList = s
def Same (l : List LinkD) (D : Dat) : Prop := Maps.IsMap D ∧ (∀ s : ByteArray, has D (kS s) = true ↔ InN l s.toList) ∧ ∀ x ∈ l, 0 < x.2
theorem kS_iff (a b : ByteArray) : kS a = kS b ↔ a.toList = b.toList := by
  rw [toList_data, toList_data]; unfold kS
  constructor
  · intro h; injection h
  · intro h; rw [h]
theorem find_pos : ∀ (l : List LinkD) (s : List UInt8), (∀ x ∈ l, 0 < x.2) → (0 < findD l s ↔ InN l s)
  | [], s, _ => by unfold findD InN; simp
  | x :: r, s, hp => by
    have ih := find_pos r s (fun y hy => hp y (by simp [hy]))
    have hx := hp x (by simp)
    unfold findD
    by_cases h : (x.1.toList == s) = true
    · rw [if_pos h]
      exact ⟨fun _ => ⟨x, by simp, by simpa using h⟩, fun _ => hx⟩
    · rw [if_neg h, ih]
      constructor
      · rintro ⟨y, hy, e⟩; exact ⟨y, by simp [hy], e⟩
      · rintro ⟨y, hy, e⟩
        rcases List.mem_cons.1 hy with rfl | hy
        · exact absurd (by simpa using e) h
        · exact ⟨y, hy, e⟩
theorem find_mem : ∀ (l : List LinkD) (s : List UInt8), InN l s → ∃ x ∈ l, x.2 = findD l s
  | [], s, h => by obtain ⟨x, hx, _⟩ := h; cases hx
  | x :: r, s, h => by
    unfold findD
    by_cases hx : (x.1.toList == s) = true
    · rw [if_pos hx]; exact ⟨x, by simp, rfl⟩
    · rw [if_neg hx]
      obtain ⟨y, hy, e⟩ := h
      rcases List.mem_cons.1 hy with rfl | hy
      · exact absurd (by simpa using e) hx
      · obtain ⟨z, hz, ez⟩ := find_mem r s ⟨y, hy, e⟩
        exact ⟨z, by simp [hz], ez⟩
theorem mem_less (l : List LinkD) (s : List UInt8) (y : LinkD) : y ∈ lessD l s ↔ y ∈ l ∧ y.1.toList ≠ s := by
  unfold lessD; rw [List.mem_filter]; simp
theorem fold_true (s : ByteArray) (id : Int) : ∀ (r : List LinkD) (l : List LinkD), (r.foldl (withStep s id) (l, true)).2 = true
  | [], l => rfl
  | x :: r, l => by
    rw [List.foldl_cons]
    have : withStep s id (l, true) x = (l ++ [(x.1, x.2)], true) := rfl
    rw [this]; exact fold_true s id r _
theorem mem_fold (s : ByteArray) (id : Int) (y : LinkD) : ∀ (r : List LinkD) (l : List LinkD) (d : Bool),
    (y ∈ (r.foldl (withStep s id) (l, d)).1 ↔ y ∈ l ∨ y ∈ r ∨ (y = (s, id) ∧ d = false ∧ (r.foldl (withStep s id) (l, d)).2 = true))
  | [], l, d => by
    constructor
    · intro h; exact .inl h
    · rintro (h | h | ⟨_, h1, h2⟩)
      · exact h
      · cases h
      · change d = true at h2; rw [h1] at h2; cases h2
  | x :: r, l, d => by
    rw [List.foldl_cons]
    by_cases hc : (!d && gtB x.1.toList s.toList) = true
    · have e : withStep s id (l, d) x = (l ++ [(s, id)] ++ [(x.1, x.2)], true) := by unfold withStep; rw [if_pos hc]
      have hd : d = false := by cases d <;> simp_all
      rw [e, mem_fold s id y r _ true, fold_true]
      constructor
      · rintro (h | h | ⟨_, h, _⟩)
        · rcases List.mem_append.1 h with h | h
          · rcases List.mem_append.1 h with h | h
            · exact .inl h
            · exact .inr (.inr ⟨by simpa using h, hd, rfl⟩)
          · exact .inr (.inl (by simp at h; rw [h]; simp))
        · exact .inr (.inl (by simp [h]))
        · cases h
      · rintro (h | h | ⟨h, _, _⟩)
        · exact .inl (by simp [h])
        · rcases List.mem_cons.1 h with rfl | h
          · exact .inl (by simp)
          · exact .inr (.inl h)
        · exact .inl (by simp [h])
    · have e : withStep s id (l, d) x = (l ++ [(x.1, x.2)], d) := by unfold withStep; rw [if_neg hc]
      rw [e, mem_fold s id y r _ d]
      constructor
      · rintro (h | h | h)
        · rcases List.mem_append.1 h with h | h
          · exact .inl h
          · exact .inr (.inl (by simp at h; rw [h]; simp))
        · exact .inr (.inl (by simp [h]))
        · exact .inr (.inr h)
      · rintro (h | h | h)
        · exact .inl (by simp [h])
        · rcases List.mem_cons.1 h with rfl | h
          · exact .inl (by simp)
          · exact .inr (.inl h)
        · exact .inr (.inr h)
theorem mem_with (l : List LinkD) (s : ByteArray) (id : Int) (y : LinkD) : y ∈ withD l s id ↔ y ∈ l ∨ y = (s, id) := by
  have h := mem_fold s id y l [] false
  unfold withD withGo
  cases hd : (l.foldl (withStep s id) ([], false)).2
  · rw [if_neg (by simp)]
    rw [hd] at h
    rw [List.mem_append, h]; simp
  · rw [if_pos rfl]
    rw [hd] at h
    rw [h]; simp
theorem inN_with (l : List LinkD) (s : ByteArray) (id : Int) (t : List UInt8) : InN (withD l s id) t ↔ InN l t ∨ s.toList = t := by
  unfold InN
  constructor
  · rintro ⟨x, hx, e⟩
    rcases (mem_with l s id x).1 hx with h | rfl
    · exact .inl ⟨x, h, e⟩
    · exact .inr e
  · rintro (⟨x, hx, e⟩ | e)
    · exact ⟨x, (mem_with l s id x).2 (.inl hx), e⟩
    · exact ⟨(s, id), (mem_with l s id _).2 (.inr rfl), e⟩
theorem inN_less (l : List LinkD) (s t : List UInt8) : InN (lessD l s) t ↔ InN l t ∧ t ≠ s := by
  unfold InN
  constructor
  · rintro ⟨x, hx, e⟩
    have := (mem_less l s x).1 hx
    exact ⟨⟨x, this.1, e⟩, by rw [← e]; exact this.2⟩
  · rintro ⟨⟨x, hx, e⟩, hne⟩
    exact ⟨x, (mem_less l s x).2 ⟨hx, by rw [e]; exact hne⟩, e⟩
theorem has_put (D : Dat) (h : Maps.IsMap D) (a b : ByteArray) (v : Dat) : has (D.put (kS a) v) (kS b) = true ↔ has D (kS b) = true ∨ a.toList = b.toList := by
  by_cases e : a.toList = b.toList
  · have : kS b = kS a := ((kS_iff a b).2 e).symm
    rw [this, has_put_same h (show WideAt.IsKeyLit (kS a) from trivial)]; simp [e]
  · rw [has_put_other (fun h' => e ((kS_iff a b).1 h'.symm))]; simp [e]
theorem has_del (D : Dat) (a b : ByteArray) : has (D.del (kS a)) (kS b) = true ↔ has D (kS b) = true ∧ a.toList ≠ b.toList := by
  by_cases e : a.toList = b.toList
  · have : kS b = kS a := ((kS_iff a b).2 e).symm
    rw [this, has_del_same]; simp [e]
  · rw [has_del_other (fun h' => e ((kS_iff a b).1 h'.symm))]; simp [e]

theorem same_dirL_rev : ∀ (r : List LinkD), (∀ x ∈ r, 0 < x.2) → Same r.reverse (dirL r.reverse)
  | [], _ => ⟨isMap_empty, fun s => ⟨(fun h => by cases h), fun ⟨x, hx, _⟩ => by cases hx⟩, fun x hx => by cases hx⟩
  | x :: r, hp => by
    obtain ⟨h1, h2, h3⟩ := same_dirL_rev r (fun y hy => hp y (by simp [hy]))
    rw [List.reverse_cons]
    have e : dirL (r.reverse ++ [x]) = (dirL r.reverse).put (kS x.1) (vI x.2) := by unfold dirL; rw [List.foldl_append]; rfl
    rw [e]
    refine ⟨h1.put _ _, fun s => ?_, fun y hy => ?_⟩
    · rw [has_put _ h1, h2]
      unfold InN
      constructor
      · rintro (⟨y, hy, e2⟩ | e2)
        · exact ⟨y, by simp at hy ⊢; exact .inl hy, e2⟩
        · exact ⟨x, by simp, e2⟩
      · rintro ⟨y, hy, e2⟩
        rcases List.mem_append.1 hy with hy | hy
        · exact .inl ⟨y, hy, e2⟩
        · simp at hy; subst hy; exact .inr e2
    · rcases List.mem_append.1 hy with hy | hy
      · exact h3 y hy
      · simp at hy; subst hy; exact hp _ (by simp)
theorem same_dirL (ks : List LinkD) (hp : ∀ x ∈ ks, 0 < x.2) : Same ks (dirL ks) := by
  have := same_dirL_rev ks.reverse (fun x hx => hp x (by simpa using hx))
  rw [List.reverse_reverse] at this; exact this

/-- one turn: the model's question and the program's two are the same -/
theorem turn_same {l : List LinkD} {D : Dat} (hS : Same l D) (t : TurnD) (hc : t.kind = 1 → 0 < t.id) : turnOkS l t = true ↔ turnOkI t = true ∧ acceptsB D t = true := by
  have hf : decide (0 < findD l t.name.toList) = has D (kS t.name) := by
    rw [Bool.eq_iff_iff, decide_eq_true_iff, find_pos l _ hS.2.2, hS.2.1]
  unfold turnOkS turnOkI acceptsB tokS tokI
  rw [hf]
  by_cases k1 : t.kind = 1
  · have := hc k1
    simp only [k1, if_true]
    cases madeB nb 16 t.name.data.toList <;> cases t.to_.toList.isEmpty <;> cases has D (kS t.name) <;> simp [this]
  · by_cases k4 : t.kind = 4
    · simp only [if_neg k1, if_pos k4]
      cases madeB nb 16 t.name.data.toList <;> cases madeB nb 16 t.to_.data.toList <;> cases has D (kS t.name) <;> cases (t.to_.toList == t.name.toList) <;> simp
    · by_cases k5 : t.kind = 5
      · simp only [if_neg k1, if_neg k4, if_pos k5]
        cases hn : madeB nb 16 t.name.data.toList
        · simp
        · have hne : (t.to_.toList == t.name.toList) = false ∨ t.to_.toList.isEmpty = false := by
            cases he : t.to_.toList.isEmpty
            · exact .inr rfl
            · refine .inl ?_
              have e0 : t.to_.toList = [] := by simpa using he
              have : t.name.toList ≠ [] := by
                intro e1
                rw [toList_data] at e1
                rw [e1] at hn
                simp [madeB] at hn
              rw [e0]; cases hh : t.name.toList with
              | nil => exact absurd hh this
              | cons a r => rfl
          rcases hne with h | h
          · rw [h]; cases t.to_.toList.isEmpty <;> cases has D (kS t.name) <;> simp
          · rw [h]; simp
      · simp only [if_neg k1, if_neg k4, if_neg k5]; simp
/-- .. and behind it both directories are the same -/
theorem turn_next {l : List LinkD} {D : Dat} (hS : Same l D) (t : TurnD) (hok : turnOkS l t = true) : Same (turnD l t) (applyD D t) := by
  have hok' := hok
  obtain ⟨h1, h2, h3⟩ := hS
  have hfp := find_pos l t.name.toList h3
  unfold turnOkS tokS at hok
  unfold turnD applyD
  by_cases k1 : t.kind = 1
  · simp only [k1, if_true, Bool.and_eq_true, decide_eq_true_iff, Bool.not_eq_true'] at hok
    rw [if_pos k1, if_pos k1]
    refine ⟨h1.put _ _, fun s => ?_, fun x hx => ?_⟩
    · rw [has_put _ h1, h2, inN_with]
    · rcases (mem_with _ _ _ _).1 hx with hx | rfl
      · exact h3 x hx
      · exact hok.2.1.2
  · by_cases k4 : t.kind = 4
    · rw [k4] at hok
      rw [if_neg (by decide), if_pos rfl] at hok
      simp only [Bool.and_eq_true, decide_eq_true_iff, Bool.not_eq_true'] at hok
      have hne : t.to_.toList ≠ t.name.toList := by have := hok.2.1.1.2; simpa using this
      have hin : InN l t.name.toList := hfp.1 hok.2.2
      rw [if_neg k1, if_pos k4, if_neg k1, if_pos k4]
      refine ⟨(h1.put _ _).del _, fun s => ?_, fun x hx => ?_⟩
      · rw [has_del, has_put _ h1, h2, inN_with, inN_less, inN_less]
        constructor
        · rintro ⟨h | h, hn⟩
          · by_cases e : t.to_.toList = s.toList
            · exact .inr e
            · exact .inl ⟨⟨h, fun e' => hn e'.symm⟩, fun e' => e e'.symm⟩
          · exact .inr h
        · rintro (⟨⟨h, h4⟩, h5⟩ | h)
          · exact ⟨.inl h, fun e => h4 e.symm⟩
          · exact ⟨.inr h, fun e => hne (h.trans e.symm)⟩
      · rcases (mem_with _ _ _ _).1 hx with hx | rfl
        · exact h3 x ((mem_less _ _ _).1 ((mem_less _ _ _).1 hx).1).1
        · exact hok.2.2
    · by_cases k5 : t.kind = 5
      · rw [if_neg k1, if_neg k4, if_neg k1, if_neg k4, if_pos k5]
        refine ⟨h1.del _, fun s => ?_, fun x hx => h3 x ((mem_less _ _ _).1 hx).1⟩
        rw [has_del, h2, inN_less]
        exact ⟨fun ⟨a, b⟩ => ⟨a, fun e => b e.symm⟩, fun ⟨a, b⟩ => ⟨a, fun e => b e.symm⟩⟩
      · rw [if_neg k1, if_neg k4, if_neg k5] at hok
        simp at hok
theorem dirAt_snoc (ks : List LinkD) (ts : List TurnD) (j : Nat) (h : j < ts.length) : dirAt ks (ts.take (j + 1)) = turnD (dirAt ks (ts.take j)) ts[j] := by
  rw [List.take_succ_eq_append_getElem h]; unfold dirAt; rw [List.foldl_append]; rfl
theorem dirM_snoc' (ks : List LinkD) (ts : List TurnD) (j : Nat) (h : j < ts.length) : dirM ks (ts.take (j + 1)) = applyD (dirM ks (ts.take j)) ts[j] := by
  rw [List.take_succ_eq_append_getElem h]; unfold dirM; rw [List.foldl_append]; rfl
theorem turns_iff (ks : List LinkD) (ts : List TurnD) (hk : ∀ x ∈ ks, 0 < x.2) (ht : ∀ t ∈ ts, t.kind = 1 → 0 < t.id) : (∀ j h, TurnAt ks ts j h) ↔ ∀ j h, TurnAtI ks ts j h := by
  have h0 : Same (dirAt ks (ts.take 0)) (dirM ks (ts.take 0)) := same_dirL ks hk
  constructor
  · intro ha
    have hS : ∀ j, j ≤ ts.length → Same (dirAt ks (ts.take j)) (dirM ks (ts.take j)) := by
      intro j
      induction j with
      | zero => intro _; exact h0
      | succ j ih =>
        intro hj
        rw [dirAt_snoc ks ts j hj, dirM_snoc' ks ts j hj]
        exact turn_next (ih (by omega)) _ (ha j hj)
    intro j h
    exact (turn_same (hS j (by omega)) _ (ht _ (List.getElem_mem h))).1 (ha j h)
  · intro ha
    have hS : ∀ j, j ≤ ts.length → Same (dirAt ks (ts.take j)) (dirM ks (ts.take j)) := by
      intro j
      induction j with
      | zero => intro _; exact h0
      | succ j ih =>
        intro hj
        rw [dirAt_snoc ks ts j hj, dirM_snoc' ks ts j hj]
        exact turn_next (ih (by omega)) _ ((turn_same (ih (by omega)) _ (ht _ (List.getElem_mem hj))).2 (ha j hj))
    intro j h
    exact (turn_same (hS j (by omega)) _ (ht _ (List.getElem_mem h))).2 (ha j h)

/-- what the model asks -/
def OkS (room fuse next : Int) (fs : List FileD) (ks : List LinkD) (ts : List TurnD) : Prop :=
  NumI room fuse next ∧ fs.length ≤ 10 ∧ ks.length ≤ 10 ∧ ts.length ≤ 30 ∧ RestOk room next fs ks ts
theorem ok_iff (room fuse next : Int) (fs : List FileD) (ks : List LinkD) (ts : List TurnD) : OkS room fuse next fs ks ts ↔ OkI room fuse next fs ks ts := by
  have hpos : (∀ j h, FileAt next fs j h) → (∀ j h, IdAt (fidsD fs) (idsD ks ts) j h) → (∀ x ∈ ks, 0 < x.2) ∧ ∀ t ∈ ts, t.kind = 1 → 0 < t.id := by
    intro ha hid
    have hp := ids_pos next fs ks ts ha hid
    refine ⟨fun x hx => hp _ ?_, fun t ht k1 => hp _ ?_⟩
    · unfold idsD; exact List.mem_append.2 (.inl (List.mem_map.2 ⟨x, hx, rfl⟩))
    · unfold idsD tids; exact List.mem_append.2 (.inr (List.mem_map.2 ⟨t, List.mem_filter.2 ⟨ht, by simp [k1]⟩, rfl⟩))
  constructor
  · rintro ⟨hn, h10, _, h30, hu, hfa, hka, hl, hid, hta⟩
    obtain ⟨p1, p2⟩ := hpos hfa hid
    exact ⟨hn, ⟨h10, (files_iff next fs).1 hfa, hu⟩, (kept_iff ks).1 hka, ⟨h30, (turns_iff ks ts p1 p2).1 hta⟩, (ids_iff next fs ks ts hfa).1 ⟨hl, hid⟩⟩
  · rintro ⟨hn, ⟨h10, hfi, hu⟩, hki, ⟨h30, hti⟩, hii⟩
    have hfa := (files_iff next fs).2 hfi
    obtain ⟨hl, hid⟩ := (ids_iff next fs ks ts hfa).2 hii
    obtain ⟨p1, p2⟩ := hpos hfa hid
    have hk10 : ks.length ≤ 10 := by
      have : (idsD ks ts).length = ks.length + (tids ts).length := by simp [idsD]
      omega
    exact ⟨hn, h10, hk10, h30, hu, hfa, (kept_iff ks).2 hki, hl, hid, (turns_iff ks ts p1 p2).2 hti⟩

/-- the model's DiskOk, whole -/
theorem specOk_any (room fuse next : Int) (F : Option Addr) (nf cf : Nat) (K : Option Addr) (nk ck : Nat) (T : Option Addr) (nt ct : Nat) (fs : List FileD) (ks : List LinkD) (ts : List TurnD) (w : World)
    (hf : RdF w w.heap.size F fs) (hfl : fs.length = nf) (hu : usedD fs ≤ 1099511627776)
    (hk : RdL w w.heap.size K ks) (hkl : ks.length = nk) (hks : ∀ x ∈ ks, x.1.size ≤ maxLen)
    (ht : RdT w w.heap.size T ts) (htl : ts.length = nt) (hts : ∀ x ∈ ts, x.name.size ≤ maxLen ∧ x.to_.size ≤ maxLen) :
    Calls Tryd.prog 10 #[.agg #[.int .i64 room, .int .i64 fuse, .int .i64 next, .slice F nf cf, .slice K nk ck, .slice T nt ct]] w (Ans (OkS room fuse next fs ks ts) w.heap.size w) := by
  have no : ∀ (h : ¬ OkS room fuse next fs ks ts), ∀ e w', (e = .returned (.bool false) ∧ Below w.heap.size w w') → Ans (OkS room fuse next fs ks ts) w.heap.size w e w' := by
    rintro h e w' ⟨rfl, hb⟩; exact ans_no h hb
  by_cases h0 : room < 0
  · exact (spec_hd0 room fuse next F nf cf K nk ck T nt ct w h0).mono (no (fun h => by have := h.1.1; omega))
  by_cases h1 : 400000 < room
  · exact (spec_hd1 room fuse next F nf cf K nk ck T nt ct w h0 h1).mono (no (fun h => by have := h.1.2.1; omega))
  by_cases h2 : fuse < -1
  · exact (spec_hd2 room fuse next F nf cf K nk ck T nt ct w h0 h1 h2).mono (no (fun h => by have := h.1.2.2.1; omega))
  by_cases h3 : 1000 < fuse
  · exact (spec_hd3 room fuse next F nf cf K nk ck T nt ct w h0 h1 h2 h3).mono (no (fun h => by have := h.1.2.2.2.1; omega))
  by_cases h4 : next < 1
  · exact (spec_hd4 room fuse next F nf cf K nk ck T nt ct w h0 h1 h2 h3 h4).mono (no (fun h => by have := h.1.2.2.2.2.1; omega))
  by_cases h5 : 1000000 < next
  · exact (spec_hd5 room fuse next F nf cf K nk ck T nt ct w h0 h1 h2 h3 h4 h5).mono (no (fun h => by have := h.1.2.2.2.2.2; omega))
  by_cases h6 : (10 : Int) < nf
  · exact (spec_hd6 room fuse next F nf cf K nk ck T nt ct w h0 h1 h2 h3 h4 h5 h6).mono (no (fun h => by have := h.2.1; omega))
  by_cases h7 : (10 : Int) < nk
  · exact (spec_hd7 room fuse next F nf cf K nk ck T nt ct w h0 h1 h2 h3 h4 h5 h6 h7).mono (no (fun h => by have := h.2.2.1; omega))
  by_cases h8 : (30 : Int) < nt
  · exact (spec_hd8 room fuse next F nf cf K nk ck T nt ct w h0 h1 h2 h3 h4 h5 h6 h7 h8).mono (no (fun h => by have := h.2.2.2.1; omega))
  refine (spec_rest room fuse next F nf cf K nk ck T nt ct fs ks ts w hf hfl hu hk hkl hks ht htl hts h0 h1 h2 h3 h4 h5 h6 h7 h8).mono ?_
  rintro e w' ⟨b, rfl, hi, hb⟩
  refine ⟨b, rfl, hi.trans ⟨fun h => ⟨⟨by omega, by omega, by omega, by omega, by omega, by omega⟩, by omega, by omega, by omega, h⟩, fun h => h.2.2.2.2⟩, hb⟩
end Go.Proofs.YtckiloacbanbmaaDoor.DOk
