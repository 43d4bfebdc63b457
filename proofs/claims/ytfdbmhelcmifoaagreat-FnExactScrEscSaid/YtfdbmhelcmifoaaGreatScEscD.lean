/- What an escape sequence makes of a screen's data. No function of the program is named. -/
import Derived.Test.YtfdbmhelcmifoaaGreatScTb
import Derived.Test.YtfdbmhelcmifoaaGreatKiT
import Derived.Test.YtfdbmhelcmifoaaGreatScNewC
namespace Go.Proofs.YtfdbmhelcmifoaaGreat.Sc
open Go.RowKit Go.Proofs.YtfdbmhelcmifoaaGreat.Bytes Go.Proofs.YtfdbmhelcmifoaaGreat.Rows_ Go.Proofs.YtfdbmhelcmifoaaGreat.RowK Go.Proofs.YtfdbmhelcmifoaaGreat.Gr Go.Proofs.YtfdbmhelcmifoaaGreat.DOk Go.Proofs.YtfdbmhelcmifoaaGreat.Opq Go.Proofs.YtfdbmhelcmifoaaGreat.Attr
set_option linter.unusedVariables false
def saveD (d : ScrD) : ScrD := { d with sx := d.x, sy := d.y, sfg := d.fg, sbg := d.bg, sb := d.b, su := d.u, st := d.t }
def backD (d : ScrD) : ScrD := { d with x := d.sx, y := d.sy, wrap := false, fg := d.sfg, bg := d.sbg, b := d.sb, u := d.su, t := d.st }
def tabAdd (x : Int) : List Int → List Int
  | [] => [x]
  | z :: zs => if z < x then z :: tabAdd x zs else if z = x then z :: zs else x :: z :: zs
def tabsD (d : ScrD) (l : List Int) : ScrD := { d with tabs := l }
def rowsD (d : ScrD) (l : List (List CellD)) : ScrD := { d with rows := l }
def x0D (d : ScrD) : ScrD := { d with x := 0 }
def resetD (d : ScrD) : ScrD := rowsD (newD d.w d.h d.lim) d.rows
def escD (d : ScrD) (z : Int) : ScrD := if z = 68 then downD d else if z = 77 then upD d else if z = 69 then x0D (downD d) else if z = 55 then saveD d else if z = 56 then backD d else if z = 72 then tabsD d (tabAdd d.x d.tabs) else if z = 99 then resetD d else d
theorem ok_up {d : ScrD} (h : okD d = true) : okD (upD d) = true := by
  obtain ⟨W, H, X, Y, T, Bt, L, f⟩ := ok_fit h
  unfold upD
  split
  · exact ok_put (ok_wrapF h) (rollC_len f (-1)) (rollC_all h d.top d.bot (-1))
  · have e1 := f.x; have e2 := f.y; have e3 := f.w; have e4 := f.h; have g1 := f.x2; have g2 := f.y2; have g3 := f.h1
    exact ok_at h d.x (max (d.y - 1) 0) false (by omega) (by omega) (by simp)
theorem ok_x0down {d : ScrD} (h : okD d = true) : okD (x0D (downD d)) = true := by
  obtain ⟨h1, h2, h3, h4⟩ := down_x d
  have hd := ok_down h
  obtain ⟨W, H, X, Y, T, Bt, L, f⟩ := ok_fit hd
  have := f.y; have := f.y2; have := f.h; have := f.w; have := f.w1
  exact ok_at hd 0 (downD d).y (downD d).wrap (by omega) (by omega) (by rw [h4]; simp)
theorem ok_save {d : ScrD} (h : okD d = true) : okD (saveD d) = true := by
  obtain ⟨h1, ⟨a1, a2, a3, a4, a5, a6, a7, a8, a9, a10, a11⟩, h2⟩ := okD_iff.1 h
  exact okD_t ⟨h1, ⟨a1, a2, a3, a4, a5, a1, a2, a3, a4, a10, a10⟩, h2⟩
theorem ok_back {d : ScrD} (h : okD d = true) : okD (backD d) = true := by
  obtain ⟨h1, ⟨a1, a2, a3, a4, a5, a6, a7, a8, a9, a10, a11⟩, h2⟩ := okD_iff.1 h
  exact okD_t ⟨h1, ⟨a6, a7, a8, a9, (fun h => by cases h), a6, a7, a8, a9, a11, a11⟩, h2⟩
theorem okT_add {x w : Int} (hx : x < w) : ∀ (last : Int) (l : List Int), last < x → okT last w l = true → okT last w (tabAdd x l) = true
  | last, [], h1, _ => by simp [tabAdd, okT, h1, hx]
  | last, z :: l, h1, h2 => by
    rw [okT, Bool.and_eq_true] at h2
    have h3 := of_decide_eq_true h2.1
    unfold tabAdd
    split
    · rename_i hz
      rw [okT, h2.1, okT_add hx z l hz h2.2]; rfl
    · split
      · rw [okT, h2.1, h2.2]; rfl
      · rename_i hz hz2
        have : x < z := by omega
        simp [okT, h1, hx, this, h3.2, h2.2]
theorem ok_tabsL {d : ScrD} (h : okD d = true) {l : List Int} (hl : okT (-1) d.w l = true) : okD (tabsD d l) = true := by
  obtain ⟨h1, h2, h3, h4, h5⟩ := okD_iff.1 h
  exact okD_t ⟨h1, h2, h3, hl, h5⟩
theorem ok_tabAdd {d : ScrD} (h : okD d = true) : okD (tabsD d (tabAdd d.x d.tabs)) = true := by
  obtain ⟨h1, ⟨a1, a2, a3⟩, h3, h4, h5⟩ := okD_iff.1 h
  exact ok_tabsL h (okT_add a2 _ _ (by omega) h4)
theorem ok_size0 {d : ScrD} (h : okD d = true) : newB d.w d.h d.lim = true := by
  obtain ⟨W, H, X, Y, T, Bt, L, f⟩ := ok_fit h
  have hw := f.w; have hh := f.h; have hl := f.lim; have l2 := f.l2; have wh := f.wh
  have w1 := f.w1; have w2 := f.w2; have h1 := f.h1; have h2 := f.h2
  unfold newB sizeB okL
  rw [hw, hh, hl, ← Int.natCast_mul]
  have e1 : decide (1 ≤ (W : Int) ∧ (W : Int) ≤ 120 ∧ 1 ≤ (H : Int) ∧ (H : Int) ≤ 120 ∧ ((W * H : Nat) : Int) ≤ 4000) = true := decide_eq_true (by omega)
  have e2 : decide (0 ≤ (L : Int) ∧ (L : Int) ≤ 100) = true := decide_eq_true (by omega)
  rw [e1, e2]; rfl
theorem new_eq {gw gh lim : Int} (h : newB gw gh lim = true) : newD gw gh lim = (newS gw.toNat gh.toNat lim none none none 0 0 0).data := by unfold newD; rw [h, if_pos rfl]
theorem ok_new {W H L : Nat} (hs : sizeB (W : Int) (H : Int) = true) (hL : L ≤ 100) : okD (newS W H L none none none 0 0 0).data = true := by
  obtain ⟨s1, s2, s3, s4, s5⟩ := of_sizeB hs
  have hg : okG (W : Int) (H : Int) (List.replicate (W * H) blankC) = true := okG_rep hs
  have ht : okT (-1) (W : Int) (tabsK ((W - 1) / 8)) = true := (okT_tabs (W : Int) ((W - 1) / 8) (by omega)).1
  exact okD_t ⟨⟨hg, hg, rfl, rfl, rfl, rfl⟩, ⟨Int.le_refl 0, by show (0 : Int) < W; omega, Int.le_refl 0, by show (0 : Int) < H; omega, (fun h => by cases h), Int.le_refl 0, by show (0 : Int) < W; omega, Int.le_refl 0, by show (0 : Int) < H; omega, rfl, rfl⟩, ⟨Int.le_refl 0, by show (H : Int) - 1 < H; omega, by show (0 : Int) ≤ (H : Int) - 1; omega, (fun h => by have h : (0 : Int) = (H : Int) - 1 := h; show (H : Int) = 1; omega), by show (0 : Int) ≤ L; omega, by show (L : Int) ≤ 100; omega, by show ((0 : Nat) : Int) ≤ L; omega⟩, ht, rfl⟩
theorem newB_size {gw gh lim : Int} (h : newB gw gh lim = true) : sizeB gw gh = true := by
  unfold newB at h; rw [Bool.and_eq_true] at h; exact h.1
theorem ok_reset {d : ScrD} (h : okD d = true) : okD (resetD d) = true := by
  obtain ⟨W, H, X, Y, T, Bt, L, f⟩ := ok_fit h
  have hb := ok_size0 h
  have hw := f.w; have hh := f.h; have hl := f.lim
  unfold resetD
  rw [new_eq hb]
  rw [hw, hh, hl] at hb ⊢
  rw [Int.toNat_natCast, Int.toNat_natCast]
  have h1 := ok_new (newB_size hb) f.l2
  exact ok_rows_step h1 (by show d.rows.length ≤ (L : Int).toNat; have := f.rl; omega) (okD_iff.1 h).2.2.2.2
theorem ok_esc {d : ScrD} (h : okD d = true) (z : Int) : okD (escD d z) = true := by
  unfold escD
  split
  · exact ok_down h
  · split
    · exact ok_up h
    · split
      · exact ok_x0down h
      · split
        · exact ok_save h
        · split
          · exact ok_back h
          · split
            · exact ok_tabAdd h
            · split
              · exact ok_reset h
              · exact h
theorem sz_esc (d : ScrD) (z : Int) : szD (okF (fun d => escD d z) d) ≤ 1048576 := sz_okF fun h => by
  have := ok_size (ok_esc h z); show szD (escD d z) ≤ _; omega
/-! ### sorted tab stops -/
theorem okT_pw : ∀ (last w : Int) (l : List Int), okT last w l = true → l.Pairwise (· < ·) ∧ ∀ z ∈ l, last < z ∧ z < w
  | _, _, [], _ => ⟨List.Pairwise.nil, fun z hz => by cases hz⟩
  | last, w, t :: l, h => by
    rw [okT, Bool.and_eq_true] at h
    have h1 := of_decide_eq_true h.1
    obtain ⟨h2, h3⟩ := okT_pw t w l h.2
    refine ⟨List.pairwise_cons.2 ⟨fun z hz => (h3 z hz).1, h2⟩, fun z hz => ?_⟩
    rcases List.mem_cons.1 hz with rfl | hz
    · exact h1
    · have := h3 z hz; omega
theorem sorted_ext : ∀ (l m : List Int), l.Pairwise (· < ·) → m.Pairwise (· < ·) → (∀ a, a ∈ l ↔ a ∈ m) → l = m
  | [], [], _, _, _ => rfl
  | [], b :: m, _, _, h => by have := (h b).2 (by simp); cases this
  | a :: l, [], _, _, h => by have := (h a).1 (by simp); cases this
  | a :: l, b :: m, h1, h2, h => by
    obtain ⟨p1, q1⟩ := List.pairwise_cons.1 h1
    obtain ⟨p2, q2⟩ := List.pairwise_cons.1 h2
    have e : a = b := by
      rcases List.mem_cons.1 ((h a).1 (by simp)) with e | e
      · exact e
      · rcases List.mem_cons.1 ((h b).2 (by simp)) with e2 | e2
        · exact e2.symm
        · have := p2 a e; have := p1 b e2; omega
    subst e
    rw [sorted_ext l m q1 q2 (fun x => ⟨fun hx => by
      rcases List.mem_cons.1 ((h x).1 (List.mem_cons_of_mem _ hx)) with rfl | e
      · have := p1 _ hx; omega
      · exact e, fun hx => by
      rcases List.mem_cons.1 ((h x).2 (List.mem_cons_of_mem _ hx)) with rfl | e
      · have := p2 _ hx; omega
      · exact e⟩)]
theorem mem_add (x y : Int) : ∀ l : List Int, y ∈ tabAdd x l ↔ y = x ∨ y ∈ l
  | [] => by simp [tabAdd]
  | z :: l => by
    unfold tabAdd
    split
    · rw [List.mem_cons, mem_add x y l, List.mem_cons]
      constructor
      · rintro (h | h | h)
        · exact .inr (.inl h)
        · exact .inl h
        · exact .inr (.inr h)
      · rintro (h | h | h)
        · exact .inr (.inl h)
        · exact .inl h
        · exact .inr (.inr h)
    · split
      · rename_i e
        subst e
        rw [List.mem_cons]
        constructor
        · intro h; exact .inr h
        · rintro (h | h)
          · exact .inl h
          · exact h
      · rw [List.mem_cons]
/-- the columns below k of the stops and of x -/
def tabF (x : Int) (zs : List Int) (k : Nat) : List Int := ((List.range k).filter fun i : Nat => decide ((i : Int) = x) || zs.contains (i : Int)).map fun i : Nat => (i : Int)
theorem tabF_zero (x : Int) (zs : List Int) : tabF x zs 0 = [] := rfl
def tabP (x : Int) (zs : List Int) (i : Nat) : Bool := decide ((i : Int) = x) || zs.contains (i : Int)
theorem tabF_in {x : Int} {zs : List Int} {k : Nat} (h : (decide ((k : Int) = x) || zs.contains (k : Int)) = true) : tabF x zs (k + 1) = tabF x zs k ++ [(k : Int)] := by
  show ((List.range (k + 1)).filter (tabP x zs)).map _ = ((List.range k).filter (tabP x zs)).map _ ++ _
  rw [List.range_succ, List.filter_append, List.filter_cons_of_pos (show tabP x zs k = true from h), List.filter_nil, List.map_append]; rfl
theorem tabF_out {x : Int} {zs : List Int} {k : Nat} (h : (decide ((k : Int) = x) || zs.contains (k : Int)) = false) : tabF x zs (k + 1) = tabF x zs k := by
  show ((List.range (k + 1)).filter (tabP x zs)).map _ = ((List.range k).filter (tabP x zs)).map _
  rw [List.range_succ, List.filter_append, List.filter_cons_of_neg (show ¬ tabP x zs k = true by rw [show tabP x zs k = false from h]; decide), List.filter_nil, List.append_nil]
theorem tabF_len (x : Int) (zs : List Int) (k : Nat) : (tabF x zs k).length ≤ k := by
  unfold tabF; rw [List.length_map]; exact Nat.le_trans (List.length_filter_le _ _) (by simp)
theorem tabF_eq {x : Int} {zs : List Int} {W : Nat} (h0 : 0 ≤ x) (h1 : x < (W : Int)) (h : okT (-1) (W : Int) zs = true) : tabF x zs W = tabAdd x zs := by
  refine sorted_ext _ _ ?_ (okT_pw _ _ _ (okT_add h1 _ _ (by omega) h)).1 fun a => ?_
  · unfold tabF
    rw [List.pairwise_map]
    exact (List.Pairwise.filter _ List.pairwise_lt_range).imp (fun h => by omega)
  · rw [mem_add]
    unfold tabF
    rw [List.mem_map]
    constructor
    · rintro ⟨i, hi, rfl⟩
      rw [List.mem_filter, Bool.or_eq_true] at hi
      rcases hi.2 with e | e
      · exact .inl (of_decide_eq_true e)
      · exact .inr (List.contains_iff_mem.1 e)
    · intro ha
      have hb : 0 ≤ a ∧ a < (W : Int) := by
        rcases ha with rfl | ha
        · exact ⟨h0, h1⟩
        · have := (okT_pw _ _ _ h).2 a ha; omega
      refine ⟨a.toNat, ?_, by omega⟩
      have e : (a.toNat : Int) = a := by omega
      rw [List.mem_filter, List.mem_range, Bool.or_eq_true, e]
      refine ⟨by omega, ?_⟩
      rcases ha with rfl | ha
      · exact .inl (decide_eq_true rfl)
      · exact .inr (List.contains_iff_mem.2 ha)
theorem tabAdd_has {x : Int} : ∀ {l : List Int}, l.Pairwise (· < ·) → l.contains x = true → tabAdd x l = l
  | [], _, h => by simp at h
  | z :: l, hp, h => by
    obtain ⟨p1, q1⟩ := List.pairwise_cons.1 hp
    have hm : x ∈ z :: l := List.contains_iff_mem.1 h
    unfold tabAdd
    rcases List.mem_cons.1 hm with rfl | hm
    · rw [if_neg (by omega), if_pos rfl]
    · have := p1 x hm
      rw [if_pos this, tabAdd_has q1 (List.contains_iff_mem.2 hm)]
theorem tabAdd_new {x : Int} : ∀ {l : List Int}, l.Pairwise (· < ·) → l.contains x = false → tabAdd x l = l.take (l.countP (· < x)) ++ x :: l.drop (l.countP (· < x))
  | [], _, _ => rfl
  | z :: l, hp, h => by
    obtain ⟨p1, q1⟩ := List.pairwise_cons.1 hp
    have hn : ¬ x ∈ z :: l := fun hm => by rw [List.contains_iff_mem.2 hm] at h; cases h
    rw [List.mem_cons, not_or] at hn
    have h' : l.contains x = false := by
      cases hc : l.contains x
      · rfl
      · exact absurd (List.contains_iff_mem.1 hc) hn.2
    unfold tabAdd
    split
    · rename_i hz
      rw [List.countP_cons_of_pos (by simpa using hz), tabAdd_new q1 h']; rfl
    · rename_i hz
      have h0 : (z :: l).countP (· < x) = 0 := List.countP_eq_zero.2 fun a ha => by
        rcases List.mem_cons.1 ha with rfl | ha
        · simpa using hz
        · have := p1 a ha; simp; omega
      rw [if_neg (by omega), h0]; rfl
end Go.Proofs.YtfdbmhelcmifoaaGreat.Sc
