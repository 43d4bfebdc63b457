/- An append of a whole row to a row of the call's own; what is one cell. -/
import Derived.Test.YtckiloacbanbmaaDoorToDisk
import Derived.WalkSpells
import Derived.Laws.AppendOwnNone
namespace Go.Proofs.YtckiloacbanbmaaDoor.DOk
open Go.RowKit Go.Proofs.YtckiloacbanbmaaDoor.Bytes Go.Proofs.YtckiloacbanbmaaDoor.Rows_
set_option linter.unusedVariables false

theorem flat_get (K : Nat) (hK : 0 < K) : ∀ (rows : List (List Value)), (∀ r ∈ rows, r.length = K) → ∀ (j : Nat) (u : Value), rows.flatten[j]? = some u → ∃ row, rows[j / K]? = some row ∧ row[j % K]? = some u
  | [], _, j, u, h => by simp at h
  | r :: rs, hr, j, u, h => by
    have hl : r.length = K := hr r (by simp)
    rw [List.flatten_cons] at h
    by_cases hj : j < K
    · rw [List.getElem?_append_left (by omega)] at h
      exact ⟨r, by rw [Nat.div_eq_of_lt hj]; rfl, by rw [Nat.mod_eq_of_lt hj]; exact h⟩
    · rw [List.getElem?_append_right (by omega), hl] at h
      obtain ⟨row, h1, h2⟩ := flat_get K hK rs (fun x hx => hr x (by simp [hx])) (j - K) u h
      have e1 : j / K = (j - K) / K + 1 := by
        have := Nat.add_div_right (j - K) hK
        rw [Nat.sub_add_cancel (by omega)] at this; exact this
      have e2 : (j - K) % K = j % K := by
        have := Nat.add_mod_right (j - K) K
        rw [Nat.sub_add_cancel (by omega)] at this; exact this.symm
      exact ⟨row, by rw [e1, List.getElem?_cons_succ]; exact h1, by rw [← e2]; exact h2⟩
theorem rdK_cells {K : Nat} (hK : 0 < K) {w : World} {B : Nat} {ad : Addr} {rows : List (List Value)} (hr : ∀ r ∈ rows, r.length = K) (h : RdK K w B (some ad) rows) : ∀ j u, rows.flatten[j]? = some u → w.cell? (ad.add j) = some u := by
  intro j u hu
  obtain ⟨row, h1, h2⟩ := flat_get K hK rows hr j u hu
  obtain ⟨b, o, e, _, hc⟩ := h (Nat.lt_of_le_of_lt (Nat.zero_le _) (List.getElem?_eq_some_iff.1 h1).1)
  injection e with e
  subst e
  rw [Addr.add_lit]
  have := hc (j / K) row h1 (j % K) u h2
  rw [Nat.add_assoc, Nat.div_add_mod'] at this
  exact this
theorem own_noneK {w : World} {base K n : Nat} {E : TypeId} {A : Option Addr} {c : Nat} {xs : List Value} (h : w.ownsRow base E K (.slice A n c) n xs) : A = none → n = 0 ∧ c = 0 := by
  intro e
  rcases h.2 with ⟨hv, h0⟩ | ⟨g, cap, cur, hv, _⟩
  · injection hv with _ e2 e3
    exact ⟨e2, e3⟩
  · injection hv with e1
    rw [e] at e1; cases e1
theorem own_blockK {w : World} {base K n : Nat} {E : TypeId} {v : Value} {xs : List Value} (h : w.ownsRow base E K v n xs) : ∀ g, v.ownBlock = some g → base ≤ g := fun g hg => (World.ownsRow.lt h g hg).1

/-- 'out = append(out, src...)', slices of structs -/
theorem append_rows {T E : TypeId} {K bytes : Nat} {zero : Value} (hT : Tryd.prog.underlying T = some (.slice E)) (hinf : (Tryd.prog.info? E).map (fun i => (i.zero, i.size, i.bytes)) = some (some zero, K, bytes)) (hzs : zero.cells.size = K) (hK : 0 < K) (hby : bytes ≤ 48)
    {wr : World} {ops : Array Oper} {rest : List Oper} {o : Oper} {a : Act} {Q : Exit → Act → World → Prop} (hgd : o.guard = none) (s x : Operand) (ho : o.op = .call { callee := .builtin .append, args := #[s, x], argTypes := #[T, T] })
    {base B n c n1 c1 : Nat} {A A1 : Option Addr} {xs : List Value} {rows : List (List Value)} (hs : a.eval s = .slice A n c) (hx : a.eval x = .slice A1 n1 c1)
    (hown : wr.ownsRow base E K (.slice A n c) n xs) (hsrc : RdK K wr B A1 rows) (hrows : ∀ r ∈ rows, r.length = K) (hone : ∀ r ∈ rows, ∀ u ∈ r, u.oneCell' = true) (hA : A1 = none → n1 = 0 ∧ c1 = 0) (hl : rows.length = n1) (hn : n ≤ 1000000000) (hn1 : n1 ≤ 1000000000) (hbase : base ≤ wr.heap.size)
    (h : ∀ A' c' w', w'.ownsRow base E K (.slice A' (n + n1) c') (n + n1) (xs ++ rows.flatten) → Below base wr w' → wr.grownBy w' (Value.slice A n c).ownBlock → wpList Tryd.prog ops Q rest (a.put o.dst (.slice A' (n + n1) c')) w') :
    wpList Tryd.prog ops Q (o :: rest) a wr := by
  obtain ⟨i0, hi, hz0, hz1, hz2⟩ := info_parts hinf
  rcases A1 with _ | ad
  · obtain ⟨rfl, rfl⟩ := hA rfl
    obtain rfl : rows = [] := List.eq_nil_of_length_eq_zero hl
    refine wpList_append_own_none hgd s x T ho base E i0 K hT hi _ _ _ hs hown hx ?_
    have := h A c wr (by simpa using hown) (Below.refl _ _) (World.grownBy.refl _ _)
    simpa using this
  · refine wpList_append_own _ hgd s x T ho base E i0 zero K bytes hT hi hz0 hz1 hz2 hzs hK _ _ _ hs hown ad n1 c1 rows.flatten hx (by rw [flat_len K rows hrows, hl]) (rdK_cells hK hrows hsrc) ?_ ?_ ?_ hbase ?_
    · intro u hu
      obtain ⟨r, hr, hu⟩ := List.mem_flatten.1 hu
      exact hone r hr u hu
    · unfold maxLen; omega
    · have : (n + n1) * bytes ≤ 2000000000 * 48 := Nat.mul_le_mul (by omega) hby
      omega
    · intro v' w' hown' hgrow _
      obtain ⟨A', c', rfl⟩ := own_shapeK hown'
      exact h A' c' w' hown' ((Below.refl _ _).grown hgrow hbase (own_blockK hown)) hgrow
theorem one_link (ks : List LinkD) : ∀ r ∈ ks.map linkR, ∀ u ∈ r, u.oneCell' = true := by
  intro r hr u hu; simp at hr; obtain ⟨a, b, _, rfl⟩ := hr; simp [linkR] at hu; rcases hu with rfl | rfl <;> rfl
theorem one_turn (ks : List TurnD) : ∀ r ∈ ks.map turnR, ∀ u ∈ r, u.oneCell' = true := by
  intro r hr u hu; simp at hr; obtain ⟨a, _, rfl⟩ := hr; simp [turnR] at hu; rcases hu with rfl | rfl | rfl | rfl <;> rfl
theorem one_file (ks : List FileD) : ∀ r ∈ ks.map fileR, ∀ u ∈ r, u.oneCell' = true := by
  intro r hr u hu; simp at hr; obtain ⟨a, _, rfl⟩ := hr; simp [fileR] at hu; rcases hu with rfl | rfl | rfl <;> rfl
end Go.Proofs.YtckiloacbanbmaaDoor.DOk
