/- Two laws of the walk on append, for a byte slice of the call's own: one byte; all bytes of a slice that reads as a list. Lengths at most 2^41. -/
import Derived.Test.YteiojpglhmikoaaDoorKiA
import Derived.Laws.AppendOwnNone
namespace Go.Proofs.YteiojpglhmikoaaDoor.Bytes
open Go.RowKit
set_option linter.unusedVariables false

theorem bv_app (a b : List Int) : bv (a ++ b) = bv a ++ bv b := by simp [bv]
theorem bv_len (a : List Int) : (bv a).length = a.length := by simp [bv]
theorem bv_cell (a : List Int) : ∀ u ∈ bv a, u.oneCell' = true := ints_oneCell _ _
theorem own_shape {w : World} {base : Nat} {e : TypeId} {size : Nat} {v : Value} {n : Nat} {xs : List Value} (h : w.ownsRow base e size v n xs) : ∃ A c, v = .slice A n c := by
  rcases h.2 with ⟨rfl, rfl⟩ | ⟨g, cap, cur, rfl, _⟩
  · exact ⟨none, 0, rfl⟩
  · exact ⟨_, cap, rfl⟩
theorem own_row {w : World} {base : Nat} {v : Value} {n : Nat} {xs : List Int} (h : w.ownsRow base 5 1 v n (bv xs)) : ∃ A c, v = .slice A n c ∧ Own w base A n c xs := by
  obtain ⟨A, c, rfl⟩ := own_shape h
  exact ⟨A, c, rfl, h⟩
theorem own_nil (w : World) (B : Nat) : Own w B none 0 0 [] := World.ownsRow_nil w B _ _
theorem own_block {w : World} {base : Nat} {A : Option Addr} {n c : Nat} {zs : List Int} (h : Own w base A n c zs) : ∀ g, (Value.slice A n c).ownBlock = some g → base ≤ g := fun g hg => (World.ownsRow.lt h g hg).1
theorem own_none {w : World} {base : Nat} {A : Option Addr} {n c : Nat} {zs : List Int} (h : Own w base A n c zs) : A = none → n = 0 ∧ c = 0 := by
  intro e
  rcases h.2 with ⟨hv, h0⟩ | ⟨g, cap, cur, hv, _⟩
  · injection hv with _ e2 e3
    exact ⟨e2, e3⟩
  · injection hv with e1
    rw [e] at e1; cases e1
/-- the cells of a slice that came in, in the append law's own words -/
theorem rd_cells {w : World} {B : Nat} {ad : Addr} {zs : List Int} (h : Rd w B (some ad) zs) : ∀ j u, (bv zs)[j]? = some u → w.cell? (ad.add j) = some u := by
  intro j u hu
  have hj : j < zs.length := by have := (List.getElem?_eq_some_iff.1 hu).1; simpa [bv] using this
  obtain ⟨b, o, e, hlt, hc⟩ := h (by omega)
  injection e with e
  subst e
  rw [Addr.add_lit, hc j hj]
  simpa [bv, hj] using hu

/-- 'out = append(out, z)', one byte, which the walk has laid in a block of its own -/
theorem append_byte {wr : World} {ops : Array Oper} {rest : List Oper} {o : Oper} {a : Act} {Q : Exit → Act → World → Prop} (hgd : o.guard = none) (s x : Operand)
    (ho : o.op = .call { callee := .builtin .append, args := #[s, x], argTypes := #[22, 22] })
    {base n c : Nat} {A : Option Addr} {xs : List Int} {z : Int} (hs : a.eval s = .slice A n c) (hx : a.eval x = .slice (some ⟨wr.heap.size, 0, none⟩) 1 1)
    (hown : Own wr base A n c xs) (hn : n ≤ 2199023255552) (hbase : base ≤ wr.heap.size)
    (h : ∀ A' c' w', Own w' base A' (n + 1) c' (xs ++ [z]) → Below base wr w' → wpList Tryd.prog ops Q rest (a.put o.dst (.slice A' (n + 1) c')) w') :
    wpList Tryd.prog ops Q (o :: rest) a (wr.alloc (.cells #[.int .u8 z] 5)) := by
  obtain ⟨i0, hi, hz0, hz1, hz2⟩ := info_parts Trydinfo
  refine wpList_append_own _ hgd s x 22 ho base 5 i0 (.int .u8 0) 1 1 Tryd.underlying22 hi hz0 hz1 hz2 rfl (by decide) _ _ _ hs (World.ownsRow.alloc hown _) ⟨wr.heap.size, 0, none⟩ 1 1 (bv [z]) hx rfl ?_ (bv_cell _) ?_ ?_ ?_ ?_
  · intro j u hj
    match j, hj with
    | 0, hj => simp [bv] at hj; subst hj; simp [Addr.add]
  · unfold maxLen; omega
  · omega
  · simp; omega
  · intro v' w' hown' hgrow _
    rw [← bv_app] at hown'
    obtain ⟨A', c', rfl, ho'⟩ := own_row hown'
    exact h A' c' w' ho' (((Below.refl _ _).alloc hbase _).grown hgrow (by simp; omega) (own_block hown))

/-- 'out = append(out, src...)', src whatever reads as a list -/
theorem append_src {wr : World} {ops : Array Oper} {rest : List Oper} {o : Oper} {a : Act} {Q : Exit → Act → World → Prop} (hgd : o.guard = none) (s x : Operand)
    (ho : o.op = .call { callee := .builtin .append, args := #[s, x], argTypes := #[22, 22] })
    {base B n c n1 c1 : Nat} {A A1 : Option Addr} {xs ys : List Int} (hs : a.eval s = .slice A n c) (hx : a.eval x = .slice A1 n1 c1)
    (hown : Own wr base A n c xs) (hsrc : Rd wr B A1 ys) (hA : A1 = none → n1 = 0 ∧ c1 = 0) (hl : ys.length = n1) (hn : n ≤ 2199023255552) (hn1 : n1 ≤ 2199023255552) (hbase : base ≤ wr.heap.size)
    (h : ∀ A' c' w', Own w' base A' (n + n1) c' (xs ++ ys) → Below base wr w' → wpList Tryd.prog ops Q rest (a.put o.dst (.slice A' (n + n1) c')) w') :
    wpList Tryd.prog ops Q (o :: rest) a wr := by
  obtain ⟨i0, hi, hz0, hz1, hz2⟩ := info_parts Trydinfo
  rcases A1 with _ | ad
  · obtain ⟨rfl, rfl⟩ := hA rfl
    obtain rfl : ys = [] := List.eq_nil_of_length_eq_zero hl
    refine wpList_append_own_none hgd s x 22 ho base 5 i0 1 Tryd.underlying22 hi _ _ _ hs hown hx ?_
    have := h A c wr (by simpa using hown) (Below.refl _ _)
    simpa using this
  · refine wpList_append_own _ hgd s x 22 ho base 5 i0 (.int .u8 0) 1 1 Tryd.underlying22 hi hz0 hz1 hz2 rfl (by decide) _ _ _ hs hown ad n1 c1 (bv ys) hx (by rw [bv_len]; omega) (rd_cells hsrc) (bv_cell _) ?_ ?_ hbase ?_
    · unfold maxLen; omega
    · omega
    · intro v' w' hown' hgrow _
      rw [← bv_app] at hown'
      obtain ⟨A', c', rfl, ho'⟩ := own_row hown'
      exact h A' c' w' ho' ((Below.refl _ _).grown hgrow hbase (own_block hown))
end Go.Proofs.YteiojpglhmikoaaDoor.Bytes

