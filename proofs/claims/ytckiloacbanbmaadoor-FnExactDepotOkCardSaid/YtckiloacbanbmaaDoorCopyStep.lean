/- Steps of a drawn region: an append of bytes, of a file. -/
import Derived.Test.YtckiloacbanbmaaDoorBoxBase
import Derived.Test.YtckiloacbanbmaaDoorAppRows
import Derived.Test.YtckiloacbanbmaaDoorCloneB
import Derived.Deep.RegionWith
import Derived.Deep.Cut
import Derived.Deep.CutRange
import Derived.Deep.DeepCutAuto
import Derived.Deep.RegionHeld3
import Derived.Deep.RegionLaw
import Derived.Deep.AppendLies
namespace Go.Proofs.YtckiloacbanbmaaDoor.DOk
open Go.RowKit Go.Proofs.YtckiloacbanbmaaDoor.Bytes Go.Proofs.YtckiloacbanbmaaDoor.Rows_
set_option linter.unusedVariables false

theorem step_src {wr : World} {ops : Array Oper} {o : Oper} {a : Act} {K : Act → World → Prop} {Q : Exit → Act → World → Prop} {E : Prop} (hgd : o.guard = none) (s x : Operand)
    (ho : o.op = .call { callee := .builtin .append, args := #[s, x], argTypes := #[43, 43] })
    {base B n c n1 c1 : Nat} {A A1 : Option Addr} {xs ys : List Int} (hs : a.eval s = .slice A n c) (hx : a.eval x = .slice A1 n1 c1)
    (hown : Own wr base A n c xs) (hsrc : Rd wr B A1 ys) (hA : A1 = none → n1 = 0 ∧ c1 = 0) (hl : ys.length = n1) (hn : n ≤ 2199023255552) (hn1 : n1 ≤ 2199023255552) (hbase : base ≤ wr.heap.size)
    (h : ∀ A' c' w', Own w' base A' (n + n1) c' (xs ++ ys) → Below base wr w' → K (a.put o.dst (.slice A' (n + n1) c')) w') :
    if Region.wanted o (yielded ops a.tmps) = true then Oper.wp Tryd.prog o a wr K Q else E := by
  have hw : Region.wanted o (yielded ops a.tmps) = true := by simp [Region.wanted, hgd]
  rw [if_pos hw]
  obtain ⟨i0, hi, hz0, hz1, hz2⟩ := info_parts Trydinfo
  rcases A1 with _ | ad
  · obtain ⟨rfl, rfl⟩ := hA rfl
    obtain rfl : ys = [] := List.eq_nil_of_length_eq_zero hl
    have hrun := run_append_owned_none (P := Tryd.prog) (w := wr) base 43 o.type 5 i0 1 Tryd.underlying43 hi _ n _ hown
    unfold Oper.wp
    simp [execOp, ho, resolve, invoke, builtin, hs, hx, hrun, Result.andThen]
    exact h A c wr (by simpa using hown) (Below.refl _ _)
  · refine wp_append_own wr s x 43 ho base 5 i0 (.int .u8 0) 1 1 Tryd.underlying43 hi hz0 hz1 hz2 rfl (by decide) _ _ _ hs hown ad n1 c1 (bv ys) hx (by rw [bv_len]; omega) (rd_cells hsrc) (bv_cell _) ?_ ?_ hbase ?_
    · unfold maxLen; omega
    · omega
    · intro v' w' hown' hgrow _
      rw [← bv_app] at hown'
      obtain ⟨A', c', rfl, ho'⟩ := own_row hown'
      exact h A' c' w' ho' ((Below.refl _ _).grown hgrow hbase (own_block hown))
theorem step_src0 {wr : World} {ops : Array Oper} {o : Oper} {a : Act} {K : Act → World → Prop} {Q : Exit → Act → World → Prop} {E : Prop} (hgd : o.guard = none) (s x : Operand)
    (ho : o.op = .call { callee := .builtin .append, args := #[s, x], argTypes := #[43, 43] })
    {base B c n1 c1 : Nat} {A A1 : Option Addr} {ys : List Int} (hs : a.eval s = .slice A 0 c) (hx : a.eval x = .slice A1 n1 c1)
    (hown : Own wr base A 0 c []) (hsrc : Rd wr B A1 ys) (hA : A1 = none → n1 = 0 ∧ c1 = 0) (hl : ys.length = n1) (hn1 : n1 ≤ 2199023255552) (hbase : base ≤ wr.heap.size)
    (h : ∀ A' c' w', Own w' base A' n1 c' ys → Below base wr w' → K (a.put o.dst (.slice A' n1 c')) w') :
    if Region.wanted o (yielded ops a.tmps) = true then Oper.wp Tryd.prog o a wr K Q else E :=
  step_src hgd s x ho hs hx hown hsrc hA hl (by omega) hn1 hbase fun A' c' w' h1 h2 => by
    rw [Nat.zero_add]
    refine h A' c' w' ?_ h2
    rw [List.nil_append, Nat.zero_add] at h1; exact h1
theorem OwnBs.grow {w w' : World} {base b n : Nat} {gs : List FileD} {v : Value} {xs : List Value} (h : OwnBs w base gs) (hr : w.ownsRow b 56 3 v n xs) (hg : w.grownBy w' v.ownBlock) : OwnBs w' base gs :=
  ⟨fun f hf => World.ownsRow.kept (h.1 f hf) hg (by
    rcases hb : (Value.slice f.A f.n f.c).ownBlock with _ | c
    · exact .inl rfl
    · exact .inr fun e => own_ne (h.1 f hf) hr (by decide) c hb e.symm), h.2⟩
theorem step_file {wr : World} {ops : Array Oper} {o : Oper} {a : Act} {K : Act → World → Prop} {Q : Exit → Act → World → Prop} {E : Prop} (hgd : o.guard = none) (s x : Operand)
    (ho : o.op = .call { callee := .builtin .append, args := #[s, x], argTypes := #[31, 31] })
    {base n c : Nat} {A : Option Addr} {gs : List FileD} {g : FileD} (hs : a.eval s = .slice A n c) (H : Nat) (hH : wr.heap.size = H) (hx : a.eval x = .slice (some ⟨H, 0, none⟩) 1 1)
    (hown : OwnF wr base A n c gs) (hn : n ≤ 1000000000) (hbase : base ≤ wr.heap.size)
    (h : ∀ A' c' w', OwnF w' base A' (n + 1) c' (gs ++ [g]) → Below base wr w' → wr.grownBy w' (Value.slice A n c).ownBlock → K (a.put o.dst (.slice A' (n + 1) c')) w') :
    if Region.wanted o (yielded ops a.tmps) = true then Oper.wp Tryd.prog o a (wr.alloc (.cells #[.int .i64 g.id, .slice g.A g.n g.c, .int .i64 g.safe] 56)) K Q else E := by
  have hw : Region.wanted o (yielded ops a.tmps) = true := by simp [Region.wanted, hgd]
  rw [if_pos hw]
  subst hH
  obtain ⟨i0, hi, hz0, hz1, hz2⟩ := info_parts fileInfo
  refine wp_append_own _ s x 31 ho base 56 i0 (.agg #[.int .i64 0, .slice none 0 0, .int .i64 0]) 3 40 Tryd.underlying31 hi hz0 hz1 hz2 rfl (by decide) _ _ _ hs (World.ownsRow.alloc hown _) ⟨wr.heap.size, 0, none⟩ 1 1 [.int .i64 g.id, .slice g.A g.n g.c, .int .i64 g.safe] hx rfl
    (World.news_of_block (cs := #[.int .i64 g.id, .slice g.A g.n g.c, .int .i64 g.safe]) (t := 56) (fr := (0, 0)) (heap_alloc_new wr _)) (by intro u hu; simp at hu; rcases hu with rfl | rfl | rfl <;> rfl) ?_ ?_ ?_ ?_
  · unfold maxLen; omega
  · omega
  · simp; omega
  · intro v' w' hown' hgrow _
    have e : (gs.map fileR).flatten ++ [.int .i64 g.id, .slice g.A g.n g.c, .int .i64 g.safe] = ((gs ++ [g]).map fileR).flatten := by simp [fileR]
    rw [e] at hown'
    obtain ⟨A', c', rfl⟩ := own_shapeK hown'
    exact h A' c' w' hown' (((Below.refl _ _).alloc hbase _).grown hgrow (by simp; omega) (own_blockK hown)) (grown_trans (World.grownBy_alloc wr _ _) hgrow)
end Go.Proofs.YtckiloacbanbmaaDoor.DOk
