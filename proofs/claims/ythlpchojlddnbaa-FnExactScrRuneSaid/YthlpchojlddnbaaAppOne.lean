/- An append of one cell to a row of the call's own: the answer lies on the old block or on a new one. -/
import Derived.Test.YthlpchojlddnbaaKiA
import Derived.Test.YthlpchojlddnbaaIntsB
import Derived.Laws.AppendOwn
namespace Go.Proofs.Ythlpchojlddnbaa.AppOne
open Go.RowKit Go.Proofs.Ythlpchojlddnbaa.Bytes Go.Proofs.Ythlpchojlddnbaa.DOk Go.Proofs.Ythlpchojlddnbaa.RowK
set_option linter.unusedVariables false
theorem append_blkG {w : World} {base n c n1 c1 : Nat} {A : Option Addr} {ad : Addr} {sl E ty : TypeId} {i0 : TypeInfo} {z : Value} {bytes : Nat} {xs : List Value} {news : List Value}
    (hu : Try.prog.underlying sl = some (.slice E)) (hi : Try.prog.info? E = some i0) (hz0 : i0.zero = some z) (hz1 : i0.size = 1) (hz2 : i0.bytes = bytes) (hzs : z.cells.size = 1) (hby : bytes ≤ 48)
    (hown : w.ownsRow base E 1 (.slice A n c) n xs) (hl : news.length = n1) (hnews : ∀ j u, news[j]? = some u → w.cell? (ad.add j) = some u) (h1 : ∀ u ∈ news, u.oneCell' = true) (hn : n ≤ 1099511627776) (hn1 : n1 ≤ 1099511627776)
    {v' : Value} {w' : World} (hr : (Builtin.append_ #[sl, sl] ty #[.slice A n c, .slice (some ad) n1 c1]).run Try.prog w = .ok v' w') :
    ∀ g, v'.ownBlock = some g → (Value.slice A n c).ownBlock = some g ∨ w.heap.size ≤ g := by
  intro g hg
  have hmul : (n + n1) * bytes ≤ 140737488355328 := Nat.le_trans (Nat.mul_le_mul (Nat.add_le_add hn hn1) hby) (by decide)
  have hl' : news.length = n1 * i0.size := by rw [hz1]; omega
  rcases hown.2 with ⟨hv, h0⟩ | ⟨g0, cap, cur, hv, hbg, hgg, hnc, hcm, hcs, htake⟩
  · injection hv with e1 e2 e3
    subst e1 e2 e3
    by_cases hm : n1 = 0
    · subst hm
      obtain ⟨v2, w2, hr2, ho2, hg2, hiff⟩ := run_append_own (P := Try.prog) w 0 sl ty E i0 z 1 bytes hu hi hz0 hz1 hz2 hzs (by decide) (.slice none 0 0) 0 [] (World.ownsRow_nil w 0 _ _) ad 0 c1 news (by omega) hnews h1 (by unfold maxLen; omega) (by omega) (Nat.zero_le _)
      rw [hr] at hr2
      injection hr2 with e1 e2
      have := (hiff.2 ⟨rfl, rfl⟩)
      rw [← e1] at this
      rw [this] at hg; cases hg
    · have hr2 := run_append_nil (P := Try.prog) w sl ty E i0 z hu hi hz0 ad n1 c1 news hl' hnews (by omega) (by omega) (by rw [hz2]; exact Nat.le_trans (by rw [Nat.zero_add] at hmul; exact hmul) (by decide))
      rw [hr] at hr2
      injection hr2 with e1 e2
      subst e1
      simp [Value.ownBlock] at hg
      exact .inr (by omega)
  · injection hv with e1 e2 e3
    subst e1 e3
    by_cases hroom : n + n1 ≤ c
    · have hr2 := run_append_room (P := Try.prog) w sl ty E i0 hu hi g0 n c cur hgg ad n1 c1 news hl' hnews h1 hroom (by rw [hz1]; omega)
      rw [hr] at hr2
      injection hr2 with e1 e2
      subst e1
      exact .inl hg
    · have holds : ∀ j u, xs[j]? = some u → w.cell? ((⟨g0, 0, none⟩ : Addr).add j) = some u := World.ownsRow.cells hown (g := g0) rfl
      have hr2 := run_append_grow (P := Try.prog) w sl ty E i0 z hu hi hz0 ⟨g0, 0, none⟩ n c xs (by rw [hz1]; have := hown.1; simpa using this) holds ad n1 c1 news hl' hnews (by omega) (by omega) (growslice_fits (by omega) (by rw [hz2]; exact hmul))
      rw [hr] at hr2
      injection hr2 with e1 e2
      subst e1
      simp [Value.ownBlock] at hg
      exact .inr (by omega)
/-- 'append(s, x)' of one cell that the walk has laid in a block of its own -/
theorem append_one {wr : World} {ops : Array Oper} {rest : List Oper} {o : Oper} {a : Act} {Q : Exit → Act → World → Prop} {sl E : TypeId} {i0 : TypeInfo} {z0 : Value} {bytes : Nat}
    (hu : Try.prog.underlying sl = some (.slice E)) (hi : Try.prog.info? E = some i0) (hz0 : i0.zero = some z0) (hz1 : i0.size = 1) (hz2 : i0.bytes = bytes) (hzs : z0.cells.size = 1) (hby : bytes ≤ 48)
    (hgd : o.guard = none) (s x : Operand) (ho : o.op = .call { callee := .builtin .append, args := #[s, x], argTypes := #[sl, sl] })
    {base n c : Nat} {A : Option Addr} {xs : List Value} {z : Value} (hs : a.eval s = .slice A n c) (H : Nat) (hH : wr.heap.size = H) (hx : a.eval x = .slice (some ⟨H, 0, none⟩) 1 1)
    (hown : wr.ownsRow base E 1 (.slice A n c) n xs) (hzc : z.oneCell' = true) (hn : n ≤ 549755813888) (hbase : base ≤ wr.heap.size)
    (h : ∀ A' c' w', w'.ownsRow base E 1 (.slice A' (n + 1) c') (n + 1) (xs ++ [z]) → wr.grownBy w' (Value.slice A n c).ownBlock → (∀ g, (Value.slice A' (n + 1) c').ownBlock = some g → (Value.slice A n c).ownBlock = some g ∨ wr.heap.size ≤ g) → wpList Try.prog ops Q rest (a.put o.dst (.slice A' (n + 1) c')) w') :
    wpList Try.prog ops Q (o :: rest) a (wr.alloc (.cells #[z] E)) := by
  subst hH
  have hmul : (n + 1) * bytes ≤ 140737488355328 := Nat.le_trans (Nat.mul_le_mul (Nat.add_le_add hn (Nat.le_refl 1)) hby) (by decide)
  have hnews : ∀ j u, [z][j]? = some u → (wr.alloc (.cells #[z] E)).cell? ((⟨wr.heap.size, 0, none⟩ : Addr).add j) = some u := by
    intro j u hj
    match j, hj with
    | 0, hj => simp at hj; subst hj; simp [Addr.add]
  have h1 : ∀ u ∈ [z], u.oneCell' = true := by intro u hu; simp at hu; subst hu; exact hzc
  have ho2 := World.ownsRow.alloc hown (.cells #[z] E)
  obtain ⟨v', w', hr, h2, h3, h4⟩ := run_append_own (P := Try.prog) (wr.alloc (.cells #[z] E)) base sl o.type E i0 z0 1 bytes hu hi hz0 hz1 hz2 hzs (by decide) _ n _ ho2 ⟨wr.heap.size, 0, none⟩ 1 1 [z] rfl hnews h1 (by unfold maxLen; omega) hmul (by simp; omega)
  have hk := append_blkG (ty := o.type) hu hi hz0 hz1 hz2 hzs hby ho2 (n1 := 1) rfl hnews h1 (by omega) (by omega) hr
  refine wpList_plain hgd fun K hK => ?_
  unfold Oper.wp
  simp [execOp, ho, resolve, invoke, builtin, hs, hx, hr, Result.andThen]
  obtain ⟨A', c', rfl⟩ := own_shapeK h2
  exact hK _ _ (h A' c' w' h2 (grown_trans (World.grownBy_alloc wr _ _) h3) (fun g hg => (hk g hg).elim .inl fun h => .inr (by simp at h; omega)))
end Go.Proofs.Ythlpchojlddnbaa.AppOne

