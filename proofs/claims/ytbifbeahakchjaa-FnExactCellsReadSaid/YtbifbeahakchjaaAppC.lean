/- An append of one cell to a slice of cells of the call's own, with the block that the answer lies on. -/
import Derived.Test.YtbifbeahakchjaaAppB
import Derived.Test.YtbifbeahakchjaaGrCopy
namespace Go.Proofs.Ytbifbeahakchjaa.Cb
open Go.RowKit Go.Proofs.Ytbifbeahakchjaa.Bytes Go.Proofs.Ytbifbeahakchjaa.Rows_ Go.Proofs.Ytbifbeahakchjaa.DOk Go.Proofs.Ytbifbeahakchjaa.RowK Go.Proofs.Ytbifbeahakchjaa.Gr
set_option linter.unusedVariables false
theorem append_blkK {K : Nat} {w : World} {base n c n1 c1 : Nat} {A : Option Addr} {ad : Addr} {sl E ty : TypeId} {i0 : TypeInfo} {z : Value} {bytes : Nat} {xs : List Value} {news : List Value}
    (hu : Try.prog.underlying sl = some (.slice E)) (hi : Try.prog.info? E = some i0) (hz0 : i0.zero = some z) (hz1 : i0.size = K) (hz2 : i0.bytes = bytes) (hzs : z.cells.size = K) (hK : 0 < K) (hby : bytes ≤ 48)
    (hown : w.ownsRow base E K (.slice A n c) n xs) (hl : news.length = n1 * K) (hnews : ∀ j u, news[j]? = some u → w.cell? (ad.add j) = some u) (h1 : ∀ u ∈ news, u.oneCell' = true) (hn : n ≤ 1000000000) (hn1 : n1 ≤ 1000000000)
    {v' : Value} {w' : World} (hr : (Builtin.append_ #[sl, sl] ty #[.slice A n c, .slice (some ad) n1 c1]).run Try.prog w = .ok v' w') :
    ∀ g, v'.ownBlock = some g → (Value.slice A n c).ownBlock = some g ∨ w.heap.size ≤ g := by
  intro g hg
  have hmul : (n + n1) * bytes ≤ 140737488355328 := Nat.le_trans (Nat.mul_le_mul (Nat.add_le_add hn hn1) hby) (by decide)
  have hl' : news.length = n1 * i0.size := by rw [hz1]; omega
  rcases hown.2 with ⟨hv, h0⟩ | ⟨g0, cap, cur, hv, hbg, hgg, hnc, hcm, hcs, htake⟩
  · injection hv with e1 e2 e3
    subst e1 e2 e3
    by_cases hm : n1 = 0
    · subst hm
      obtain ⟨v2, w2, hr2, ho2, hg2, hiff⟩ := run_append_own (P := Try.prog) w 0 sl ty E i0 z K bytes hu hi hz0 hz1 hz2 hzs hK (.slice none 0 0) 0 [] (World.ownsRow_nil w 0 _ _) ad 0 c1 news (by omega) hnews h1 (by unfold maxLen; omega) (by omega) (Nat.zero_le _)
      rw [hr] at hr2
      injection hr2 with e1 e2
      have := (hiff.2 ⟨rfl, rfl⟩)
      rw [← e1] at this
      rw [this] at hg; cases hg
    · have hr2 := run_append_nil (P := Try.prog) w sl ty E i0 z hu hi hz0 ad n1 c1 news hl' hnews (by omega) (by omega) (by rw [hz2]; exact Nat.le_trans (by rw [Nat.zero_add] at hmul; exact hmul) (by decide))
      rw [hr] at hr2
      injection hr2 with e1 e2
      subst e1
      simp [Value.ownBlock] at hg
      exact .inr (by omega)
  · injection hv with e1 e2 e3
    subst e1 e3
    by_cases hroom : n + n1 ≤ c
    · have hfit : n * i0.size + news.length ≤ cur.size := by rw [hl', ← Nat.add_mul, hz1, hcs]; exact Nat.mul_le_mul_right _ hroom
      have hr2 := run_append_room (P := Try.prog) w sl ty E i0 hu hi g0 n c cur hgg ad n1 c1 news hl' hnews h1 hroom hfit
      rw [hr] at hr2
      injection hr2 with e1 e2
      subst e1
      exact .inl hg
    · have holds : ∀ j u, xs[j]? = some u → w.cell? ((⟨g0, 0, none⟩ : Addr).add j) = some u := World.ownsRow.cells hown (g := g0) rfl
      have hr2 := run_append_grow (P := Try.prog) w sl ty E i0 z hu hi hz0 ⟨g0, 0, none⟩ n c xs (by rw [hz1]; have := hown.1; simpa using this) holds ad n1 c1 news hl' hnews (by omega) (by omega) (growslice_fits (by omega) (by rw [hz2]; exact hmul))
      rw [hr] at hr2
      injection hr2 with e1 e2
      subst e1
      simp [Value.ownBlock] at hg
      exact .inr (by omega)
/-- 'append(s, x)' of one cell that the walk has laid in a block of its own -/
theorem append_cellG {wr : World} {ops : Array Oper} {rest : List Oper} {o : Oper} {a : Act} {Q : Exit → Act → World → Prop}
    (hgd : o.guard = none) (s x : Operand) (ho : o.op = .call { callee := .builtin .append, args := #[s, x], argTypes := #[27, 27] })
    {base n c : Nat} {A : Option Addr} {cs : List CellD} {r fg bg : Int} {b u t : Bool} (hs : a.eval s = .slice A n c) (H : Nat) (hH : wr.heap.size = H) (hx : a.eval x = .slice (some ⟨H, 0, none⟩) 1 1)
    (hown : OwnC wr base A n c cs) (hn : n ≤ 100000000) (hbase : base ≤ wr.heap.size)
    (h : ∀ A' c' w', OwnC w' base A' (n + 1) c' (cs ++ [⟨r, fg, bg, b, u, t⟩]) → Grow wr (.slice A n c) w' (.slice A' (n + 1) c') → wpList Try.prog ops Q rest (a.put o.dst (.slice A' (n + 1) c')) w') :
    wpList Try.prog ops Q (o :: rest) a (wr.alloc (.cells #[.int .i64 r, .int .i64 fg, .int .i64 bg, .bool b, .bool u, .bool t] 69)) := by
  subst hH
  obtain ⟨i0, hi, hz0, hz1, hz2⟩ := info_parts cellInfo
  have hmul : (n + 1) * 32 ≤ 140737488355328 := by omega
  have hRB := Opq.RowB.new wr #[.int .i64 r, .int .i64 fg, .int .i64 bg, .bool b, .bool u, .bool t] 69
  have hnews : ∀ j v, (cellR ⟨r, fg, bg, b, u, t⟩)[j]? = some v → (wr.alloc (.cells #[.int .i64 r, .int .i64 fg, .int .i64 bg, .bool b, .bool u, .bool t] 69)).cell? ((⟨wr.heap.size, 0, none⟩ : Addr).add j) = some v := by
    intro j v hj
    rw [Addr.add_lit, Nat.zero_add, hRB.cell j]
    show (cellR ⟨r, fg, bg, b, u, t⟩).toArray[j]? = some v
    rw [List.getElem?_toArray]; exact hj
  have h1 : ∀ v ∈ cellR ⟨r, fg, bg, b, u, t⟩, v.oneCell' = true := one_cell [⟨r, fg, bg, b, u, t⟩] _ List.mem_cons_self
  have ho2 := World.ownsRow.alloc hown (.cells #[.int .i64 r, .int .i64 fg, .int .i64 bg, .bool b, .bool u, .bool t] 69)
  obtain ⟨v', w', hr, h2, h3, h4⟩ := run_append_own (P := Try.prog) (wr.alloc (.cells #[.int .i64 r, .int .i64 fg, .int .i64 bg, .bool b, .bool u, .bool t] 69)) base 27 o.type 69 i0 _ 6 32 Try.underlying27 hi hz0 hz1 hz2 rfl (by decide) _ n _ ho2 ⟨wr.heap.size, 0, none⟩ 1 1 (cellR ⟨r, fg, bg, b, u, t⟩) rfl hnews h1 (by unfold maxLen; omega) hmul (by simp; omega)
  have hk := append_blkK (ty := o.type) Try.underlying27 hi hz0 hz1 hz2 rfl (by decide) (by decide) ho2 (n1 := 1) rfl hnews h1 (by omega) (by omega) hr
  refine wpList_plain hgd fun K hK => ?_
  unfold Oper.wp
  simp [execOp, ho, resolve, invoke, builtin, hs, hx, hr, Result.andThen]
  obtain ⟨A', c', rfl⟩ := own_shapeK h2
  refine hK _ _ (h A' c' w' ?_ ⟨Only.grown (grown_trans (World.grownBy_alloc wr _ _) h3) (fun i e => e), fun g hg => (hk g hg).elim .inl fun h => .inr (by simp at h; omega)⟩)
  have e : (cs.map cellR).flatten ++ cellR ⟨r, fg, bg, b, u, t⟩ = ((cs ++ [(⟨r, fg, bg, b, u, t⟩ : CellD)]).map cellR).flatten := by simp
  rw [e] at h2; exact h2
end Go.Proofs.Ytbifbeahakchjaa.Cb
