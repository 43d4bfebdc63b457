/- Texts that lay in modules of their own: GrNewB, GrCopy. -/
import Derived.Test.YtgnpgkkjcloghaaGreatGrSE
import Derived.Deep.RegionLaw
import Derived.Deep.AppendLies
import Derived.WalkSpells
set_option maxRecDepth 100000
set_option maxHeartbeats 1600000
set_option linter.unusedVariables false
namespace Go.Proofs.YtgnpgkkjcloghaaGreat.Gr
open Lib
open Go.RowKit Bytes Rows_ RowK
attribute [local go_sem ↓] Go.wp_at_zero Go.wp_at_succ
def BoxG (w : World) (b : Nat) (cs : Array Value) : Prop := w.heap[b]? = some (.cells cs 34 (0, 0))
theorem BoxG.lt {w : World} {b : Nat} {cs : Array Value} (h : BoxG w b cs) : b < w.heap.size := (Array.getElem?_eq_some_iff.1 h).1
theorem BoxG.cell {w : World} {b : Nat} {cs : Array Value} (h : BoxG w b cs) (j : Nat) : w.cell? ⟨b, j, none⟩ = cs[j]? := by unfold BoxG at h; simp [World.cell?, h]
theorem BoxG.free {w : World} {b : Nat} {cs : Array Value} (h : BoxG w b cs) (j : Nat) : w.frozen? ⟨b, j, none⟩ = false := by unfold BoxG at h; simp [World.frozen?, h]
theorem BoxG.below {w w' : World} {b B : Nat} {cs : Array Value} (h : BoxG w b cs) (hb : Below B w w') (hB : b < B) : BoxG w' b cs := by unfold BoxG at h ⊢; rw [hb.block b hB]; exact h
theorem BoxG.only {S : Nat → Prop} {w w' : World} {b : Nat} {cs : Array Value} (h : BoxG w b cs) (on : Only S w w') (hn : ¬ S b) : BoxG w' b cs := by
  have hl := h.lt
  unfold BoxG at h ⊢; rw [on.block b hl hn]; exact h
theorem BoxG.other {w : World} {b b' j : Nat} {cs : Array Value} {v : Value} (h : BoxG w b cs) (hne : b ≠ b') : BoxG (w.setCell ⟨b', j, none⟩ v) b cs := by
  unfold BoxG at h ⊢; rw [Below.heap_setCell _ _ _ _ hne]; exact h
theorem BoxG.set2 {w : World} {b : Nat} {x0 x1 x2 : Value} (h : BoxG w b #[x0, x1, x2]) (v : Value) : BoxG (w.setCell ⟨b, 2, none⟩ v) b #[x0, x1, v] := by
  unfold BoxG at h ⊢; simp [World.setCell, Array.getElem?_modify, h]
theorem BoxG.drew {w : World} {b : Nat} {cs : Array Value} (h : BoxG w b cs) : BoxG w.drew b cs := h
theorem BoxG.new (w : World) (cs : Array Value) : BoxG (w.alloc (.cells cs 34)) w.heap.size cs := heap_alloc_new w _
theorem OwnC.ne_ {w : World} {base : Nat} {A : Option Addr} {n c : Nat} {cs : List CellD} (h : OwnC w base A n c cs) {b : Nat} (hb : b < base) : ¬ (Value.slice A n c).ownBlock = some b := fun e => by have := (h.blk b e).1; omega
theorem OwnC.setBox {w : World} {base : Nat} {A : Option Addr} {n c : Nat} {cs : List CellD} (h : OwnC w base A n c cs) (b j : Nat) (v : Value) (hb : b < base) : OwnC (w.setCell ⟨b, j, none⟩ v) base A n c cs := own_setK h b j v hb
theorem ownC_nil (w : World) (base : Nat) : OwnC w base none 0 0 [] := ⟨rfl, .inl ⟨rfl, rfl⟩⟩
theorem blank_any (w : World) : Calls Tryz.prog 45 #[] w fun e w' => e = .returned (.agg #[.int .i64 32, .int .i64 0, .int .i64 0, .bool false, .bool false, .bool false]) ∧ Below w.heap.size w w' := by
  go_enter Tryz.func45, Tryz.ntmps45
  go_wp2_with fail
  refine bodyPost_ret (v := .agg #[.int .i64 32, .int .i64 0, .int .i64 0, .bool false, .bool false, .bool false]) (by simp [results, Tryz.results45, go_sem]) rfl ⟨rfl, ?_⟩
  repeat (first | refine Below.setCell ?_ (by simp <;> omega) _ | refine Below.alloc ?_ (by simp <;> omega) _)
  exact Below.refl _ _
theorem step_cell {V : World} {ops : Array Oper} {o : Oper} {a : Act} {K : Act → World → Prop} {Q : Exit → Act → World → Prop} {E : Prop} (hgd : o.guard = none) (s x : Operand)
    (ho : o.op = .call { callee := .builtin .append, args := #[s, x], argTypes := #[32, 32] })
    {base n c : Nat} {A : Option Addr} {cs : List CellD} {z : CellD} (hs : a.eval s = .slice A n c) (H : Nat) (hH : V.heap.size = H) (hx : a.eval x = .slice (some ⟨H, 0, none⟩) 1 1)
    (hown : OwnC V base A n c cs) (hn : n ≤ 1000000000) (hbase : base ≤ V.heap.size)
    (h : ∀ A' c' w', OwnC w' base A' (n + 1) c' (cs ++ [z]) → Below base V w' → V.grownBy w' (Value.slice A n c).ownBlock → K (a.put o.dst (.slice A' (n + 1) c')) w') :
    if Region.wanted o (yielded ops a.tmps) = true then Oper.wp Tryz.prog o a (V.alloc (.cells #[.int .i64 z.r, .int .i64 z.fg, .int .i64 z.bg, .bool z.b, .bool z.u, .bool z.t] 81)) K Q else E := by
  have hw : Region.wanted o (yielded ops a.tmps) = true := by simp [Region.wanted, hgd]
  rw [if_pos hw]
  subst hH
  obtain ⟨i0, hi, hz0, hz1, hz2⟩ := info_parts cellInfo
  refine wp_append_own _ s x 32 ho base 81 i0 (.agg #[.int .i64 0, .int .i64 0, .int .i64 0, .bool false, .bool false, .bool false]) 6 32 Tryz.underlying32 hi hz0 hz1 hz2 rfl (by decide) _ _ _ hs (World.ownsRow.alloc hown _) ⟨V.heap.size, 0, none⟩ 1 1 [.int .i64 z.r, .int .i64 z.fg, .int .i64 z.bg, .bool z.b, .bool z.u, .bool z.t] hx rfl
    (World.news_of_block (cs := #[.int .i64 z.r, .int .i64 z.fg, .int .i64 z.bg, .bool z.b, .bool z.u, .bool z.t]) (t := 81) (fr := (0, 0)) (heap_alloc_new V _)) (by intro u hu; simp at hu; rcases hu with rfl | rfl | rfl | rfl | rfl | rfl <;> rfl) ?_ ?_ ?_ ?_
  · unfold maxLen; omega
  · omega
  · simp; omega
  · intro v' w' hown' hgrow _
    have e : (cs.map cellR).flatten ++ [.int .i64 z.r, .int .i64 z.fg, .int .i64 z.bg, .bool z.b, .bool z.u, .bool z.t] = ((cs ++ [z]).map cellR).flatten := by simp [cellR]
    rw [e] at hown'
    obtain ⟨A', c', rfl⟩ := own_shapeK hown'
    exact h A' c' w' hown' (((Below.refl _ _).alloc hbase _).grown hgrow (by simp; omega) (fun g hg => (World.ownsRow.lt hown g hg).1)) (grown_trans (World.grownBy_alloc V _ _) hgrow)
theorem new_next {y1 w1 : World} {b6 b4 base k c : Nat} {A : Option Addr} {cs : List CellD} {l6 l4 : Array Value} (h6 : BoxG y1 b6 l6) (h4 : BoxG y1 b4 l4) (ho : OwnC y1 base A k c cs) (l1 : b6 < base) (l2 : b4 < base) (hg : y1.grownBy w1 (Value.slice A k c).ownBlock) : BoxG w1 b6 l6 ∧ BoxG w1 b4 l4 :=
  ⟨h6.only (Only.grown (S := fun i => (Value.slice A k c).ownBlock = some i) hg (fun i h => h)) (ho.ne_ l1), h4.only (Only.grown (S := fun i => (Value.slice A k c).ownBlock = some i) hg (fun i h => h)) (ho.ne_ l2)⟩
def AnsN (B : Nat) (w : World) (gw gh : Int) (e : Ending) (w' : World) : Prop :=
  if sizeB gw gh then ∃ A c, e = .returned (.tuple #[.agg #[.int .i64 gw, .int .i64 gh, .slice A (gw * gh).toNat c], .bool true]) ∧ OwnC w' w.heap.size A (gw * gh).toNat c (List.replicate (gw * gh).toNat blankC) ∧ Below B w w'
  else e = .returned (.tuple #[.agg #[.int .i64 0, .int .i64 0, .slice none 0 0], .bool false]) ∧ Below B w w'
theorem sidesS {gw gh : Int} (h : sizeB gw gh = true) : ∃ W H : Nat, gw = (W : Int) ∧ gh = (H : Int) ∧ 1 ≤ W ∧ W ≤ 120 ∧ 1 ≤ H ∧ H ≤ 120 ∧ W * H ≤ 4000 ∧ (gw * gh).toNat = W * H := by
  obtain ⟨h1, h2, h3, h4, h5⟩ := of_sizeB h
  obtain ⟨W, rfl⟩ := Int.eq_ofNat_of_zero_le (show 0 ≤ gw by omega)
  obtain ⟨H, rfl⟩ := Int.eq_ofNat_of_zero_le (show 0 ≤ gh by omega)
  refine ⟨W, H, rfl, rfl, by omega, by omega, by omega, by omega, ?_, by rw [← Int.natCast_mul]; rfl⟩
  rw [← Int.natCast_mul] at h5; omega
end Go.Proofs.YtgnpgkkjcloghaaGreat.Gr
namespace Go.Proofs.YtgnpgkkjcloghaaGreat.Gr
open Lib
open Go.RowKit Bytes Rows_ RowK
theorem flat_get (K : Nat) (hK : 0 < K) : ∀ (rows : List (List Value)), (∀ r ∈ rows, r.length = K) → ∀ (j : Nat) (u : Value), rows.flatten[j]? = some u → ∃ row, rows[j / K]? = some row ∧ row[j % K]? = some u
  | [], _, j, u, h => by simp at h
  | r :: rs, hr, j, u, h => by
    have hl : r.length = K := hr r (by simp)
    rw [List.flatten_cons] at h
    by_cases hj : j < K
    · rw [List.getElem?_append_left (by omega)] at h
      exact ⟨r, by rw [Nat.div_eq_of_lt hj]; rfl, by rw [Nat.mod_eq_of_lt hj]; exact h⟩
    · rw [List.getElem?_append_right (by omega), hl] at h
      obtain ⟨row, h1, h2⟩ := flat_get K hK rs (fun x hx => hr x (by simp [hx])) (j - K) u h
      have e1 : j / K = (j - K) / K + 1 := by
        have := Nat.add_div_right (j - K) hK
        rw [Nat.sub_add_cancel (by omega)] at this; exact this
      have e2 : (j - K) % K = j % K := by
        have := Nat.add_mod_right (j - K) K
        rw [Nat.sub_add_cancel (by omega)] at this; exact this.symm
      exact ⟨row, by rw [e1, List.getElem?_cons_succ]; exact h1, by rw [← e2]; exact h2⟩
theorem rdK_cells {K : Nat} (hK : 0 < K) {w : World} {B : Nat} {ad : Addr} {rows : List (List Value)} (hr : ∀ r ∈ rows, r.length = K) (h : RdK K w B (some ad) rows) : ∀ j u, rows.flatten[j]? = some u → w.cell? (ad.add j) = some u := by
  intro j u hu
  obtain ⟨row, h1, h2⟩ := flat_get K hK rows hr j u hu
  obtain ⟨b, o, e, _, hc⟩ := h (Nat.lt_of_le_of_lt (Nat.zero_le _) (List.getElem?_eq_some_iff.1 h1).1)
  injection e with e
  subst e
  rw [Addr.add_lit]
  have := hc (j / K) row h1 (j % K) u h2
  rw [Nat.add_assoc, Nat.div_add_mod'] at this
  exact this
theorem append_rows {T E : TypeId} {K bytes : Nat} {zero : Value} (hT : Tryz.prog.underlying T = some (.slice E)) (hinf : (Tryz.prog.info? E).map (fun i => (i.zero, i.size, i.bytes)) = some (some zero, K, bytes)) (hzs : zero.cells.size = K) (hK : 0 < K) (hby : bytes ≤ 48)
    {wr : World} {ops : Array Oper} {rest : List Oper} {o : Oper} {a : Act} {Q : Exit → Act → World → Prop} (hgd : o.guard = none) (s x : Operand) (ho : o.op = .call { callee := .builtin .append, args := #[s, x], argTypes := #[T, T] })
    {base B n c n1 c1 : Nat} {A A1 : Option Addr} {xs : List Value} {rows : List (List Value)} (hs : a.eval s = .slice A n c) (hx : a.eval x = .slice A1 n1 c1)
    (hown : wr.ownsRow base E K (.slice A n c) n xs) (hsrc : RdK K wr B A1 rows) (hrows : ∀ r ∈ rows, r.length = K) (hone : ∀ r ∈ rows, ∀ u ∈ r, u.oneCell' = true) (hA : A1 = none → n1 = 0 ∧ c1 = 0) (hl : rows.length = n1) (hn : n ≤ 1000000000) (hn1 : n1 ≤ 1000000000) (hbase : base ≤ wr.heap.size)
    (h : ∀ A' c' w', w'.ownsRow base E K (.slice A' (n + n1) c') (n + n1) (xs ++ rows.flatten) → Below base wr w' → wr.grownBy w' (Value.slice A n c).ownBlock → wpList Tryz.prog ops Q rest (a.put o.dst (.slice A' (n + n1) c')) w') :
    wpList Tryz.prog ops Q (o :: rest) a wr := by
  obtain ⟨i0, hi, hz0, hz1, hz2⟩ := info_parts hinf
  rcases A1 with _ | ad
  · obtain ⟨rfl, rfl⟩ := hA rfl
    obtain rfl : rows = [] := List.eq_nil_of_length_eq_zero hl
    refine wpList_append_own_none hgd s x T ho base E i0 K hT hi _ _ _ hs hown hx ?_
    have := h A c wr (by simpa using hown) (Below.refl _ _) (World.grownBy.refl _ _)
    simpa using this
  · refine wpList_append_own _ hgd s x T ho base E i0 zero K bytes hT hi hz0 hz1 hz2 hzs hK _ _ _ hs hown ad n1 c1 rows.flatten hx (by rw [flat_len K rows hrows, hl]) (rdK_cells hK hrows hsrc) ?_ ?_ ?_ hbase ?_
    · intro u hu
      obtain ⟨r, hr, hu⟩ := List.mem_flatten.1 hu
      exact hone r hr u hu
    · unfold maxLen; omega
    · have : (n + n1) * bytes ≤ 2000000000 * 48 := Nat.mul_le_mul (by omega) hby
      omega
    · intro v' w' hown' hgrow _
      obtain ⟨A', c', rfl⟩ := own_shapeK hown'
      exact h A' c' w' hown' ((Below.refl _ _).grown hgrow hbase (fun g hg => (World.ownsRow.lt hown g hg).1)) hgrow
theorem own_empty (w : World) (E k : Nat) : (w.alloc (.cells #[] E)).ownsRow w.heap.size E k (.slice (some ⟨w.heap.size, 0, none⟩) 0 0) 0 [] :=
  ⟨by simp, .inr ⟨w.heap.size, 0, #[], rfl, Nat.le_refl _, heap_alloc_new w _, Nat.le_refl _, by unfold maxLen; omega, by simp, by simp⟩⟩
theorem one_cell (cs : List CellD) : ∀ r ∈ cs.map cellR, ∀ u ∈ r, u.oneCell' = true := by
  intro r hr u hu; simp at hr; obtain ⟨a, _, rfl⟩ := hr; simp [cellR] at hu; rcases hu with rfl | rfl | rfl | rfl | rfl | rfl <;> rfl
theorem cloneC_any (A : Option Addr) (n c : Nat) (cs : List CellD) (w : World) (hA : A = none → n = 0 ∧ c = 0) (hr : RdC w w.heap.size A cs) (hl : cs.length = n) (hn : n ≤ 2097152) :
    Calls Tryz.prog 108 #[.slice A n c] w fun e w' => ∃ A' c', e = .returned (.slice A' n c') ∧ OwnC w' w.heap.size A' n c' cs ∧ Below w.heap.size w w' := by
  have HL := hid hl
  have HA := hid hA
  clear hl hA
  have hown0 := own_empty w 81 6
  have hb0 : Below w.heap.size w (w.alloc (.cells #[] 81)) := (Below.refl w.heap.size w).alloc (Nat.le_refl _) (.cells #[] 81)
  have hr0 : RdK 6 (w.alloc (.cells #[] 81)) w.heap.size A (cs.map cellR) := hr.below (Nat.le_refl _) hb0
  rcases A with _ | ad
  · obtain ⟨rfl, rfl⟩ := HA.out rfl
    obtain rfl : cs = [] := List.eq_nil_of_length_eq_zero HL.out
    have hnil := fun W : World => Lib.run_eql_slice_nil (P := Tryz.prog) W 32 81 none 0 0 0 0 Tryz.underlying32
    go_enter Tryz.func108, Tryz.ntmps108
    go_wp2_with fail
    go_ret
    exact ⟨none, 0, rfl, World.ownsRow_nil w _ _ _, Below.refl _ _⟩
  · have hnil := fun W : World => Lib.run_eql_slice_nil (P := Tryz.prog) W 32 81 (some ad) n c 0 0 Tryz.underlying32
    go_enter Tryz.func108, Tryz.ntmps108
    go_wp2_with (at_builtin; refine append_rows Tryz.underlying32 cellInfo rfl (by decide) (by decide) rfl _ _ rfl rfl rfl hown0 hr0 (cell_len _) (one_cell _) HA.out (by rw [List.length_map]; exact HL.out) (by omega) (by omega) (by simp) ?_)
    intro A1 c1 w1 ho1 hb1 _
    have HO1 := hid (show OwnC w1 w.heap.size A1 n c1 cs by unfold OwnC; simpa using ho1)
    have HB2 := hid (hb0.trans hb1)
    clear hown0 hb0 hr0 hb1 hr ho1
    go_wp2_with fail
    go_ret
    exact ⟨_, _, rfl, HO1.out, HB2.out⟩
def AnsG3 (w : World) (gw gh : Int) (n : Nat) (cs : List CellD) (e : Ending) (w' : World) : Prop :=
  ∃ A c, e = .returned (.agg #[.int .i64 gw, .int .i64 gh, .slice A n c]) ∧ OwnC w' w.heap.size A n c cs ∧ Below w.heap.size w w'
theorem copyGrid_any (gw gh : Int) (A : Option Addr) (n c : Nat) (cs : List CellD) (w : World) (hA : A = none → n = 0 ∧ c = 0) (hr : RdC w w.heap.size A cs) (hl : cs.length = n) (hn : n ≤ 2097152) :
    Calls Tryz.prog 89 #[.agg #[.int .i64 gw, .int .i64 gh, .slice A n c]] w (AnsG3 w gw gh n cs) := by
  have hb0 := hid (((Below.refl w.heap.size w).alloc (Nat.le_refl _) (.cells #[.int .i64 gw, .int .i64 gh, .slice A n c] 34)).alloc (by simp) (.cells #[.int .i64 0, .int .i64 0, .slice none 0 0] 34))
  have HR := hid hr
  have HL := hid hl
  have HA := hid hA
  have X0 := hid ((BoxG.new w #[.int .i64 gw, .int .i64 gh, .slice A n c]).below ((Below.refl _ _).alloc (Nat.le_refl _) (.cells #[.int .i64 0, .int .i64 0, .slice none 0 0] 34)) (by simp))
  have X1 := hid (BoxG.new (w.alloc (.cells #[.int .i64 gw, .int .i64 gh, .slice A n c] 34)) #[.int .i64 0, .int .i64 0, .slice none 0 0])
  clear hr hl hA
  go_enter Tryz.func89, Tryz.ntmps89
  go_wp2_with fail
  refine (cloneC_any A n c cs _ HA.out ((HR.out.below (Nat.le_refl _) hb0.out).more (by simp; omega)) HL.out hn).mono ?_
  rintro e v1 ⟨A1, c1, rfl, ho1, hb1⟩
  have x0 := X0.out.below hb1 (by simp; omega)
  have x1 := X1.out.below hb1 (by simp)
  have HO := hid (ho1.more (base' := w.heap.size + 2) (by simp))
  have HB1 := hid (hb0.out.trans (hb1.mono (by simp; omega)))
  clear ho1 hb1
  have q0 := x0.cell 0
  have q1 := x0.cell 1
  have q2 := x0.cell 2
  have f2 := x0.free 2
  have p0 : v1.cell? ⟨w.heap.size + 1, 0, none⟩ = some (.int .i64 0) := by have := x1.cell 0; simpa using this
  have p1 : v1.cell? ⟨w.heap.size + 1, 1, none⟩ = some (.int .i64 0) := by have := x1.cell 1; simpa using this
  have p2 : v1.cell? ⟨w.heap.size + 1, 2, none⟩ = some (.slice none 0 0) := by have := x1.cell 2; simpa using this
  have g0 : v1.frozen? ⟨w.heap.size + 1, 0, none⟩ = false := by have := x1.free 0; simpa using this
  have g1 : v1.frozen? ⟨w.heap.size + 1, 1, none⟩ = false := by have := x1.free 1; simpa using this
  have g2 : v1.frozen? ⟨w.heap.size + 1, 2, none⟩ = false := by have := x1.free 2; simpa using this
  clear x0 x1
  go_wp2_with fail
  refine bodyPost_ret (v := .agg #[.int .i64 gw, .int .i64 gh, .slice A1 n c1]) (by simp [results, Tryz.results89, go_sem, p0, p1, p2]) rfl ⟨A1, c1, rfl, ?_, ?_⟩
  · exact (((HO.out.setBox w.heap.size 2 _ (by omega)).setBox (w.heap.size + 1) 0 _ (by omega)).setBox (w.heap.size + 1) 1 _ (by omega)).setBox (w.heap.size + 1) 2 _ (by omega) |>.more (by omega)
  · exact (((HB1.out.setCell (by simp) _).setCell (by simp) _).setCell (by simp) _).setCell (by simp) _
theorem l07Copy_any (gw gh : Int) (A : Option Addr) (n c : Nat) (cs : List CellD) (w : World) (hA : A = none → n = 0 ∧ c = 0) (hr : RdC w w.heap.size A cs) (hl : cs.length = n) (hn : n ≤ 2097152) :
    Calls Tryz.prog 38 #[.agg #[.int .i64 gw, .int .i64 gh, .slice A n c]] w (AnsG3 w gw gh n cs) := by
  have hb0 := (((Below.refl w.heap.size w).alloc (Nat.le_refl _) (.cells #[.int .i64 gw, .int .i64 gh, .slice A n c] 34)).alloc (by simp) (.cells #[.int .i64 0, .int .i64 0, .slice none 0 0] 34)).alloc (by simp; omega) (.cells #[] 81)
  have hown0 := own_empty ((w.alloc (.cells #[.int .i64 gw, .int .i64 gh, .slice A n c] 34)).alloc (.cells #[.int .i64 0, .int .i64 0, .slice none 0 0] 34)) 81 6
  simp only [World.size_alloc] at hown0
  have hr0 : RdK 6 (((w.alloc (.cells #[.int .i64 gw, .int .i64 gh, .slice A n c] 34)).alloc (.cells #[.int .i64 0, .int .i64 0, .slice none 0 0] 34)).alloc (.cells #[] 81)) w.heap.size A (cs.map cellR) := hr.below (Nat.le_refl _) hb0
  have x0 := ((BoxG.new w #[.int .i64 gw, .int .i64 gh, .slice A n c]).below ((Below.refl _ _).alloc (Nat.le_refl _) (.cells #[.int .i64 0, .int .i64 0, .slice none 0 0] 34)) (by simp)).below ((Below.refl _ _).alloc (Nat.le_refl _) (.cells #[] 81)) (by simp; omega)
  have x1 := (BoxG.new (w.alloc (.cells #[.int .i64 gw, .int .i64 gh, .slice A n c] 34)) #[.int .i64 0, .int .i64 0, .slice none 0 0]).below ((Below.refl _ _).alloc (Nat.le_refl _) (.cells #[] 81)) (by simp)
  simp only [World.size_alloc] at x1
  have HL := hid hl
  have HA := hid hA
  have X0 := hid x0
  have X1 := hid x1
  have HB0 := hid hb0
  clear hr hl hA x0 x1 hb0
  go_enter Tryz.func38, Tryz.ntmps38
  go_wp2_with (at_builtin; refine append_rows Tryz.underlying32 cellInfo rfl (by decide) (by decide) rfl _ _ rfl rfl rfl hown0 hr0 (cell_len _) (one_cell _) HA.out (by rw [List.length_map]; exact HL.out) (by omega) (by omega) (by simp) ?_)
  intro A1 c1 v1 ho1 hb1 hg1
  have hb1' : Below (w.heap.size + 2) _ v1 := hb1.mono (by omega)
  have x0 := X0.out.below hb1' (by omega)
  have x1 := X1.out.below hb1' (by omega)
  have HO := hid (show OwnC v1 (w.heap.size + 2) A1 n c1 cs by unfold OwnC; simpa using ho1)
  have HB1 := hid (HB0.out.trans (hb1.mono (by omega)))
  clear ho1 hb1 hb1' hg1 hown0 hr0
  have q0 := x0.cell 0
  have q1 := x0.cell 1
  have q2 := x0.cell 2
  have f2 := x0.free 2
  have p0 := x1.cell 0
  have p1 := x1.cell 1
  have p2 := x1.cell 2
  have g0 := x1.free 0
  have g1 := x1.free 1
  have g2 := x1.free 2
  clear x0 x1
  go_wp2_with fail
  refine bodyPost_ret (v := .agg #[.int .i64 gw, .int .i64 gh, .slice A1 n c1]) (by simp [results, Tryz.results38, go_sem, p0, p1, p2]) rfl ⟨A1, c1, rfl, ?_, ?_⟩
  · exact (((HO.out.setBox w.heap.size 2 _ (by omega)).setBox (w.heap.size + 1) 0 _ (by omega)).setBox (w.heap.size + 1) 1 _ (by omega)).setBox (w.heap.size + 1) 2 _ (by omega) |>.more (by omega)
  · exact (((HB1.out.setCell (by simp) _).setCell (by simp) _).setCell (by simp) _).setCell (by simp) _
end Go.Proofs.YtgnpgkkjcloghaaGreat.Gr
