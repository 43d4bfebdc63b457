/- Copies of a grid, in the program and in the model: a grid of the call's own with the same cells. -/
import Derived.Test.YthlpchojlddnbaaGrNewB
import Derived.WalkSpells
import Derived.Laws.AppendOwnNone
namespace Go.Proofs.Ythlpchojlddnbaa.Gr
open Go.RowKit Go.Proofs.Ythlpchojlddnbaa.Bytes Go.Proofs.Ythlpchojlddnbaa.Rows_ Go.Proofs.Ythlpchojlddnbaa.RowK
set_option linter.unusedVariables false
theorem flat_get (K : Nat) (hK : 0 < K) : ∀ (rows : List (List Value)), (∀ r ∈ rows, r.length = K) → ∀ (j : Nat) (u : Value), rows.flatten[j]? = some u → ∃ row, rows[j / K]? = some row ∧ row[j % K]? = some u
  | [], _, j, u, h => by simp at h
  | r :: rs, hr, j, u, h => by
    have hl : r.length = K := hr r (by simp)
    rw [List.flatten_cons] at h
    by_cases hj : j < K
    · rw [List.getElem?_append_left (by omega)] at h
      exact ⟨r, by rw [Nat.div_eq_of_lt hj]; rfl, by rw [Nat.mod_eq_of_lt hj]; exact h⟩
    · rw [List.getElem?_append_right (by omega), hl] at h
      obtain ⟨row, h1, h2⟩ := flat_get K hK rs (fun x hx => hr x (by simp [hx])) (j - K) u h
      have e1 : j / K = (j - K) / K + 1 := by
        have := Nat.add_div_right (j - K) hK
        rw [Nat.sub_add_cancel (by omega)] at this; exact this
      have e2 : (j - K) % K = j % K := by
        have := Nat.add_mod_right (j - K) K
        rw [Nat.sub_add_cancel (by omega)] at this; exact this.symm
      exact ⟨row, by rw [e1, List.getElem?_cons_succ]; exact h1, by rw [← e2]; exact h2⟩
theorem rdK_cells {K : Nat} (hK : 0 < K) {w : World} {B : Nat} {ad : Addr} {rows : List (List Value)} (hr : ∀ r ∈ rows, r.length = K) (h : RdK K w B (some ad) rows) : ∀ j u, rows.flatten[j]? = some u → w.cell? (ad.add j) = some u := by
  intro j u hu
  obtain ⟨row, h1, h2⟩ := flat_get K hK rows hr j u hu
  obtain ⟨b, o, e, _, hc⟩ := h (Nat.lt_of_le_of_lt (Nat.zero_le _) (List.getElem?_eq_some_iff.1 h1).1)
  injection e with e
  subst e
  rw [Addr.add_lit]
  have := hc (j / K) row h1 (j % K) u h2
  rw [Nat.add_assoc, Nat.div_add_mod'] at this
  exact this
/-- 'out = append(out, src...)', slices of structs -/
theorem append_rows {T E : TypeId} {K bytes : Nat} {zero : Value} (hT : Try.prog.underlying T = some (.slice E)) (hinf : (Try.prog.info? E).map (fun i => (i.zero, i.size, i.bytes)) = some (some zero, K, bytes)) (hzs : zero.cells.size = K) (hK : 0 < K) (hby : bytes ≤ 48)
    {wr : World} {ops : Array Oper} {rest : List Oper} {o : Oper} {a : Act} {Q : Exit → Act → World → Prop} (hgd : o.guard = none) (s x : Operand) (ho : o.op = .call { callee := .builtin .append, args := #[s, x], argTypes := #[T, T] })
    {base B n c n1 c1 : Nat} {A A1 : Option Addr} {xs : List Value} {rows : List (List Value)} (hs : a.eval s = .slice A n c) (hx : a.eval x = .slice A1 n1 c1)
    (hown : wr.ownsRow base E K (.slice A n c) n xs) (hsrc : RdK K wr B A1 rows) (hrows : ∀ r ∈ rows, r.length = K) (hone : ∀ r ∈ rows, ∀ u ∈ r, u.oneCell' = true) (hA : A1 = none → n1 = 0 ∧ c1 = 0) (hl : rows.length = n1) (hn : n ≤ 1000000000) (hn1 : n1 ≤ 1000000000) (hbase : base ≤ wr.heap.size)
    (h : ∀ A' c' w', w'.ownsRow base E K (.slice A' (n + n1) c') (n + n1) (xs ++ rows.flatten) → Below base wr w' → wr.grownBy w' (Value.slice A n c).ownBlock → wpList Try.prog ops Q rest (a.put o.dst (.slice A' (n + n1) c')) w') :
    wpList Try.prog ops Q (o :: rest) a wr := by
  obtain ⟨i0, hi, hz0, hz1, hz2⟩ := info_parts hinf
  rcases A1 with _ | ad
  · obtain ⟨rfl, rfl⟩ := hA rfl
    obtain rfl : rows = [] := List.eq_nil_of_length_eq_zero hl
    refine wpList_append_own_none hgd s x T ho base E i0 K hT hi _ _ _ hs hown hx ?_
    have := h A c wr (by simpa using hown) (Below.refl _ _) (World.grownBy.refl _ _)
    simpa using this
  · refine wpList_append_own _ hgd s x T ho base E i0 zero K bytes hT hi hz0 hz1 hz2 hzs hK _ _ _ hs hown ad n1 c1 rows.flatten hx (by rw [flat_len K rows hrows, hl]) (rdK_cells hK hrows hsrc) ?_ ?_ ?_ hbase ?_
    · intro u hu
      obtain ⟨r, hr, hu⟩ := List.mem_flatten.1 hu
      exact hone r hr u hu
    · unfold maxLen; omega
    · have : (n + n1) * bytes ≤ 2000000000 * 48 := Nat.mul_le_mul (by omega) hby
      omega
    · intro v' w' hown' hgrow _
      obtain ⟨A', c', rfl⟩ := own_shapeK hown'
      exact h A' c' w' hown' ((Below.refl _ _).grown hgrow hbase (fun g hg => (World.ownsRow.lt hown g hg).1)) hgrow
theorem own_empty (w : World) (E k : Nat) : (w.alloc (.cells #[] E)).ownsRow w.heap.size E k (.slice (some ⟨w.heap.size, 0, none⟩) 0 0) 0 [] :=
  ⟨by simp, .inr ⟨w.heap.size, 0, #[], rfl, Nat.le_refl _, heap_alloc_new w _, Nat.le_refl _, by unfold maxLen; omega, by simp, by simp⟩⟩
theorem one_cell (cs : List CellD) : ∀ r ∈ cs.map cellR, ∀ u ∈ r, u.oneCell' = true := by
  intro r hr u hu; simp at hr; obtain ⟨a, _, rfl⟩ := hr; simp [cellR] at hu; rcases hu with rfl | rfl | rfl | rfl | rfl | rfl <;> rfl
set_option maxRecDepth 100000 in
set_option maxHeartbeats 800000 in
theorem cloneC_any (A : Option Addr) (n c : Nat) (cs : List CellD) (w : World) (hA : A = none → n = 0 ∧ c = 0) (hr : RdC w w.heap.size A cs) (hl : cs.length = n) (hn : n ≤ 2097152) :
    Calls Try.prog 93 #[.slice A n c] w fun e w' => ∃ A' c', e = .returned (.slice A' n c') ∧ OwnC w' w.heap.size A' n c' cs ∧ Below w.heap.size w w' := by
  have HL := Lib.hid hl
  have HA := Lib.hid hA
  clear hl hA
  have hown0 := own_empty w 37 6
  have hb0 : Below w.heap.size w (w.alloc (.cells #[] 37)) := (Below.refl w.heap.size w).alloc (Nat.le_refl _) (.cells #[] 37)
  have hr0 : RdK 6 (w.alloc (.cells #[] 37)) w.heap.size A (cs.map cellR) := hr.below (Nat.le_refl _) hb0
  rcases A with _ | ad
  · obtain ⟨rfl, rfl⟩ := HA.out rfl
    obtain rfl : cs = [] := List.eq_nil_of_length_eq_zero HL.out
    have hnil := fun W : World => Lib.run_eql_slice_nil (P := Try.prog) W 30 37 none 0 0 0 0 Try.underlying30
    go_enter Try.func93, Try.ntmps93
    go_wp2_with fail
    go_ret
    exact ⟨none, 0, rfl, World.ownsRow_nil w _ _ _, Below.refl _ _⟩
  · have hnil := fun W : World => Lib.run_eql_slice_nil (P := Try.prog) W 30 37 (some ad) n c 0 0 Try.underlying30
    go_enter Try.func93, Try.ntmps93
    go_wp2_with (at_builtin; refine append_rows Try.underlying30 cellInfo rfl (by decide) (by decide) rfl _ _ rfl rfl rfl hown0 hr0 (cell_len _) (one_cell _) HA.out (by rw [List.length_map]; exact HL.out) (by omega) (by omega) (by simp) ?_)
    intro A1 c1 w1 ho1 hb1 _
    have HO1 := Lib.hid (show OwnC w1 w.heap.size A1 n c1 cs by unfold OwnC; simpa using ho1)
    have HB2 := Lib.hid (hb0.trans hb1)
    clear hown0 hb0 hr0 hb1 hr ho1
    go_wp2_with fail
    go_ret
    exact ⟨_, _, rfl, HO1.out, HB2.out⟩


def AnsG3 (w : World) (gw gh : Int) (n : Nat) (cs : List CellD) (e : Ending) (w' : World) : Prop :=
  ∃ A c, e = .returned (.agg #[.int .i64 gw, .int .i64 gh, .slice A n c]) ∧ OwnC w' w.heap.size A n c cs ∧ Below w.heap.size w w'
set_option maxRecDepth 100000 in
set_option maxHeartbeats 1600000 in
theorem copyGrid_any (gw gh : Int) (A : Option Addr) (n c : Nat) (cs : List CellD) (w : World) (hA : A = none → n = 0 ∧ c = 0) (hr : RdC w w.heap.size A cs) (hl : cs.length = n) (hn : n ≤ 2097152) :
    Calls Try.prog 45 #[.agg #[.int .i64 gw, .int .i64 gh, .slice A n c]] w (AnsG3 w gw gh n cs) := by
  have hb0 := Lib.hid (((Below.refl w.heap.size w).alloc (Nat.le_refl _) (.cells #[.int .i64 gw, .int .i64 gh, .slice A n c] 32)).alloc (by simp) (.cells #[.int .i64 0, .int .i64 0, .slice none 0 0] 32))
  have HR := Lib.hid hr
  have HL := Lib.hid hl
  have HA := Lib.hid hA
  have X0 := Lib.hid ((BoxG.new w #[.int .i64 gw, .int .i64 gh, .slice A n c]).below ((Below.refl _ _).alloc (Nat.le_refl _) (.cells #[.int .i64 0, .int .i64 0, .slice none 0 0] 32)) (by simp))
  have X1 := Lib.hid (BoxG.new (w.alloc (.cells #[.int .i64 gw, .int .i64 gh, .slice A n c] 32)) #[.int .i64 0, .int .i64 0, .slice none 0 0])
  clear hr hl hA
  go_enter Try.func45, Try.ntmps45
  go_wp2_with fail
  refine (cloneC_any A n c cs _ HA.out ((HR.out.below (Nat.le_refl _) hb0.out).more (by simp; omega)) HL.out hn).mono ?_
  rintro e v1 ⟨A1, c1, rfl, ho1, hb1⟩
  have x0 := X0.out.below hb1 (by simp; omega)
  have x1 := X1.out.below hb1 (by simp)
  have HO := Lib.hid (ho1.more (base' := w.heap.size + 2) (by simp))
  have HB1 := Lib.hid (hb0.out.trans (hb1.mono (by simp; omega)))
  clear ho1 hb1
  have q0 := x0.cell 0
  have q1 := x0.cell 1
  have q2 := x0.cell 2
  have f2 := x0.free 2
  have p0 : v1.cell? ⟨w.heap.size + 1, 0, none⟩ = some (.int .i64 0) := by have := x1.cell 0; simpa using this
  have p1 : v1.cell? ⟨w.heap.size + 1, 1, none⟩ = some (.int .i64 0) := by have := x1.cell 1; simpa using this
  have p2 : v1.cell? ⟨w.heap.size + 1, 2, none⟩ = some (.slice none 0 0) := by have := x1.cell 2; simpa using this
  have g0 : v1.frozen? ⟨w.heap.size + 1, 0, none⟩ = false := by have := x1.free 0; simpa using this
  have g1 : v1.frozen? ⟨w.heap.size + 1, 1, none⟩ = false := by have := x1.free 1; simpa using this
  have g2 : v1.frozen? ⟨w.heap.size + 1, 2, none⟩ = false := by have := x1.free 2; simpa using this
  clear x0 x1
  go_wp2_with fail
  refine bodyPost_ret (v := .agg #[.int .i64 gw, .int .i64 gh, .slice A1 n c1]) (by simp [results, Try.results45, go_sem, p0, p1, p2]) rfl ⟨A1, c1, rfl, ?_, ?_⟩
  · exact (((HO.out.setBox w.heap.size 2 _ (by omega)).setBox (w.heap.size + 1) 0 _ (by omega)).setBox (w.heap.size + 1) 1 _ (by omega)).setBox (w.heap.size + 1) 2 _ (by omega) |>.more (by omega)
  · exact (((HB1.out.setCell (by simp) _).setCell (by simp) _).setCell (by simp) _).setCell (by simp) _

set_option maxRecDepth 100000 in
set_option maxHeartbeats 1600000 in
theorem l07Copy_any (gw gh : Int) (A : Option Addr) (n c : Nat) (cs : List CellD) (w : World) (hA : A = none → n = 0 ∧ c = 0) (hr : RdC w w.heap.size A cs) (hl : cs.length = n) (hn : n ≤ 2097152) :
    Calls Try.prog 39 #[.agg #[.int .i64 gw, .int .i64 gh, .slice A n c]] w (AnsG3 w gw gh n cs) := by
  have hb0 := (((Below.refl w.heap.size w).alloc (Nat.le_refl _) (.cells #[.int .i64 gw, .int .i64 gh, .slice A n c] 32)).alloc (by simp) (.cells #[.int .i64 0, .int .i64 0, .slice none 0 0] 32)).alloc (by simp; omega) (.cells #[] 37)
  have hown0 := own_empty ((w.alloc (.cells #[.int .i64 gw, .int .i64 gh, .slice A n c] 32)).alloc (.cells #[.int .i64 0, .int .i64 0, .slice none 0 0] 32)) 37 6
  simp only [World.size_alloc] at hown0
  have hr0 : RdK 6 (((w.alloc (.cells #[.int .i64 gw, .int .i64 gh, .slice A n c] 32)).alloc (.cells #[.int .i64 0, .int .i64 0, .slice none 0 0] 32)).alloc (.cells #[] 37)) w.heap.size A (cs.map cellR) := hr.below (Nat.le_refl _) hb0
  have x0 := ((BoxG.new w #[.int .i64 gw, .int .i64 gh, .slice A n c]).below ((Below.refl _ _).alloc (Nat.le_refl _) (.cells #[.int .i64 0, .int .i64 0, .slice none 0 0] 32)) (by simp)).below ((Below.refl _ _).alloc (Nat.le_refl _) (.cells #[] 37)) (by simp; omega)
  have x1 := (BoxG.new (w.alloc (.cells #[.int .i64 gw, .int .i64 gh, .slice A n c] 32)) #[.int .i64 0, .int .i64 0, .slice none 0 0]).below ((Below.refl _ _).alloc (Nat.le_refl _) (.cells #[] 37)) (by simp)
  simp only [World.size_alloc] at x1
  have HL := Lib.hid hl
  have HA := Lib.hid hA
  have X0 := Lib.hid x0
  have X1 := Lib.hid x1
  have HB0 := Lib.hid hb0
  clear hr hl hA x0 x1 hb0
  go_enter Try.func39, Try.ntmps39
  go_wp2_with (at_builtin; refine append_rows Try.underlying30 cellInfo rfl (by decide) (by decide) rfl _ _ rfl rfl rfl hown0 hr0 (cell_len _) (one_cell _) HA.out (by rw [List.length_map]; exact HL.out) (by omega) (by omega) (by simp) ?_)
  intro A1 c1 v1 ho1 hb1 hg1
  have hb1' : Below (w.heap.size + 2) _ v1 := hb1.mono (by omega)
  have x0 := X0.out.below hb1' (by omega)
  have x1 := X1.out.below hb1' (by omega)
  have HO := Lib.hid (show OwnC v1 (w.heap.size + 2) A1 n c1 cs by unfold OwnC; simpa using ho1)
  have HB1 := Lib.hid (HB0.out.trans (hb1.mono (by omega)))
  clear ho1 hb1 hb1' hg1 hown0 hr0
  have q0 := x0.cell 0
  have q1 := x0.cell 1
  have q2 := x0.cell 2
  have f2 := x0.free 2
  have p0 := x1.cell 0
  have p1 := x1.cell 1
  have p2 := x1.cell 2
  have g0 := x1.free 0
  have g1 := x1.free 1
  have g2 := x1.free 2
  clear x0 x1
  go_wp2_with fail
  refine bodyPost_ret (v := .agg #[.int .i64 gw, .int .i64 gh, .slice A1 n c1]) (by simp [results, Try.results39, go_sem, p0, p1, p2]) rfl ⟨A1, c1, rfl, ?_, ?_⟩
  · exact (((HO.out.setBox w.heap.size 2 _ (by omega)).setBox (w.heap.size + 1) 0 _ (by omega)).setBox (w.heap.size + 1) 1 _ (by omega)).setBox (w.heap.size + 1) 2 _ (by omega) |>.more (by omega)
  · exact (((HB1.out.setCell (by simp) _).setCell (by simp) _).setCell (by simp) _).setCell (by simp) _
end Go.Proofs.Ythlpchojlddnbaa.Gr

