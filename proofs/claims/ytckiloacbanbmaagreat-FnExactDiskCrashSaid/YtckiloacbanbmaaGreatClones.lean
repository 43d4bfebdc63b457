/- Clones of a disk's slices, in the program: each a row of the call's own with the same cells. -/
import Derived.Test.YtckiloacbanbmaaGreatToDisk
import Derived.WalkSpells
import Derived.Laws.AppendOwnNone
namespace Go.Proofs.YtckiloacbanbmaaGreat.DOk
open Go.RowKit Go.Proofs.YtckiloacbanbmaaGreat.Bytes Go.Proofs.YtckiloacbanbmaaGreat.Rows_
set_option linter.unusedVariables false

theorem flat_get (K : Nat) (hK : 0 < K) : ∀ (rows : List (List Value)), (∀ r ∈ rows, r.length = K) → ∀ (j : Nat) (u : Value), rows.flatten[j]? = some u → ∃ row, rows[j / K]? = some row ∧ row[j % K]? = some u
  | [], _, j, u, h => by simp at h
  | r :: rs, hr, j, u, h => by
    have hl : r.length = K := hr r (by simp)
    rw [List.flatten_cons] at h
    by_cases hj : j < K
    · rw [List.getElem?_append_left (by omega)] at h
      exact ⟨r, by rw [Nat.div_eq_of_lt hj]; rfl, by rw [Nat.mod_eq_of_lt hj]; exact h⟩
    · rw [List.getElem?_append_right (by omega), hl] at h
      obtain ⟨row, h1, h2⟩ := flat_get K hK rs (fun x hx => hr x (by simp [hx])) (j - K) u h
      have e1 : j / K = (j - K) / K + 1 := by
        have := Nat.add_div_right (j - K) hK
        rw [Nat.sub_add_cancel (by omega)] at this; exact this
      have e2 : (j - K) % K = j % K := by
        have := Nat.add_mod_right (j - K) K
        rw [Nat.sub_add_cancel (by omega)] at this; exact this.symm
      exact ⟨row, by rw [e1, List.getElem?_cons_succ]; exact h1, by rw [← e2]; exact h2⟩
theorem rdK_cells {K : Nat} (hK : 0 < K) {w : World} {B : Nat} {ad : Addr} {rows : List (List Value)} (hr : ∀ r ∈ rows, r.length = K) (h : RdK K w B (some ad) rows) : ∀ j u, rows.flatten[j]? = some u → w.cell? (ad.add j) = some u := by
  intro j u hu
  obtain ⟨row, h1, h2⟩ := flat_get K hK rows hr j u hu
  obtain ⟨b, o, e, _, hc⟩ := h (Nat.lt_of_le_of_lt (Nat.zero_le _) (List.getElem?_eq_some_iff.1 h1).1)
  injection e with e
  subst e
  rw [Addr.add_lit]
  have := hc (j / K) row h1 (j % K) u h2
  rw [Nat.add_assoc, Nat.div_add_mod'] at this
  exact this
theorem own_noneK {w : World} {base K n : Nat} {E : TypeId} {A : Option Addr} {c : Nat} {xs : List Value} (h : w.ownsRow base E K (.slice A n c) n xs) : A = none → n = 0 ∧ c = 0 := by
  intro e
  rcases h.2 with ⟨hv, h0⟩ | ⟨g, cap, cur, hv, _⟩
  · injection hv with _ e2 e3
    exact ⟨e2, e3⟩
  · injection hv with e1
    rw [e] at e1; cases e1
theorem own_blockK {w : World} {base K n : Nat} {E : TypeId} {v : Value} {xs : List Value} (h : w.ownsRow base E K v n xs) : ∀ g, v.ownBlock = some g → base ≤ g := fun g hg => (World.ownsRow.lt h g hg).1

/-- 'out = append(out, src...)', slices of structs -/
theorem append_rows {T E : TypeId} {K bytes : Nat} {zero : Value} (hT : Tryz.prog.underlying T = some (.slice E)) (hinf : (Tryz.prog.info? E).map (fun i => (i.zero, i.size, i.bytes)) = some (some zero, K, bytes)) (hzs : zero.cells.size = K) (hK : 0 < K) (hby : bytes ≤ 48)
    {wr : World} {ops : Array Oper} {rest : List Oper} {o : Oper} {a : Act} {Q : Exit → Act → World → Prop} (hgd : o.guard = none) (s x : Operand) (ho : o.op = .call { callee := .builtin .append, args := #[s, x], argTypes := #[T, T] })
    {base B n c n1 c1 : Nat} {A A1 : Option Addr} {xs : List Value} {rows : List (List Value)} (hs : a.eval s = .slice A n c) (hx : a.eval x = .slice A1 n1 c1)
    (hown : wr.ownsRow base E K (.slice A n c) n xs) (hsrc : RdK K wr B A1 rows) (hrows : ∀ r ∈ rows, r.length = K) (hone : ∀ r ∈ rows, ∀ u ∈ r, u.oneCell' = true) (hA : A1 = none → n1 = 0 ∧ c1 = 0) (hl : rows.length = n1) (hn : n ≤ 1000000000) (hn1 : n1 ≤ 1000000000) (hbase : base ≤ wr.heap.size)
    (h : ∀ A' c' w', w'.ownsRow base E K (.slice A' (n + n1) c') (n + n1) (xs ++ rows.flatten) → Below base wr w' → wr.grownBy w' (Value.slice A n c).ownBlock → wpList Tryz.prog ops Q rest (a.put o.dst (.slice A' (n + n1) c')) w') :
    wpList Tryz.prog ops Q (o :: rest) a wr := by
  obtain ⟨i0, hi, hz0, hz1, hz2⟩ := info_parts hinf
  rcases A1 with _ | ad
  · obtain ⟨rfl, rfl⟩ := hA rfl
    obtain rfl : rows = [] := List.eq_nil_of_length_eq_zero hl
    refine wpList_append_own_none hgd s x T ho base E i0 K hT hi _ _ _ hs hown hx ?_
    have := h A c wr (by simpa using hown) (Below.refl _ _) (World.grownBy.refl _ _)
    simpa using this
  · refine wpList_append_own _ hgd s x T ho base E i0 zero K bytes hT hi hz0 hz1 hz2 hzs hK _ _ _ hs hown ad n1 c1 rows.flatten hx (by rw [flat_len K rows hrows, hl]) (rdK_cells hK hrows hsrc) ?_ ?_ ?_ hbase ?_
    · intro u hu
      obtain ⟨r, hr, hu⟩ := List.mem_flatten.1 hu
      exact hone r hr u hu
    · unfold maxLen; omega
    · have : (n + n1) * bytes ≤ 2000000000 * 48 := Nat.mul_le_mul (by omega) hby
      omega
    · intro v' w' hown' hgrow _
      obtain ⟨A', c', rfl⟩ := own_shapeK hown'
      exact h A' c' w' hown' ((Below.refl _ _).grown hgrow hbase (own_blockK hown)) hgrow
theorem one_link (ks : List LinkD) : ∀ r ∈ ks.map linkR, ∀ u ∈ r, u.oneCell' = true := by
  intro r hr u hu; simp at hr; obtain ⟨a, b, _, rfl⟩ := hr; simp [linkR] at hu; rcases hu with rfl | rfl <;> rfl
theorem one_turn (ks : List TurnD) : ∀ r ∈ ks.map turnR, ∀ u ∈ r, u.oneCell' = true := by
  intro r hr u hu; simp at hr; obtain ⟨a, _, rfl⟩ := hr; simp [turnR] at hu; rcases hu with rfl | rfl | rfl | rfl <;> rfl
theorem one_file (ks : List FileD) : ∀ r ∈ ks.map fileR, ∀ u ∈ r, u.oneCell' = true := by
  intro r hr u hu; simp at hr; obtain ⟨a, _, rfl⟩ := hr; simp [fileR] at hu; rcases hu with rfl | rfl | rfl <;> rfl

set_option maxRecDepth 100000 in
set_option maxHeartbeats 800000 in
theorem cloneF_any (A : Option Addr) (n c : Nat) (fs : List FileD) (w : World) (hA : A = none → n = 0 ∧ c = 0) (hr : RdF w w.heap.size A fs) (hl : fs.length = n) (hn : n ≤ 2097152) :
    Calls Tryz.prog 75 #[.slice A n c] w fun e w' => ∃ A' c', e = .returned (.slice A' n c') ∧ OwnF w' w.heap.size A' n c' fs ∧ Below w.heap.size w w' := by
  have HL := Lib.hid hl
  have HA := Lib.hid hA
  clear hl hA
  have hown0 := own_empty w 65 3
  have hb0 : Below w.heap.size w (w.alloc (.cells #[] 65)) := (Below.refl w.heap.size w).alloc (Nat.le_refl _) (.cells #[] 65)
  have hr0 : RdK 3 (w.alloc (.cells #[] 65)) w.heap.size A (fs.map fileR) := hr.below (Nat.le_refl _) hb0
  rcases A with _ | ad
  · obtain ⟨rfl, rfl⟩ := HA.out rfl
    obtain rfl : fs = [] := List.eq_nil_of_length_eq_zero HL.out
    have hnil := fun W : World => Lib.run_eql_slice_nil (P := Tryz.prog) W 32 65 none 0 0 0 0 Tryz.underlying32
    go_enter Tryz.func75, Tryz.ntmps75
    go_wp2_with fail
    go_ret
    exact ⟨none, 0, rfl, World.ownsRow_nil w _ _ _, Below.refl _ _⟩
  · have hnil := fun W : World => Lib.run_eql_slice_nil (P := Tryz.prog) W 32 65 (some ad) n c 0 0 Tryz.underlying32
    go_enter Tryz.func75, Tryz.ntmps75
    go_wp2_with (at_builtin; refine append_rows Tryz.underlying32 fileInfo rfl (by decide) (by decide) rfl _ _ rfl rfl rfl hown0 hr0 (file_len _) (one_file _) HA.out (by rw [List.length_map]; exact HL.out) (by omega) (by omega) (by simp) ?_)
    intro A1 c1 w1 ho1 hb1 _
    have HO1 := Lib.hid (show OwnF w1 w.heap.size A1 n c1 fs by unfold OwnF; simpa using ho1)
    have HB2 := Lib.hid (hb0.trans hb1)
    clear hown0 hb0 hr0 hb1 hr ho1
    go_wp2_with fail
    go_ret
    exact ⟨_, _, rfl, HO1.out, HB2.out⟩

set_option maxRecDepth 100000 in
set_option maxHeartbeats 800000 in
theorem cloneL_any (A : Option Addr) (n c : Nat) (ks : List LinkD) (w : World) (hA : A = none → n = 0 ∧ c = 0) (hr : RdL w w.heap.size A ks) (hl : ks.length = n) (hn : n ≤ 2097152) :
    Calls Tryz.prog 77 #[.slice A n c] w fun e w' => ∃ A' c', e = .returned (.slice A' n c') ∧ OwnL w' w.heap.size A' n c' ks ∧ Below w.heap.size w w' := by
  have HL := Lib.hid hl
  have HA := Lib.hid hA
  clear hl hA
  have hown0 := own_empty w 97 2
  have hb0 : Below w.heap.size w (w.alloc (.cells #[] 97)) := (Below.refl w.heap.size w).alloc (Nat.le_refl _) (.cells #[] 97)
  have hr0 : RdK 2 (w.alloc (.cells #[] 97)) w.heap.size A (ks.map linkR) := hr.below (Nat.le_refl _) hb0
  rcases A with _ | ad
  · obtain ⟨rfl, rfl⟩ := HA.out rfl
    obtain rfl : ks = [] := List.eq_nil_of_length_eq_zero HL.out
    have hnil := fun W : World => Lib.run_eql_slice_nil (P := Tryz.prog) W 33 97 none 0 0 0 0 Tryz.underlying33
    go_enter Tryz.func77, Tryz.ntmps77
    go_wp2_with fail
    go_ret
    exact ⟨none, 0, rfl, World.ownsRow_nil w _ _ _, Below.refl _ _⟩
  · have hnil := fun W : World => Lib.run_eql_slice_nil (P := Tryz.prog) W 33 97 (some ad) n c 0 0 Tryz.underlying33
    go_enter Tryz.func77, Tryz.ntmps77
    go_wp2_with (at_builtin; refine append_rows Tryz.underlying33 linkInfo' rfl (by decide) (by decide) rfl _ _ rfl rfl rfl hown0 hr0 (link_len _) (one_link _) HA.out (by rw [List.length_map]; exact HL.out) (by omega) (by omega) (by simp) ?_)
    intro A1 c1 w1 ho1 hb1 _
    have HO1 := Lib.hid (show OwnL w1 w.heap.size A1 n c1 ks by unfold OwnL; simpa using ho1)
    have HB2 := Lib.hid (hb0.trans hb1)
    clear hown0 hb0 hr0 hb1 hr ho1
    go_wp2_with fail
    go_ret
    exact ⟨_, _, rfl, HO1.out, HB2.out⟩

set_option maxRecDepth 100000 in
set_option maxHeartbeats 800000 in
theorem cloneT_any (A : Option Addr) (n c : Nat) (ts : List TurnD) (w : World) (hA : A = none → n = 0 ∧ c = 0) (hr : RdT w w.heap.size A ts) (hl : ts.length = n) (hn : n ≤ 2097152) :
    Calls Tryz.prog 78 #[.slice A n c] w fun e w' => ∃ A' c', e = .returned (.slice A' n c') ∧ OwnT w' w.heap.size A' n c' ts ∧ Below w.heap.size w w' := by
  have HL := Lib.hid hl
  have HA := Lib.hid hA
  clear hl hA
  have hown0 := own_empty w 67 4
  have hb0 : Below w.heap.size w (w.alloc (.cells #[] 67)) := (Below.refl w.heap.size w).alloc (Nat.le_refl _) (.cells #[] 67)
  have hr0 : RdK 4 (w.alloc (.cells #[] 67)) w.heap.size A (ts.map turnR) := hr.below (Nat.le_refl _) hb0
  rcases A with _ | ad
  · obtain ⟨rfl, rfl⟩ := HA.out rfl
    obtain rfl : ts = [] := List.eq_nil_of_length_eq_zero HL.out
    have hnil := fun W : World => Lib.run_eql_slice_nil (P := Tryz.prog) W 34 67 none 0 0 0 0 Tryz.underlying34
    go_enter Tryz.func78, Tryz.ntmps78
    go_wp2_with fail
    go_ret
    exact ⟨none, 0, rfl, World.ownsRow_nil w _ _ _, Below.refl _ _⟩
  · have hnil := fun W : World => Lib.run_eql_slice_nil (P := Tryz.prog) W 34 67 (some ad) n c 0 0 Tryz.underlying34
    go_enter Tryz.func78, Tryz.ntmps78
    go_wp2_with (at_builtin; refine append_rows Tryz.underlying34 turnInfo rfl (by decide) (by decide) rfl _ _ rfl rfl rfl hown0 hr0 (turn_len _) (one_turn _) HA.out (by rw [List.length_map]; exact HL.out) (by omega) (by omega) (by simp) ?_)
    intro A1 c1 w1 ho1 hb1 _
    have HO1 := Lib.hid (show OwnT w1 w.heap.size A1 n c1 ts by unfold OwnT; simpa using ho1)
    have HB2 := Lib.hid (hb0.trans hb1)
    clear hown0 hb0 hr0 hb1 hr ho1
    go_wp2_with fail
    go_ret
    exact ⟨_, _, rfl, HO1.out, HB2.out⟩

end Go.Proofs.YtckiloacbanbmaaGreat.DOk
