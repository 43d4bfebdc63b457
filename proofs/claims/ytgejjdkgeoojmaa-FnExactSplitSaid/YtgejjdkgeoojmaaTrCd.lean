/- slices.Concat at nodes and at rectangles: the parts one after the other, in memory of the answer's own. -/
import Derived.Test.YtgejjdkgeoojmaaTrTo
import Derived.WalkSpells
import Derived.Laws.AppendOwnNone
import Derived.Lib.AppendZerosOnto
import Derived.Lib.Walk
import Derived.Lib.SliceRun
namespace Go.Proofs.Ytgejjdkgeoojmaa.Tr
open Go.RowKit Go.Proofs.Ytgejjdkgeoojmaa.Bytes Go.Proofs.Ytgejjdkgeoojmaa.Rows_ Go.Proofs.Ytgejjdkgeoojmaa.RowK
set_option linter.unusedVariables false
theorem flat_get (K : Nat) (hK : 0 < K) : ∀ (rows : List (List Value)), (∀ r ∈ rows, r.length = K) → ∀ (j : Nat) (u : Value), rows.flatten[j]? = some u → ∃ row, rows[j / K]? = some row ∧ row[j % K]? = some u
  | [], _, j, u, h => by simp at h
  | r :: rs, hr, j, u, h => by
    have hl : r.length = K := hr r (by simp)
    rw [List.flatten_cons] at h
    by_cases hj : j < K
    · rw [List.getElem?_append_left (by omega)] at h
      exact ⟨r, by rw [Nat.div_eq_of_lt hj]; rfl, by rw [Nat.mod_eq_of_lt hj]; exact h⟩
    · rw [List.getElem?_append_right (by omega), hl] at h
      obtain ⟨row, h1, h2⟩ := flat_get K hK rs (fun x hx => hr x (by simp [hx])) (j - K) u h
      have e1 : j / K = (j - K) / K + 1 := by
        have := Nat.add_div_right (j - K) hK
        rw [Nat.sub_add_cancel (by omega)] at this; exact this
      have e2 : (j - K) % K = j % K := by
        have := Nat.add_mod_right (j - K) K
        rw [Nat.sub_add_cancel (by omega)] at this; exact this.symm
      exact ⟨row, by rw [e1, List.getElem?_cons_succ]; exact h1, by rw [← e2]; exact h2⟩
theorem rdK_cells {K : Nat} (hK : 0 < K) {w : World} {B : Nat} {ad : Addr} {rows : List (List Value)} (hr : ∀ r ∈ rows, r.length = K) (h : RdK K w B (some ad) rows) : ∀ j u, rows.flatten[j]? = some u → w.cell? (ad.add j) = some u := by
  intro j u hu
  obtain ⟨row, h1, h2⟩ := flat_get K hK rows hr j u hu
  obtain ⟨b, o, e, _, hc⟩ := h (Nat.lt_of_le_of_lt (Nat.zero_le _) (List.getElem?_eq_some_iff.1 h1).1)
  injection e with e
  subst e
  rw [Addr.add_lit]
  have := hc (j / K) row h1 (j % K) u h2
  rw [Nat.add_assoc, Nat.div_add_mod'] at this
  exact this
theorem append_rowsT {T E : TypeId} {K bytes : Nat} {zero : Value} (hT : Try.prog.underlying T = some (.slice E)) (hinf : (Try.prog.info? E).map (fun i => (i.zero, i.size, i.bytes)) = some (some zero, K, bytes)) (hzs : zero.cells.size = K) (hK : 0 < K) (hby : bytes ≤ 48)
    {wr : World} {ops : Array Oper} {rest : List Oper} {o : Oper} {a : Act} {Q : Exit → Act → World → Prop} (hgd : o.guard = none) (s x : Operand) (ho : o.op = .call { callee := .builtin .append, args := #[s, x], argTypes := #[T, T] })
    {base B n c n1 c1 : Nat} {A A1 : Option Addr} {xs : List Value} {rows : List (List Value)} (hs : a.eval s = .slice A n c) (hx : a.eval x = .slice A1 n1 c1)
    (hown : wr.ownsRow base E K (.slice A n c) n xs) (hsrc : RdK K wr B A1 rows) (hrows : ∀ r ∈ rows, r.length = K) (hone : ∀ r ∈ rows, ∀ u ∈ r, u.oneCell' = true) (hA : A1 = none → n1 = 0 ∧ c1 = 0) (hl : rows.length = n1) (hn : n ≤ 1000000000) (hn1 : n1 ≤ 1000000000) (hbase : base ≤ wr.heap.size)
    (h : ∀ A' c' w', w'.ownsRow base E K (.slice A' (n + n1) c') (n + n1) (xs ++ rows.flatten) → Below base wr w' → wr.grownBy w' (Value.slice A n c).ownBlock → wpList Try.prog ops Q rest (a.put o.dst (.slice A' (n + n1) c')) w') :
    wpList Try.prog ops Q (o :: rest) a wr := by
  obtain ⟨i0, hi, hz0, hz1, hz2⟩ := info_parts hinf
  rcases A1 with _ | ad
  · obtain ⟨rfl, rfl⟩ := hA rfl
    obtain rfl : rows = [] := List.eq_nil_of_length_eq_zero hl
    refine wpList_append_own_none hgd s x T ho base E i0 K hT hi _ _ _ hs hown hx ?_
    have := h A c wr (by simpa using hown) (Below.refl _ _) (World.grownBy.refl _ _)
    simpa using this
  · refine wpList_append_own _ hgd s x T ho base E i0 zero K bytes hT hi hz0 hz1 hz2 hzs hK _ _ _ hs hown ad n1 c1 rows.flatten hx (by rw [flat_len K rows hrows, hl]) (rdK_cells hK hrows hsrc) ?_ ?_ ?_ hbase ?_
    · intro u hu
      obtain ⟨r, hr, hu⟩ := List.mem_flatten.1 hu
      exact hone r hr u hu
    · unfold maxLen; omega
    · have : (n + n1) * bytes ≤ 2000000000 * 48 := Nat.mul_le_mul (by omega) hby
      omega
    · intro v' w' hown' hgrow _
      obtain ⟨A', c', rfl⟩ := own_shapeK hown'
      exact h A' c' w' hown' ((Below.refl _ _).grown hgrow hbase (fun g hg => (World.ownsRow.lt hown g hg).1)) hgrow
/-- a part to be put together: a slice value and the rows that it reads as -/
structure PartD where
  A : Option Addr
  n : Nat
  c : Nat
  rows : List (List Value)
instance : Inhabited PartD := ⟨⟨none, 0, 0, []⟩⟩
structure OkPart (K : Nat) (w : World) (p : PartD) : Prop where
  rd : RdK K w w.heap.size p.A p.rows
  len : ∀ r ∈ p.rows, r.length = K
  one : ∀ r ∈ p.rows, ∀ u ∈ r, u.oneCell' = true
  nil : p.A = none → p.n = 0 ∧ p.c = 0
  cnt : p.rows.length = p.n
  bd : p.n ≤ 1000
def RdS (w : World) (B : Nat) (A : Option Addr) (ps : List PartD) : Prop :=
  0 < ps.length → ∃ b o, A = some ⟨b, o, none⟩ ∧ b < B ∧ ∀ k (h : k < ps.length), w.cell? ⟨b, o + k, none⟩ = some (.slice ps[k].A ps[k].n ps[k].c)
theorem RdS.below {w w' : World} {B : Nat} {A : Option Addr} {ps : List PartD} (h : RdS w B A ps) (hb : Below B w w') : RdS w' B A ps := by
  intro hn
  obtain ⟨b, o, e, hlt, hc⟩ := h hn
  exact ⟨b, o, e, hlt, fun k hk => (hb.cell (p := ⟨b, o + k, none⟩) hlt).trans (hc k hk)⟩
theorem RdS.at_ {w : World} {B : Nat} {A : Option Addr} {ps : List PartD} (h : RdS w B A ps) {k : Nat} (hk : k < ps.length) : ∃ b o, A = some ⟨b, o, none⟩ ∧ b < B ∧ w.cell? ⟨b, o + k, none⟩ = some (.slice ps[k].A ps[k].n ps[k].c) := by
  obtain ⟨b, o, e, hlt, hc⟩ := h (by omega)
  exact ⟨b, o, e, hlt, hc k hk⟩
def RdPs (K : Nat) (w : World) (A : Option Addr) (ps : List PartD) : Prop := RdS w w.heap.size A ps ∧ ∀ p ∈ ps, OkPart K w p
def sumN (ps : List PartD) : Nat := (ps.map (·.n)).sum
def catD (ps : List PartD) : List (List Value) := (ps.map (·.rows)).flatten
theorem sumN_snoc (ps : List PartD) (k : Nat) (h : k < ps.length) : sumN (ps.take (k + 1)) = sumN (ps.take k) + ps[k].n := by
  unfold sumN; rw [List.take_succ_eq_append_getElem h, List.map_append, List.sum_append]; simp
theorem catD_snoc (ps : List PartD) (k : Nat) (h : k < ps.length) : catD (ps.take (k + 1)) = catD (ps.take k) ++ ps[k].rows := by
  unfold catD; rw [List.take_succ_eq_append_getElem h, List.map_append, List.flatten_append]; simp
theorem sumN_le {K : Nat} {w : World} : ∀ (ps : List PartD), (∀ p ∈ ps, OkPart K w p) → sumN ps ≤ ps.length * 1000
  | [], _ => by simp [sumN]
  | p :: r, h => by
    have h1 := (h p (by simp)).bd
    have h2 := sumN_le r (fun q hq => h q (by simp [hq]))
    simp only [sumN, List.map_cons, List.sum_cons, List.length_cons] at *
    omega
theorem sumN_take_le (ps : List PartD) (k : Nat) : sumN (ps.take k) ≤ sumN ps := by
  have e : sumN ps = sumN (ps.take k) + sumN (ps.drop k) := by
    conv => lhs; rw [← List.take_append_drop k ps]
    unfold sumN; rw [List.map_append, List.sum_append]
  omega
set_option maxRecDepth 100000 in
set_option maxHeartbeats 1600000 in
theorem growNilR_any (n : Nat) (w : World) (hn : n ≤ 1000000) :
    Calls Try.prog 113 #[.slice none 0 0, .int .i64 n] w fun e w' => ∃ A' c', e = .returned (.slice A' 0 c') ∧ w'.ownsRow w.heap.size 65 5 (.slice A' 0 c') 0 [] ∧ Below w.heap.size w w' := by
  obtain ⟨i0, hi, hz0, hz1, hz2⟩ := info_parts infoR
  by_cases h0 : n = 0
  · subst h0
    go_enter Try.func113, Try.ntmps113
    go_wp2_with fail
    go_ret
    exact ⟨none, 0, rfl, World.ownsRow_nil _ _ _ _, Below.refl _ _⟩
  · have hpos : ¬ ((n : Int) ≤ 0) := by omega
    have hpos' : 0 < (n : Int) := by omega
    have hold : (Builtin.firstCells i0.size 0 (.slice none 0 0)).run Try.prog w.drew = .ok ([] : List Value).toArray w.drew := run_firstCells_none w.drew i0.size 0 0 0
    have hrz : ∀ ty, (Builtin.append_ #[58, 3] ty #[.slice none 0 0, .int .i64 (n : Int)]).run Try.prog w = _ := fun ty =>
      Lib.run_append_grow_zeros w 58 3 ty 65 i0 (.agg #[.int .i64 0, .int .i64 0, .int .i64 0, .int .i64 0, .int .i64 0]) .i64 .i64 Try.underlying58 Try.underlying3 hi hz0 none 0 0 [] hold n (by omega) (by rw [hz1]; decide) (by omega) (by omega) (by rw [hz2]; omega) (growslice_fits (by omega) (by rw [hz2]; omega))
    have hGm := grownCap_le_maxLen w (0 + n) 0 65 (by unfold maxLen; omega)
    have hGn : 0 + n ≤ grownCap w (0 + n) 0 65 := grownCap_ge w _ _ _
    rw [Nat.zero_add] at hrz hGm hGn
    obtain ⟨G, hG⟩ : ∃ G, G = grownCap w n 0 65 := ⟨_, rfl⟩
    obtain ⟨cs, hcs⟩ : ∃ cs : Array Value, cs = (([] : List Value).toArray ++ Builtin.zeroCells (Value.agg #[.int .i64 0, .int .i64 0, .int .i64 0, .int .i64 0, .int .i64 0]).cells n ++ Builtin.zeroCells (Value.agg #[.int .i64 0, .int .i64 0, .int .i64 0, .int .i64 0, .int .i64 0]).cells (grownCap w n 0 65 - n)) := ⟨_, rfl⟩
    rw [← hcs, ← hG] at hrz
    rw [← hG] at hGm hGn
    have HCS := Lib.hid (show cs.size = G * 5 by
      have hz : (Value.agg #[.int .i64 0, .int .i64 0, .int .i64 0, .int .i64 0, .int .i64 0]).cells.size = 5 := rfl
      rw [hcs, ← hG, Array.size_append, Array.size_append, size_zeroCells, size_zeroCells, hz]
      simp only [List.size_toArray, List.length_nil]
      omega)
    have HGM := Lib.hid hGm
    have hG63 : G ≤ 9223372036854775807 := by unfold maxLen at hGm; omega
    clear hold hG hcs hGm
    go_enter Try.func113, Try.ntmps113
    go_wp2_with (at_builtin; refine Lib.wpList_append_run _ rfl _ _ _ _ rfl _ _ rfl rfl _ _ (hrz _) ?_)
    go_ret
    refine ⟨_, _, rfl, ⟨by simp, .inr ⟨w.heap.size, G, cs, rfl, Nat.le_refl _, heap_alloc_new _ _, Nat.zero_le _, HGM.out, HCS.out, by simp⟩⟩, ?_⟩
    exact ((show Below w.heap.size w w.drew from ⟨rfl, rfl, rfl, Nat.le_refl _, fun _ _ => rfl⟩)).alloc (Nat.le_refl _) _
set_option maxRecDepth 100000 in
set_option maxHeartbeats 1600000 in
theorem concatR_any (A : Option Addr) (n c : Nat) (ps : List PartD) (w : World) (hr : RdPs 5 w A ps) (hl : ps.length = n) (hn : n ≤ 1000) (hA : A = none → n = 0) :
    Calls Try.prog 103 #[.slice A n c] w fun e w' => ∃ A' c', e = .returned (.slice A' (sumN ps) c') ∧ w'.ownsRow w.heap.size 65 5 (.slice A' (sumN ps) c') (sumN ps) (catD ps).flatten ∧ Below w.heap.size w w' := by
  have HR := Lib.hid hr
  have HL := Lib.hid hl
  have hsum := sumN_le ps hr.2
  rw [hl] at hsum
  clear hr hl
  go_enter Try.func103, Try.ntmps103
  go_wp2_with fail
  go_loop [3, 11] (fun s i => ∃ k : Nat, k ≤ n ∧ i = .int .i64 k ∧ s = .int .i64 (sumN (ps.take k) : Nat)) (fun _ i => n - (intOf i).toNat)
  case atStart => exact ⟨0, Nat.zero_le _, rfl, rfl⟩
  case round =>
    obtain ⟨k, hk, rfl, rfl⟩ := hrel
    by_cases hlt : k < n
    · have hlt' : k < ps.length := by rw [HL.out]; exact hlt
      obtain ⟨b, o, rfl, hlB, hc⟩ := HR.out.1.at_ hlt'
      have HS := Lib.hid (sumN_snoc ps k hlt')
      have hle := sumN_take_le ps (k + 1)
      have hle0 := sumN_take_le ps k
      rw [HS.out] at hle
      generalize ps[k].A = x0 at *
      generalize ps[k].n = x1 at *
      generalize ps[k].c = x2 at *
      generalize hS0 : sumN (ps.take k) = S0 at *
      have HS0 := Lib.hid hS0
      clear hS0
      go_wp2_with fail
      exact ⟨⟨k + 1, by omega, by go_num, by rw [HS.out]; go_num⟩, by simp [intOf]; omega⟩
    · obtain rfl : n = k := by omega
      have e : ps.take n = ps := List.take_of_length_le (by rw [HL.out]; exact Nat.le_refl _)
      rw [e]
      clear e
      generalize hS0 : sumN ps = S0 at *
      have HS0 := Lib.hid hS0
      clear hS0
      go_wp2_with (go_at_call 113; refine (growNilR_any S0 _ (by omega)).mono ?_; rintro e v1 ⟨A1, c1, rfl, ho1, hb1⟩)
      have HO1 := Lib.hid ho1
      have HB1 := Lib.hid hb1
      clear ho1 hb1
      go_loopw [6, 27] (fun v i wr => ∃ (k : Nat) (A2 : Option Addr) (c2 : Nat), k ≤ n ∧ i = .int .i64 k ∧ v = .slice A2 (sumN (ps.take k)) c2 ∧ wr.ownsRow w.heap.size 65 5 (.slice A2 (sumN (ps.take k)) c2) (sumN (ps.take k)) (catD (ps.take k)).flatten ∧ Below w.heap.size w wr) (fun _ i _ => n - (intOf i).toNat)
      case atStart => exact ⟨0, A1, c1, Nat.zero_le _, rfl, rfl, HO1.out, HB1.out⟩
      case round =>
        clear HO1 HB1
        obtain ⟨k, A2, c2, hk, rfl, rfl, ho, hb⟩ := hrel
        have hz : w.heap.size ≤ wr.heap.size := hb.size
        by_cases hlt : k < n
        · have hlt' : k < ps.length := by rw [HL.out]; exact hlt
          obtain ⟨b, o, rfl, hlB, hc⟩ := (HR.out.1.below hb).at_ hlt'
          have HS := Lib.hid (sumN_snoc ps k hlt')
          have HCt := Lib.hid (catD_snoc ps k hlt')
          have hle0 := sumN_take_le ps k
          rw [HS0.out] at hle0
          have HP := Lib.hid (HR.out.2 _ (List.getElem_mem hlt'))
          have HB := Lib.hid hb
          have HO := Lib.hid ho
          clear hb ho
          rcases hpk : ps[k] with ⟨pA, pn, pc, prows⟩
          rw [hpk] at hc HS HCt HP
          simp only at hc HS HCt HP
          generalize hS1 : sumN (ps.take k) = S1 at *
          have HS1 := Lib.hid hS1
          have HPK := Lib.hid hpk
          clear hS1 hpk
          have hbd : pn ≤ 1000 := HP.out.bd
          have HRd := Lib.hid (show RdK 5 wr w.heap.size pA prows from HP.out.rd.below (Nat.le_refl _) HB.out)
          have HPn := Lib.hid (show pA = none → pn = 0 ∧ pc = 0 from HP.out.nil)
          have HPc := Lib.hid (show prows.length = pn from HP.out.cnt)
          go_wp2_with (at_builtin; refine append_rowsT Try.underlying58 infoR rfl (by decide) (by decide) rfl _ _ rfl rfl rfl HO.out HRd.out HP.out.len HP.out.one HPn.out HPc.out (by omega) (by omega) hz ?_)
          intro A3 c3 w3 ho3 hb3 hg3
          have HO3 := Lib.hid (show w3.ownsRow w.heap.size 65 5 (.slice A3 (sumN (ps.take (k + 1))) c3) (sumN (ps.take (k + 1))) (catD (ps.take (k + 1))).flatten by
            rw [HS.out, HCt.out, List.flatten_append]; exact ho3)
          have HB3 := Lib.hid (HB.out.trans hb3)
          clear ho3 hb3 hg3
          go_wp2_with fail
          exact ⟨⟨k + 1, A3, c3, by omega, by go_num, by rw [HS.out], HO3.out, HB3.out⟩, by simp [intOf]; omega⟩
        · obtain rfl : n = k := by omega
          have e : ps.take n = ps := List.take_of_length_le (by rw [HL.out]; exact Nat.le_refl _)
          rw [e, HS0.out] at ho ⊢
          have HO := Lib.hid ho
          have HB := Lib.hid hb
          clear ho hb e
          go_wp2_with fail
          go_ret
          exact ⟨A2, c2, by rw [HS0.out]; (try rfl), by rw [HS0.out]; exact HO.out, HB.out⟩
end Go.Proofs.Ytgejjdkgeoojmaa.Tr

