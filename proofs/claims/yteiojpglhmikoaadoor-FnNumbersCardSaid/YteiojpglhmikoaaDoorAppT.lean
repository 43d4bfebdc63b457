/- A string appended to a slice of the call's own, in the program; lengths of slices at most 2^40. -/
import Derived.Test.YteiojpglhmikoaaDoorPutCore
import Derived.Test.YteiojpglhmikoaaDoorBytP
import Derived.Lib.AppendStr
namespace Go.Proofs.YteiojpglhmikoaaDoor.Var
open Go.RowKit Go.Proofs.YteiojpglhmikoaaDoor.Bytes
set_option linter.unusedVariables false

theorem byt_cells (s : ByteArray) : Lib.strCells s = bv (byt s) := by simp [Lib.strCells, bv, byt]

/-- 'out = append(out, s...)', s a string -/
theorem append_text {wr : World} {ops : Array Oper} {rest : List Oper} {o : Oper} {a : Act} {Q : Exit → Act → World → Prop} (hgd : o.guard = none) (s x : Operand)
    (ho : o.op = .call { callee := .builtin .append, args := #[s, x], argTypes := #[22, 9] })
    {base n c : Nat} {A : Option Addr} {xs : List Int} {t : ByteArray} (hs : a.eval s = .slice A n c) (hx : a.eval x = .string t)
    (hown : Own wr base A n c xs) (hn : n ≤ 2199023255552) (ht : t.size ≤ 2199023255552) (hbase : base ≤ wr.heap.size)
    (h : ∀ A' c' w', Own w' base A' (n + t.size) c' (xs ++ byt t) → Below base wr w' → wpList Tryd.prog ops Q rest (a.put o.dst (.slice A' (n + t.size) c')) w') :
    wpList Tryd.prog ops Q (o :: rest) a wr := by
  obtain ⟨i0, hi, hz0, hz1, hz2⟩ := info_parts Trydinfo
  refine Lib.wpList_append_own_string _ hgd s x 22 9 ho base 5 i0 Tryd.underlying22 Tryd.underlying9 hi hz0 hz1 hz2 _ _ _ hs hown t hx ?_ ?_ hbase ?_
  · unfold maxLen; omega
  · omega
  · intro v' w' hown' hgrow _
    rw [byt_cells, ← bv_app] at hown'
    obtain ⟨A', c', rfl, ho'⟩ := own_row hown'
    exact h A' c' w' ho' ((Below.refl _ _).grown hgrow hbase (own_block hown))

set_option maxRecDepth 100000 in
set_option maxHeartbeats 800000 in
theorem appendText_any (A : Option Addr) (n c base : Nat) (zs : List Int) (s : ByteArray) (w : World) (ho : Own w base A n c zs) (hbase : base ≤ w.heap.size) (hn : n ≤ 1099511627776) (hs : s.size ≤ 4000) :
    Calls Tryd.prog 33 #[.slice A n c, .string s] w fun e w' => ∃ A' n' c', e = .returned (.slice A' n' c') ∧ Own w' base A' n' c' (zs ++ vEnc s.size ++ byt s) ∧ Below base w w' := by
  have HL := Lib.hid ho.len
  go_enter Tryd.func33, Tryd.ntmps33
  go_wp2_with fail
  refine (appendVar_any A n c base zs s.size _ ho hbase hn (by omega)).mono ?_
  rintro e w1 ⟨A1, n1, c1, rfl, ho1, hb1⟩
  have hl1 := ho1.len
  rw [List.length_append, HL.out] at hl1
  have hv := vEnc_len5 (n := s.size) (by omega)
  have hn1 : n1 ≤ n + 5 := by omega
  have hbs := hb1.size
  clear hl1 hv ho
  go_wp2_with (at_builtin; refine append_text rfl _ _ rfl rfl rfl ho1 (by omega) (by omega) (by omega) ?_)
  intro A2 c2 w2 ho2 hb2
  have hb3 := hb1.trans hb2
  clear ho1 hb1 hb2
  go_wp2_with fail
  go_ret
  exact ⟨_, _, _, rfl, by rw [List.append_assoc]; exact ho2, hb3⟩

end Go.Proofs.YteiojpglhmikoaaDoor.Var

