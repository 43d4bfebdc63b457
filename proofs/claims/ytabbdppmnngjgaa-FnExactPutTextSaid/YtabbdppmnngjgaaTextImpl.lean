/- Contracts of the encoding of strings, in the program; lengths of slices at most 2^40. -/
import Derived.Test.YtabbdppmnngjgaaCloneB
import Derived.Test.YtabbdppmnngjgaaPutCore
import Derived.Lib.AppendStr
namespace Go.Proofs.Ytabbdppmnngjgaa.Var
open Go.RowKit Go.Proofs.Ytabbdppmnngjgaa.Bytes
set_option linter.unusedVariables false

def byt (s : ByteArray) : List Int := s.data.toList.map fun b => (b.toNat : Int)
theorem byt_cells (s : ByteArray) : Lib.strCells s = bv (byt s) := by simp [Lib.strCells, bv, byt]
theorem byt_len (s : ByteArray) : (byt s).length = s.size := by simp [byt]
theorem byt_rng (s : ByteArray) : ∀ z ∈ byt s, 0 ≤ z ∧ z < 256 := by
  intro z hz
  unfold byt at hz
  obtain ⟨b, _, rfl⟩ := List.mem_map.1 hz
  have := b.toNat_lt
  omega

/-- 'out = append(out, s...)', s a string -/
theorem append_text {wr : World} {ops : Array Oper} {rest : List Oper} {o : Oper} {a : Act} {Q : Exit → Act → World → Prop} (hgd : o.guard = none) (s x : Operand)
    (ho : o.op = .call { callee := .builtin .append, args := #[s, x], argTypes := #[22, 9] })
    {base n c : Nat} {A : Option Addr} {xs : List Int} {t : ByteArray} (hs : a.eval s = .slice A n c) (hx : a.eval x = .string t)
    (hown : Own wr base A n c xs) (hn : n ≤ 2199023255552) (ht : t.size ≤ 2199023255552) (hbase : base ≤ wr.heap.size)
    (h : ∀ A' c' w', Own w' base A' (n + t.size) c' (xs ++ byt t) → Below base wr w' → wpList Try.prog ops Q rest (a.put o.dst (.slice A' (n + t.size) c')) w') :
    wpList Try.prog ops Q (o :: rest) a wr := by
  obtain ⟨i0, hi, hz0, hz1, hz2⟩ := info_parts Tryinfo
  refine Lib.wpList_append_own_string _ hgd s x 22 9 ho base 5 i0 Try.underlying22 Try.underlying9 hi hz0 hz1 hz2 _ _ _ hs hown t hx ?_ ?_ hbase ?_
  · unfold maxLen; omega
  · omega
  · intro v' w' hown' hgrow _
    rw [byt_cells, ← bv_app] at hown'
    obtain ⟨A', c', rfl, ho'⟩ := own_row hown'
    exact h A' c' w' ho' ((Below.refl _ _).grown hgrow hbase (own_block hown))

set_option maxRecDepth 100000 in
set_option maxHeartbeats 800000 in
theorem appendText_any (A : Option Addr) (n c base : Nat) (zs : List Int) (s : ByteArray) (w : World) (ho : Own w base A n c zs) (hbase : base ≤ w.heap.size) (hn : n ≤ 1099511627776) (hs : s.size ≤ 4000) :
    Calls Try.prog 34 #[.slice A n c, .string s] w fun e w' => ∃ A' n' c', e = .returned (.slice A' n' c') ∧ Own w' base A' n' c' (zs ++ vEnc s.size ++ byt s) ∧ Below base w w' := by
  have HL := Lib.hid ho.len
  go_enter Try.func34, Try.ntmps34
  go_wp2_with fail
  refine (appendVar_any A n c base zs s.size _ ho hbase hn (by omega)).mono ?_
  rintro e w1 ⟨A1, n1, c1, rfl, ho1, hb1⟩
  have hl1 := ho1.len
  rw [List.length_append, HL.out] at hl1
  have hv := vEnc_len5 (n := s.size) (by omega)
  have hn1 : n1 ≤ n + 5 := by omega
  have hbs := hb1.size
  clear hl1 hv ho
  go_wp2_with (at_builtin; refine append_text rfl _ _ rfl rfl rfl ho1 (by omega) (by omega) (by omega) ?_)
  intro A2 c2 w2 ho2 hb2
  have hb3 := hb1.trans hb2
  clear ho1 hb1 hb2
  go_wp2_with fail
  go_ret
  exact ⟨_, _, _, rfl, by rw [List.append_assoc]; exact ho2, hb3⟩

/-! ### PutText -/
def ptB (s : ByteArray) : Bool := decide (s.size ≤ 4000)
def ptO (zs : List Int) (s : ByteArray) : List Int := if s.size ≤ 4000 then zs ++ vEnc s.size ++ byt s else []
theorem ptO_len (zs : List Int) (s : ByteArray) : (ptO zs s).length ≤ zs.length + 4005 := by
  unfold ptO; split
  · rw [List.length_append, List.length_append, byt_len]; have := vEnc_len5 (n := s.size) (by omega); omega
  · simp
set_option maxRecDepth 100000 in
set_option maxHeartbeats 800000 in
theorem impl_PutText_any (A : Option Addr) (n c : Nat) (zs : List Int) (s : ByteArray) (w : World) (hA : A = none → n = 0 ∧ c = 0) (hr : Rd w w.heap.size A zs) (hl : zs.length = n) (hn : n ≤ 1099511627776) (hs : s.size ≤ maxLen) :
    Calls Try.prog 11 #[.slice A n c, .string s] w fun e w' => ∃ A' n' c', e = .returned (.tuple #[.slice A' n' c', .bool (ptB s)]) ∧ Own w' w.heap.size A' n' c' (ptO zs s) ∧ Below w.heap.size w w' := by
  unfold maxLen at hs
  by_cases h4 : s.size ≤ 4000
  · have e1 : ptB s = true := decide_eq_true h4
    have e2 : ptO zs s = zs ++ vEnc s.size ++ byt s := by unfold ptO; rw [if_pos h4]
    rw [e1, e2]
    have HL := Lib.hid hl
    have HA := Lib.hid hA
    clear hl hA e1 e2
    go_enter Try.func11, Try.ntmps11
    go_wp2_with fail
    refine (clone_any A n c zs _ HA.out hr HL.out hn).mono ?_
    rintro e w0 ⟨A0, c0, rfl, ho0, hb0⟩
    have hbs0 := hb0.size
    go_wp2_with fail
    refine (appendText_any A0 n c0 w.heap.size zs s _ ho0 (by omega) hn h4).mono ?_
    rintro e w1 ⟨A1, n1, c1, rfl, ho1, hb1⟩
    have hb3 := hb0.trans hb1
    clear ho0 hb0 hb1 hr
    go_wp2_with fail
    go_ret2
    exact ⟨_, _, _, rfl, ho1, hb3⟩
  · have e1 : ptB s = false := decide_eq_false h4
    have e2 : ptO zs s = [] := by unfold ptO; rw [if_neg h4]
    rw [e1, e2]
    have h5 : 4000 < s.size := by omega
    clear h4 e1 e2
    go_enter Try.func11, Try.ntmps11
    go_wp2_with fail
    go_ret2
    exact ⟨none, 0, 0, rfl, own_nil _ _, Below.refl _ _⟩

end Go.Proofs.Ytabbdppmnngjgaa.Var
