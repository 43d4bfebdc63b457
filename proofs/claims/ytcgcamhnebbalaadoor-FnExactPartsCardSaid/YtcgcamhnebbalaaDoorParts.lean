/- Contracts of splitting at every space, in the model and in the program: the same list of strings. -/
import Derived.Test.YtcgcamhnebbalaaDoorStrs
import Derived.Lib.SplitLaws
namespace Go.Proofs.YtcgcamhnebbalaaDoor.Strs
open Go.RowKit
set_option linter.unusedVariables false

/-- the pieces between the spaces -/
def sp : List UInt8 → List (List UInt8)
  | [] => [[]]
  | c :: l => if c = 32 then [] :: sp l else (c :: (sp l).headD []) :: (sp l).tail
def glue (p : List UInt8) (q : List (List UInt8)) : List (List UInt8) := (p ++ q.headD []) :: q.tail
theorem sp_ne (l : List UInt8) : ∃ h t, sp l = h :: t := by
  cases l with
  | nil => exact ⟨_, _, rfl⟩
  | cons c l => rw [sp]; split <;> exact ⟨_, _, rfl⟩
theorem glue_nil (l : List UInt8) : glue [] (sp l) = sp l := by
  obtain ⟨h, t, e⟩ := sp_ne l
  rw [e]; simp [glue]
theorem glue_hit (p l : List UInt8) : glue p (sp (32 :: l)) = p :: sp l := by simp [sp, glue]
theorem glue_miss (p l : List UInt8) {c : UInt8} (h : c ≠ 32) : glue p (sp (c :: l)) = glue (p ++ [c]) (sp l) := by simp [sp, glue, h]
theorem glue_end (p : List UInt8) : glue p (sp []) = [p] := by simp [sp, glue]

theorem index_ne (b : UInt8) (r : List UInt8) (h : b ≠ 32) : Lib.index (b :: r) [32] = if Lib.index r [32] == -1 then -1 else Lib.index r [32] + 1 := by
  have hp : ([32] : List UInt8).isPrefixOf (b :: r) = false := by simp [List.isPrefixOf, Ne.symm h]
  rw [Lib.index, hp]; simp
theorem splitK_hit (k : Nat) (s : List UInt8) (i : Nat) (h : Lib.index s [32] = (i : Int)) : Lib.splitK [32] 0 (k + 1) s = s.take i :: Lib.splitK [32] 0 k (s.drop (i + 1)) := by
  have hm : ¬ (Lib.index s [32] == -1) = true := fun e => by have := beq_iff_eq.1 e; omega
  rw [Lib.splitK, if_neg hm]
  have e : (Lib.index s [32]).toNat = i := by omega
  rw [e]; simp
theorem split_sp (l : List UInt8) : Lib.splitK [32] 0 (Lib.count l [32]) l = sp l := by
  induction l with
  | nil => rw [Lib.count_miss (by simp [Lib.index])]; rfl
  | cons b r ih =>
    by_cases h : b = 32
    · subst h
      have hix : Lib.index (32 :: r) [32] = ((0 : Nat) : Int) := by rw [Lib.index]; simp [List.isPrefixOf]
      rw [Lib.count_cons_eq, Nat.add_comm, splitK_hit _ _ 0 hix]
      simp [sp, ih]
    · rw [Lib.count_cons_ne b 32 r h]
      rw [sp, if_neg h, ← ih]
      have hge := Lib.index_ge r [32]
      by_cases hm : Lib.index r [32] = -1
      · rw [Lib.count_miss hm]; rfl
      · obtain ⟨j, hj⟩ : ∃ j : Nat, Lib.index r [32] = j := ⟨(Lib.index r [32]).toNat, by omega⟩
        have hix : Lib.index (b :: r) [32] = ((j + 1 : Nat) : Int) := by rw [index_ne b r h, if_neg (fun e => hm (beq_iff_eq.1 e)), hj]; omega
        rw [Lib.count_hit (by simp) hj, Nat.add_comm, splitK_hit _ _ _ hix, splitK_hit _ _ _ hj]
        simp

theorem bytes_eq {a b : ByteArray} (h : a.data.toList = b.data.toList) : a = b := by
  have e : a.data = b.data := by rw [← Array.toArray_toList (xs := a.data), h, Array.toArray_toList]
  exact ByteArray.ext e
theorem map_eq : ∀ {xs ys : List ByteArray}, xs.map (·.data.toList) = ys.map (·.data.toList) → xs = ys
  | [], [], _ => rfl
  | [], y :: ys, h => by simp at h
  | x :: xs, [], h => by simp at h
  | x :: xs, y :: ys, h => by
    simp only [List.map_cons, List.cons.injEq] at h
    rw [bytes_eq h.1, map_eq h.2]
/-- the strings between the spaces of s -/
def pc (s : ByteArray) : List ByteArray := (sp s.data.toList).map fun l => ⟨l.toArray⟩
theorem pc_data (s : ByteArray) : (pc s).map (·.data.toList) = sp s.data.toList := by
  unfold pc; rw [List.map_map]; conv => rhs; rw [← List.map_id (sp s.data.toList)]
  rfl
theorem splitB_pc (s : ByteArray) : Lib.splitB ⟨#[32]⟩ 0 (Lib.countB s ⟨#[32]⟩) s = pc s := by
  apply map_eq
  rw [Lib.splitB_data, pc_data]
  exact split_sp s.data.toList
theorem sp_len (l : List UInt8) : (sp l).length ≤ l.length + 1 := by
  induction l with
  | nil => simp [sp]
  | cons c l ih =>
    obtain ⟨h, t, e⟩ := sp_ne l
    rw [sp]
    split
    · simp; omega
    · rw [e] at ih ⊢; simp at ih ⊢; omega
theorem pc_len (s : ByteArray) : (pc s).length ≤ s.size + 1 := by
  unfold pc; rw [List.length_map]
  have := sp_len s.data.toList
  simpa using this

theorem own_row {w : World} {base : Nat} {v : Value} {n : Nat} {xs : List ByteArray} (h : w.ownsRow base 9 1 v n (sv xs)) : ∃ A c, v = .slice A n c ∧ Own w base A n c xs := by
  rcases h.2 with ⟨rfl, rfl⟩ | ⟨g, cap, cur, rfl, _⟩
  · exact ⟨none, 0, rfl, h⟩
  · exact ⟨_, cap, rfl, h⟩
/-- 'out = append(out, s)', one string, which the walk has laid in a block of its own -/
theorem append_str {wr : World} {ops : Array Oper} {rest : List Oper} {o : Oper} {a : Act} {Q : Exit → Act → World → Prop} (hgd : o.guard = none) (s x : Operand)
    (ho : o.op = .call { callee := .builtin .append, args := #[s, x], argTypes := #[38, 38] })
    {base n c : Nat} {A : Option Addr} {xs : List ByteArray} {z : ByteArray} (hs : a.eval s = .slice A n c) (hx : a.eval x = .slice (some ⟨wr.heap.size, 0, none⟩) 1 1)
    (hown : Own wr base A n c xs) (hn : n ≤ 2199023255552) (hbase : base ≤ wr.heap.size)
    (h : ∀ A' c' w', Own w' base A' (n + 1) c' (xs ++ [z]) → Below base wr w' → wpList Tryd.prog ops Q rest (a.put o.dst (.slice A' (n + 1) c')) w') :
    wpList Tryd.prog ops Q (o :: rest) a (wr.alloc (.cells #[.string z] 9)) := by
  obtain ⟨i0, hi, hz0, hz1, hz2⟩ := info_parts strInfo
  refine wpList_append_own _ hgd s x 38 ho base 9 i0 (.string ⟨#[]⟩) 1 16 Tryd.underlying38 hi hz0 hz1 hz2 rfl (by decide) _ _ _ hs (World.ownsRow.alloc hown _) ⟨wr.heap.size, 0, none⟩ 1 1 (sv [z]) hx rfl ?_ ?_ ?_ ?_ ?_ ?_
  · intro j u hj
    match j, hj with
    | 0, hj => simp [sv] at hj; subst hj; simp [Addr.add]
  · intro u hu; simp [sv] at hu; subst hu; rfl
  · unfold maxLen; omega
  · omega
  · simp; omega
  · intro v' w' hown' hgrow _
    rw [show sv xs ++ sv [z] = sv (xs ++ [z]) by simp [sv]] at hown'
    obtain ⟨A', c', rfl, ho'⟩ := own_row hown'
    exact h A' c' w' ho' (((Below.refl _ _).alloc hbase _).grown hgrow (by simp; omega) (fun g hg => (World.ownsRow.lt hown g hg).1))

theorem drop_at (s : ByteArray) (k : Nat) (h : k < s.size) : s.data.toList.drop k = s[k] :: s.data.toList.drop (k + 1) := by
  rw [List.drop_eq_getElem_cons (by simpa using h)]; rfl
def cut (s : ByteArray) (a b : Nat) : List UInt8 := (s.data.toList.drop a).take (b - a)
theorem cut_snoc (s : ByteArray) (a k : Nat) (ha : a ≤ k) (h : k < s.size) : cut s a (k + 1) = cut s a k ++ [s[k]] := by
  unfold cut
  have hk : k - a < (s.data.toList.drop a).length := by simp; omega
  rw [show k + 1 - a = (k - a) + 1 by omega, List.take_succ_eq_append_getElem hk]
  congr 1
  simp [show a + (k - a) = k by omega]
  rfl
theorem cut_self (s : ByteArray) (a : Nat) : cut s a a = [] := by simp [cut]

theorem cut_extract (s : ByteArray) (a b : Nat) : (s.extract a b).data.toList = cut s a b := by
  rw [Lib.extract_data]; simp [cut]

set_option maxRecDepth 100000 in
set_option maxHeartbeats 1600000 in
theorem spec_any (s : ByteArray) (w : World) (hs : s.size ≤ 1048576) :
    Calls Tryd.prog 17 #[.string s] w fun e w' => ∃ A n c, e = .returned (.slice A n c) ∧ Own w' w.heap.size A n c (pc s) ∧ Below w.heap.size w w' := by
  have hown0 : Own (w.alloc (.cells #[] 9)) w.heap.size (some ⟨w.heap.size, 0, none⟩) 0 0 [] := World.ownsRow_lit w #[] 0 (Nat.le_refl _) (by decide) rfl
  have hb0 : Below w.heap.size w (w.alloc (.cells #[] 9)) := (Below.refl w.heap.size w).alloc (Nat.le_refl _) _
  go_enter Tryd.func17, Tryd.ntmps17
  go_wp2_with fail
  go_loopw [3, 4, 5] (fun v f i wr => ∃ (k a n2 c2 : Nat) (A2 : Option Addr) (done : List ByteArray), i = .int .i64 k ∧ k ≤ s.size ∧ f = .int .i64 a ∧ a ≤ k ∧ v = .slice A2 n2 c2 ∧ n2 ≤ k ∧ Own wr w.heap.size A2 n2 c2 done ∧
      done.map (·.data.toList) ++ glue (cut s a k) (sp (s.data.toList.drop k)) = sp s.data.toList ∧ Below w.heap.size w wr) (fun _ _ i _ => s.size - (intOf i).toNat)
  case atStart => exact ⟨0, 0, 0, 0, _, [], rfl, Nat.zero_le _, rfl, Nat.le_refl _, rfl, Nat.le_refl _, hown0, by rw [cut_self]; simp [glue_nil], hb0⟩
  case round =>
    obtain ⟨k, a, n2, c2, A2, done, rfl, hk, rfl, ha, rfl, hn2, ho, he, hb⟩ := hrel
    clear hown0 hb0
    have hbs := hb.size
    by_cases hlt : k < s.size
    · by_cases h32 : s[k] = 32
      · have HE := Lib.hid (show done.map (·.data.toList) ++ [cut s a k] ++ glue (cut s (k + 1) (k + 1)) (sp (s.data.toList.drop (k + 1))) = sp s.data.toList by
          rw [cut_self, glue_nil, ← he, drop_at s k hlt, h32, glue_hit]; simp)
        have heq : ((s[k].toNat : Int) == 32) = true := by rw [h32]; rfl
        have HB := Lib.hid hb
        clear he h32 hb
        go_wp2_with (at_builtin; refine append_str rfl _ _ rfl rfl rfl ho (by omega) (by omega) ?_)
        intro A3 c3 w3 ho3 hb3
        have hb4 := HB.out.trans hb3
        have HE2 := Lib.hid (show (done ++ [s.extract a k]).map (·.data.toList) ++ glue (cut s (k + 1) (k + 1)) (sp (s.data.toList.drop (k + 1))) = sp s.data.toList by
          rw [List.map_append, List.map_cons, List.map_nil, cut_extract]; exact HE.out)
        clear ho hb3
        go_wp2_with fail
        exact ⟨⟨k + 1, k + 1, _, c3, A3, _, by go_num, by omega, by go_num, Nat.le_refl _, rfl, by omega, ho3, HE2.out, hb4⟩, by simp [intOf]; omega⟩
      · have HE := Lib.hid (show done.map (·.data.toList) ++ glue (cut s a (k + 1)) (sp (s.data.toList.drop (k + 1))) = sp s.data.toList by
          rw [← he, drop_at s k hlt, glue_miss _ _ h32, cut_snoc s a k ha hlt])
        have hne : ¬ (s[k].toNat : Int) = 32 := fun e => h32 (by
          have : s[k].toNat = 32 := by omega
          exact UInt8.toNat_inj.1 this)
        have heq : ((s[k].toNat : Int) == 32) = false := by simpa using hne
        have HB := Lib.hid hb
        clear he h32 hb hne
        go_wp2_with fail
        exact ⟨⟨k + 1, a, n2, c2, A2, _, by go_num, by omega, rfl, by omega, rfl, by omega, ho, HE.out, HB.out⟩, by simp [intOf]; omega⟩
    · obtain rfl : s.size = k := by omega
      have HE := Lib.hid (show (done ++ [s.extract a s.size]).map (·.data.toList) = sp s.data.toList by
        rw [← he, List.drop_of_length_le (by simp), glue_end, List.map_append, List.map_cons, List.map_nil, cut_extract])
      have HB := Lib.hid hb
      clear he hb
      go_wp2_with (at_builtin; refine append_str rfl _ _ rfl rfl rfl ho (by omega) (by omega) ?_)
      intro A3 c3 w3 ho3 hb3
      have hb4 := HB.out.trans hb3
      have hpc : done ++ [s.extract a s.size] = pc s := map_eq (by rw [HE.out, pc_data])
      rw [hpc] at ho3
      clear ho hb3 hpc
      go_wp2_with fail
      go_ret
      exact ⟨A3, _, c3, rfl, ho3, hb4⟩
end Go.Proofs.YtcgcamhnebbalaaDoor.Strs
