/- Contracts of the reading of a journal, in the program and in the model. -/
import Derived.Test.YteiojpglhmikoaaJourPlain
import Derived.Test.YteiojpglhmikoaaFrameRead
import Derived.Test.YteiojpglhmikoaaFrameSpec
import Derived.Test.YteiojpglhmikoaaGetSpec
import Derived.Test.YteiojpglhmikoaaLoads
namespace Go.Proofs.Yteiojpglhmikoaa.Frame
open Go.RowKit Go.Proofs.Yteiojpglhmikoaa.Bytes Go.Proofs.Yteiojpglhmikoaa.Var Go.Proofs.Yteiojpglhmikoaa.Crc Go.Proofs.Yteiojpglhmikoaa.Loads
set_option linter.unusedVariables false

theorem sl_cell (gs : List LoadD) : ∀ u ∈ gs.map sl, u.oneCell' = true := by
  intro u hu; obtain ⟨g, _, rfl⟩ := List.mem_map.1 hu; rfl
theorem ownLo_row {w : World} {base : Nat} {v : Value} {n : Nat} {gs : List LoadD} (h : w.ownsRow base 32 1 v n (gs.map sl)) : ∃ A c, v = .slice A n c ∧ OwnLo w base A n c gs := by
  obtain ⟨A, c, rfl⟩ := own_shape h
  exact ⟨A, c, rfl, h⟩
/-- 'list = append(list, Load{..})', the load laid by the walk in a block of its own -/
theorem append_load {wr : World} {ops : Array Oper} {rest : List Oper} {o : Oper} {a : Act} {Q : Exit → Act → World → Prop} (hgd : o.guard = none) (s x : Operand)
    (ho : o.op = .call { callee := .builtin .append, args := #[s, x], argTypes := #[23, 23] })
    {base n c : Nat} {A : Option Addr} {gs : List LoadD} {g : LoadD} (hs : a.eval s = .slice A n c) (hx : a.eval x = .slice (some ⟨wr.heap.size, 0, none⟩) 1 1)
    (hown : OwnLo wr base A n c gs) (hn : n ≤ 2199023255552) (hbase : base ≤ wr.heap.size)
    (h : ∀ A' c' w', OwnLo w' base A' (n + 1) c' (gs ++ [g]) → Below base wr w' → (∀ base' fs, OwnBs wr base' fs → OwnBs w' base' fs) → wpList Try.prog ops Q rest (a.put o.dst (.slice A' (n + 1) c')) w') :
    wpList Try.prog ops Q (o :: rest) a (wr.alloc (.cells #[.slice g.A g.n g.c] 32)) := by
  obtain ⟨i0, hi, hz0, hz1, hz2⟩ := info_parts loadInfo
  have hoa := World.ownsRow.alloc hown (.cells #[.slice g.A g.n g.c] 32)
  refine wpList_append_own _ hgd s x 23 ho base 32 i0 (.agg #[.slice none 0 0]) 1 24 Try.underlying23 hi hz0 hz1 hz2 rfl (by decide) _ _ _ hs hoa ⟨wr.heap.size, 0, none⟩ 1 1 ([g].map sl) hx rfl ?_ (sl_cell [g]) ?_ ?_ ?_ ?_
  · intro j u hj
    match j, hj with
    | 0, hj => simp [sl] at hj; subst hj; simp [Addr.add]
  · unfold maxLen; omega
  · omega
  · simp; omega
  · intro v' w' hown' hgrow _
    rw [← List.map_append] at hown'
    obtain ⟨A', c', rfl, ho'⟩ := ownLo_row hown'
    refine h A' c' w' ho' (((Below.refl _ _).alloc hbase _).grown hgrow (by simp; omega) (fun k hk => (World.ownsRow.lt hown k hk).1)) (fun base' fs hfs => ⟨fun f hf => ?_, hfs.2⟩)
    have h1 : Own (wr.alloc (.cells #[.slice g.A g.n g.c] 32)) base' f.A f.n f.c f.bytes := (hfs.1 f hf).below (Nat.le_refl _) ((Below.refl _ _).alloc (Nat.le_refl _) _)
    refine World.ownsRow.kept h1 hgrow ?_
    rcases hb : (Value.slice f.A f.n f.c).ownBlock with _ | b
    · exact .inl rfl
    · exact .inr fun e => own_ne h1 hoa (by decide) b hb e.symm

set_option maxRecDepth 100000 in
set_option maxHeartbeats 3200000 in
theorem impl_JournalRead_any (A : Option Addr) (n c : Nat) (zs : List Int) (s : Int) (w : World) (hr : Rd w w.heap.size A zs) (hg : Rng zs) (hl : zs.length = n) (hn : n ≤ 1099511627776) (hnc : n ≤ c) (h1 : -9223372036854775808 ≤ s) (h2 : s ≤ 9223372036854775807) :
    Calls Try.prog 13 #[.slice A n c, .int .i64 s] w fun e w' => ∃ A' n' c' gs, e = .returned (.tuple #[.slice A' n' c', .int .i64 (jE zs s)]) ∧ OwnLo w' w.heap.size A' n' c' gs ∧ OwnBs w' w.heap.size gs ∧ gs.map (·.bytes) = jL zs s ∧ Below w.heap.size w w' := by
  have HL := Lib.hid hl
  have HR := Lib.hid hr
  clear hl hr
  go_enter Try.func13, Try.ntmps13
  go_wp2_with fail
  go_loopw [6, 7] (fun v p wr => ∃ (f : Nat) (gs : List LoadD) (a : Int) (A2 : Option Addr) (n2 c2 : Nat), v = .slice A2 n2 c2 ∧ p = .int .i64 a ∧ OwnLo wr w.heap.size A2 n2 c2 gs ∧ OwnBs wr w.heap.size gs ∧ Hid (gs.map (·.bytes) ++ jrL f zs (s + n2) a = jL zs s ∧ jrE f zs (s + n2) a = jE zs s) ∧ 0 ≤ a ∧ a ≤ n ∧ n + 1 ≤ f + a ∧ (n2 : Int) ≤ a ∧ (0 < n2 → s + n2 ≤ 1000000001) ∧ Below w.heap.size w wr) (fun _ p _ => n + 1 - (intOf p).toNat)
  case atStart => exact ⟨zs.length + 1, [], 0, none, 0, 0, rfl, rfl, World.ownsRow_nil w _ _ _, OwnBs.nil _ _, Lib.hid ⟨by simp [jL], by simp [jE]⟩, by omega, by omega, by have := HL.out; omega, by omega, fun h => by omega, Below.refl _ _⟩
  case round =>
    obtain ⟨f, gs, a, A2, n2, c2, rfl, rfl, ho, hbs, HJ, ha0, han, hfa, hna, hsn, hb⟩ := hrel
    have hz : w.heap.size ≤ wr.heap.size := hb.size
    have hb1 : -9223372036854775808 ≤ s + n2 := by omega
    have hb2 : s + n2 ≤ 9223372036854775807 := by
      by_cases h0 : 0 < n2
      · have := hsn h0; omega
      · omega
    have HRw := Lib.hid ((HR.out.below (Nat.le_refl _) hb).more hz)
    have HO := Lib.hid ho
    have HBS := Lib.hid hbs
    have HB := Lib.hid hb
    have HSN := Lib.hid hsn
    clear ho hbs hb hsn
    by_cases hC : frC zs a = 0
    · have hN := jNext hC
      rw [HL.out] at hN
      obtain ⟨g1, g2, g3, g4, g5, g6⟩ := hN
      have HC := Lib.hid hC
      by_cases hS : frSeq zs a = s + n2
      · have hst := jStep_mk hC hS
        obtain ⟨f, rfl⟩ : ∃ m, f = m + 1 := ⟨f - 1, by omega⟩
        have HJ2 := Lib.hid (show (gs.map (·.bytes) ++ [frData zs a]) ++ jrL f zs (s + (n2 + 1 : Nat)) (frNext zs a) = jL zs s ∧ jrE f zs (s + (n2 + 1 : Nat)) (frNext zs a) = jE zs s by
          have h1 := HJ.out
          rw [jrL_succ hst, jrE_succ hst] at h1
          rw [List.append_assoc, show s + ((n2 + 1 : Nat) : Int) = s + n2 + 1 by omega]; exact h1)
        have HS := Lib.hid hS
        clear hC hst hS HJ
        have heq : ((s + (n2 : Int)) != (s + (n2 : Int))) = false := by simp
        go_wp2_with fail
        refine (impl_FrameRead_any A n c zs a _ HRw.out hg HL.out hn hnc (by omega) (by omega)).mono ?_
        rintro e v ⟨A3, n3, c3, he, ho3, hx3⟩
        rw [HC.out, HS.out] at he
        subst he
        have ho3l := HO.out.below (Nat.le_refl _) hx3
        have HBS3 := Lib.hid (OwnBs.snoc (g := ⟨A3, n3, c3, frData zs a⟩) HBS.out hx3 ho3 (Nat.le_refl _) hz)
        have HB3 := Lib.hid (HB.out.trans (hx3.mono hz))
        have hs3 := HB3.out.size
        have HS2 := Lib.hid (show frSeq zs a = s + n2 from HS.out)
        clear ho3 hx3
        generalize frNext zs a = nx at *
        generalize frData zs a = dat at *
        go_wp2_with (at_builtin; refine append_load (g := ⟨A3, n3, c3, dat⟩) rfl _ _ rfl rfl rfl ho3l (by omega) hs3 ?_)
        intro A5 c5 w5 ho5 hx5 hk5
        have HO5 := Lib.hid ho5
        have HBS5 := Lib.hid (hk5 _ _ HBS3.out)
        have HB5 := Lib.hid (HB3.out.trans hx5)
        have hle : s + n2 ≤ 1000000000 := by rw [← HS.out]; exact g5
        clear ho3l ho5 hx5 hk5
        have HM := Lib.hid (show (gs ++ [(⟨A3, n3, c3, dat⟩ : LoadD)]).map (·.bytes) = gs.map (·.bytes) ++ [dat] by simp)
        go_wp2_with fail
        exact ⟨⟨f, gs ++ [⟨A3, n3, c3, dat⟩], nx, A5, n2 + 1, c5, rfl, rfl, HO5.out, HBS5.out, Lib.hid (by rw [HM.out]; exact HJ2.out), by omega, by omega, by omega, by omega, fun _ => by omega, HB5.out⟩, by simp [intOf]; omega⟩
      · have hst := jStep_no2 (zs := zs) (s := s + n2) (a := a) hS
        have HF := Lib.hid (show gs.map (·.bytes) = jL zs s ∧ a = jE zs s by
      have h1 := HJ.out
      rw [jrL_stop hst, jrE_stop hst, List.append_nil] at h1; exact h1)
        have HS := Lib.hid hS
        have hne : (frSeq zs a != s + (n2 : Int)) = true := by simp; exact hS
        clear hC hst hS HJ
        go_wp2_with fail
        refine (impl_FrameRead_any A n c zs a _ HRw.out hg HL.out hn hnc (by omega) (by omega)).mono ?_
        rintro e v ⟨A3, n3, c3, he, ho3, hx3⟩
        rw [HC.out] at he
        subst he
        have HO3 := Lib.hid (HO.out.below (Nat.le_refl _) hx3)
        have HBS3 := Lib.hid (HBS.out.below (Nat.le_refl _) hx3)
        have HB3 := Lib.hid (HB.out.trans (hx3.mono hz))
        clear ho3 hx3
        go_wp2_with fail
        go_ret2
        exact ⟨_, _, _, gs, by rw [← HF.out.2]; rfl, HO3.out, HBS3.out, HF.out.1, HB3.out⟩
    · have hst := jStep_no1 (zs := zs) (s := s + n2) (a := a) hC
      have HF := Lib.hid (show gs.map (·.bytes) = jL zs s ∧ a = jE zs s by
        have h1 := HJ.out
        rw [jrL_stop hst, jrE_stop hst, List.append_nil] at h1; exact h1)
      obtain ⟨C, hCC⟩ : ∃ C, C = frC zs a := ⟨_, rfl⟩
      have hne : ((C : Int) != 0) = true := by simp; omega
      have HC := Lib.hid hCC.symm
      have HC0 := Lib.hid hC
      clear hC hst hCC HJ
      go_wp2_with fail
      refine (impl_FrameRead_any A n c zs a _ HRw.out hg HL.out hn hnc (by omega) (by omega)).mono ?_
      rintro e v ⟨A3, n3, c3, he, ho3, hx3⟩
      rw [HC.out] at he
      subst he
      have HO3 := Lib.hid (HO.out.below (Nat.le_refl _) hx3)
      have HBS3 := Lib.hid (HBS.out.below (Nat.le_refl _) hx3)
      have HB3 := Lib.hid (HB.out.trans (hx3.mono hz))
      clear ho3 hx3
      go_wp2_with fail
      go_ret2
      exact ⟨_, _, _, gs, by rw [← HF.out.2]; rfl, HO3.out, HBS3.out, HF.out.1, HB3.out⟩

end Go.Proofs.Yteiojpglhmikoaa.Frame

