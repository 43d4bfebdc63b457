/- Contracts of the writing of a journal, in the program and in the model. -/
import Derived.Test.YteiojpglhmikoaaJourPlain
import Derived.Test.YteiojpglhmikoaaFrameSpec
import Derived.Test.YteiojpglhmikoaaLoads
namespace Go.Proofs.Yteiojpglhmikoaa.Frame
open Go.RowKit Go.Proofs.Yteiojpglhmikoaa.Bytes Go.Proofs.Yteiojpglhmikoaa.Var Go.Proofs.Yteiojpglhmikoaa.Crc Go.Proofs.Yteiojpglhmikoaa.Loads
set_option linter.unusedVariables false

set_option maxRecDepth 100000 in
set_option maxHeartbeats 3200000 in
theorem impl_JournalBytes_any (F : Option Addr) (n c : Nat) (gs : List LoadD) (ls : List (List Int)) (s : Int) (w : World) (hr : RdLo w w.heap.size F gs) (hl : gs.length = n) (hn : n ≤ 1048576) (hbs : RdBs w w.heap.size gs) (hA : ∀ g ∈ gs, g.A = none → g.n = 0 ∧ g.c = 0) (hgn : ∀ g ∈ gs, g.n ≤ 1099511627776)
    (hls : gs.map (·.bytes) = ls) (h64 : -9223372036854775808 ≤ s ∧ s ≤ 9223372036854775807) :
    Calls Try.prog 12 #[.int .i64 s, .slice F n c] w fun e w' => ∃ A' n' c', e = .returned (.tuple #[.slice A' n' c', .bool (jrK s ls)]) ∧ Own w' w.heap.size A' n' c' (jrO s ls) ∧ Below w.heap.size w w' := by
  have HL := Lib.hid hl
  have HR := Lib.hid hr
  have HBS := Lib.hid hbs
  have HA := Lib.hid hA
  have HGN := Lib.hid hgn
  have HLS := Lib.hid (show ls.length = n by rw [← hls, List.length_map]; exact hl)
  have HAT := Lib.hid (show ∀ (k : Nat) (h : k < gs.length) (h' : k < ls.length), ls[k] = gs[k].bytes by intro k h h'; subst hls; simp)
  clear hl hr hbs hA hgn hls
  go_enter Try.func12, Try.ntmps12
  go_wp2_with fail
  go_loopw [6, 13] (fun v i wr => ∃ (k : Nat) (A2 : Option Addr) (n2 c2 : Nat), k ≤ n ∧ i = .int .i64 k ∧ v = .slice A2 n2 c2 ∧ Own wr w.heap.size A2 n2 c2 (jrB s (ls.take k)) ∧ jrK s (ls.take k) = true ∧ Below w.heap.size w wr) (fun _ i _ => n - (intOf i).toNat)
  case atStart => exact ⟨0, none, 0, 0, Nat.zero_le _, rfl, rfl, own_nil _ _, rfl, Below.refl _ _⟩
  case round =>
    obtain ⟨k, A2, n2, c2, hk, rfl, rfl, ho2, hjk, hb⟩ := hrel
    have hz : w.heap.size ≤ wr.heap.size := hb.size
    have hl2 := ho2.len
    have hjl := jrB_len (ls.take k) s
    rw [List.length_take, HLS.out, Nat.min_eq_left hk] at hjl
    by_cases hlt : k < n
    · have hlt' : k < gs.length := by rw [HL.out]; exact hlt
      have hlt2 : k < ls.length := by rw [HLS.out]; exact hlt
      have hsk : -9223372036854775808 ≤ s + k ∧ s + k ≤ 9223372036854775807 := by
        by_cases h0 : 0 < k
        · have := jrK_range (ls.take k) s hjk (by rw [List.length_take, HLS.out]; omega)
          rw [List.length_take, HLS.out, Nat.min_eq_left hk] at this
          omega
        · obtain rfl : k = 0 := by omega
          simpa using h64
      obtain ⟨hsk1, hsk2⟩ := hsk
      have hn2 : n2 ≤ 62931337216 := by omega
      obtain ⟨b, o, rfl, hB, hc0⟩ := (HR.out.below (Nat.le_refl _) hb).at_ hlt'
      have hg := HBS.out _ (List.getElem_mem hlt')
      have hal : Below wr.heap.size wr (wr.alloc (.cells #[.slice gs[k].A gs[k].n gs[k].c] 32)) := (Below.refl _ _).alloc (Nat.le_refl _) _
      have HRb := Lib.hid (((hg.1.below (Nat.le_refl _) hb).more hz).below (Nat.le_refl _) hal |>.more hal.size)
      have HRl := Lib.hid hg.2.1
      have HRg := Lib.hid hg.2.2
      have HRn := HGN.out _ (List.getElem_mem hlt')
      have HRA := Lib.hid (HA.out _ (List.getElem_mem hlt'))
      have HE := Lib.hid (HAT.out k hlt' hlt2)
      have HO := Lib.hid (ho2.below (Nat.le_refl _) hal)
      have HB := Lib.hid (hb.trans (hal.mono hz))
      have HALS := Lib.hid hal.size
      have HJK := Lib.hid hjk
      clear ho2 hb hal hg hl2 hjl hjk
      cases hfk : frK (s + k) (gs[k].bytes).length
      · have HFK := Lib.hid hfk
        have HF := Lib.hid (jr_fail (l := ls) (s := s) (k := k) hlt2 (by rw [HE.out]; exact hfk))
        clear hfk
        generalize gs[k].A = x1 at *
        generalize gs[k].n = x2 at *
        generalize gs[k].c = x3 at *
        generalize gs[k].bytes = zs at *
        go_wp2_with fail
        refine (impl_FrameBytes_any x1 x2 x3 zs (s + k) _ HRA.out HRb.out HRg.out HRl.out HRn).mono ?_
        rintro e v ⟨A3, n3, c3, he, ho3, hx3⟩
        rw [HFK.out] at he
        subst he
        have HB3 := Lib.hid (HB.out.trans (hx3.mono (Nat.le_trans hz HALS.out)))
        clear ho3 hx3
        go_wp2_with fail
        go_ret2
        exact ⟨none, 0, 0, by rw [HF.out]; rfl, by unfold jrO; rw [HF.out]; exact own_nil _ _, HB3.out⟩
      · have HFK := Lib.hid hfk
        have hq1 := (of_frK hfk).1
        have hq2 := (of_frK hfk).2.1
        have HJ := Lib.hid (jr_step (l := ls) (s := s) (k := k) hlt2 HJK.out (by rw [HE.out]; exact hfk))
        clear hfk
        have HJ2 := Lib.hid (show jrB s (ls.take (k + 1)) = jrB s (ls.take k) ++ frO (s + k) gs[k].bytes by rw [HJ.out.2, HE.out])
        have hfl := frO_len (s + k) gs[k].bytes
        generalize gs[k].A = x1 at *
        generalize gs[k].n = x2 at *
        generalize gs[k].c = x3 at *
        generalize gs[k].bytes = zs at *
        go_wp2_with fail
        refine (impl_FrameBytes_any x1 x2 x3 zs (s + k) _ HRA.out HRb.out HRg.out HRl.out HRn).mono ?_
        rintro e v ⟨A3, n3, c3, he, ho3, hx3⟩
        rw [HFK.out] at he
        subst he
        have HB3 := Lib.hid (HB.out.trans (hx3.mono (Nat.le_trans hz HALS.out)))
        have ho2v := HO.out.below (Nat.le_refl _) hx3
        have hr3 := ho3.rd
        have hl3 := ho3.len
        have hA3 := own_none ho3
        have hs3 := HB3.out.size
        have hn3 : n3 ≤ 60016 := by omega
        clear hx3 hfl
        go_wp2_with (at_builtin; refine append_src rfl _ _ rfl rfl rfl ho2v hr3 hA3 hl3 (by omega) (by omega) hs3 ?_)
        intro A4 c4 v4 ho4 hx4
        have HO4 := Lib.hid (show Own v4 w.heap.size A4 (n2 + n3) c4 (jrB s (ls.take (k + 1))) by rw [HJ2.out]; exact ho4)
        have HB4 := Lib.hid (HB3.out.trans hx4)
        clear ho2v hr3 hA3 ho4 hx4 hl3 ho3
        go_wp2_with fail
        exact ⟨⟨k + 1, A4, _, c4, by omega, by go_num, rfl, HO4.out, HJ.out.1, HB4.out⟩, by simp [intOf]; omega⟩
    · obtain rfl : n = k := by omega
      have e : ls.take n = ls := List.take_of_length_le (by rw [HLS.out]; exact Nat.le_refl _)
      rw [e] at ho2 hjk
      have HO := Lib.hid ho2
      have HB := Lib.hid hb
      have HJK := Lib.hid hjk
      clear ho2 hb e hjl hl2 hjk
      go_wp2_with fail
      go_ret2
      exact ⟨_, _, _, by rw [HJK.out]; rfl, by unfold jrO; rw [if_pos HJK.out]; exact HO.out, HB.out⟩

set_option maxRecDepth 100000 in
set_option maxHeartbeats 3200000 in
theorem spec_JournalBytes_any (F : Option Addr) (n c : Nat) (gs : List LoadD) (ls : List (List Int)) (s : Int) (w : World) (hr : RdLo w w.heap.size F gs) (hl : gs.length = n) (hn : n ≤ 1048576) (hbs : RdBs w w.heap.size gs) (hA : ∀ g ∈ gs, g.A = none → g.n = 0 ∧ g.c = 0) (hgn : ∀ g ∈ gs, g.n ≤ 1099511627776)
    (hls : gs.map (·.bytes) = ls) (h64 : -9223372036854775808 ≤ s ∧ s ≤ 9223372036854775807) :
    Calls Try.prog 22 #[.int .i64 s, .slice F n c] w fun e w' => ∃ A' n' c', e = .returned (.tuple #[.slice A' n' c', .bool (jrK s ls)]) ∧ Own w' w.heap.size A' n' c' (jrO s ls) ∧ Below w.heap.size w w' := by
  have HL := Lib.hid hl
  have HR := Lib.hid hr
  have HBS := Lib.hid hbs
  have HA := Lib.hid hA
  have HGN := Lib.hid hgn
  have HLS := Lib.hid (show ls.length = n by rw [← hls, List.length_map]; exact hl)
  have HAT := Lib.hid (show ∀ (k : Nat) (h : k < gs.length) (h' : k < ls.length), ls[k] = gs[k].bytes by intro k h h'; subst hls; simp)
  clear hl hr hbs hA hgn hls
  have hown0 : Own (w.alloc (.cells #[] 5)) w.heap.size (some ⟨w.heap.size, 0, none⟩) 0 0 [] := World.ownsRow_lit w #[] 0 (Nat.le_refl _) (by decide) rfl
  have hbw : Below w.heap.size w (w.alloc (.cells #[] 5)) := (Below.refl _ _).alloc (Nat.le_refl _) _
  have HOW := Lib.hid hown0
  have HBW := Lib.hid hbw
  clear hown0 hbw
  go_enter Try.func22, Try.ntmps22
  go_wp2_with fail
  go_loopw [0, 6, 14] (fun q v i wr => ∃ (k : Nat) (A2 : Option Addr) (n2 c2 : Nat), k ≤ n ∧ i = .int .i64 k ∧ q = .int .i64 (s + k) ∧ v = .slice A2 n2 c2 ∧ Own wr w.heap.size A2 n2 c2 (jrB s (ls.take k)) ∧ jrK s (ls.take k) = true ∧ Below w.heap.size w wr) (fun _ _ i _ => n - (intOf i).toNat)
  case atStart => exact ⟨0, _, 0, 0, Nat.zero_le _, rfl, by go_num, rfl, HOW.out, rfl, HBW.out⟩
  case round =>
    obtain ⟨k, A2, n2, c2, hk, rfl, rfl, rfl, ho2, hjk, hb⟩ := hrel
    have hz : w.heap.size ≤ wr.heap.size := hb.size
    have hl2 := ho2.len
    have hjl := jrB_len (ls.take k) s
    rw [List.length_take, HLS.out, Nat.min_eq_left hk] at hjl
    by_cases hlt : k < n
    · have hlt' : k < gs.length := by rw [HL.out]; exact hlt
      have hlt2 : k < ls.length := by rw [HLS.out]; exact hlt
      have hsk : -9223372036854775808 ≤ s + k ∧ s + k ≤ 9223372036854775807 := by
        by_cases h0 : 0 < k
        · have := jrK_range (ls.take k) s hjk (by rw [List.length_take, HLS.out]; omega)
          rw [List.length_take, HLS.out, Nat.min_eq_left hk] at this
          omega
        · obtain rfl : k = 0 := by omega
          simpa using h64
      obtain ⟨hsk1, hsk2⟩ := hsk
      have hn2 : n2 ≤ 62931337216 := by omega
      obtain ⟨b, o, rfl, hB, hc0⟩ := (HR.out.below (Nat.le_refl _) hb).at_ hlt'
      have hg := HBS.out _ (List.getElem_mem hlt')
      have hal : Below wr.heap.size wr (wr.alloc (.cells #[.slice gs[k].A gs[k].n gs[k].c] 32)) := (Below.refl _ _).alloc (Nat.le_refl _) _
      have HRb := Lib.hid (((hg.1.below (Nat.le_refl _) hb).more hz).below (Nat.le_refl _) hal |>.more hal.size)
      have HRl := Lib.hid hg.2.1
      have HRg := Lib.hid hg.2.2
      have HRn := HGN.out _ (List.getElem_mem hlt')
      have HRA := Lib.hid (HA.out _ (List.getElem_mem hlt'))
      have HE := Lib.hid (HAT.out k hlt' hlt2)
      have HO := Lib.hid (ho2.below (Nat.le_refl _) hal)
      have HB := Lib.hid (hb.trans (hal.mono hz))
      have HALS := Lib.hid hal.size
      have HJK := Lib.hid hjk
      clear ho2 hb hal hg hl2 hjl hjk
      cases hfk : frK (s + k) (gs[k].bytes).length
      · have HFK := Lib.hid hfk
        have HF := Lib.hid (jr_fail (l := ls) (s := s) (k := k) hlt2 (by rw [HE.out]; exact hfk))
        clear hfk
        generalize gs[k].A = x1 at *
        generalize gs[k].n = x2 at *
        generalize gs[k].c = x3 at *
        generalize gs[k].bytes = zs at *
        go_wp2_with fail
        refine (spec_FrameBytes_any x1 x2 x3 zs (s + k) _ HRA.out HRb.out HRg.out HRl.out HRn).mono ?_
        rintro e v ⟨A3, n3, c3, he, ho3, hx3⟩
        rw [HFK.out] at he
        subst he
        have HB3 := Lib.hid (HB.out.trans (hx3.mono (Nat.le_trans hz HALS.out)))
        clear ho3 hx3
        go_wp2_with fail
        go_ret2
        exact ⟨none, 0, 0, by rw [HF.out]; rfl, by unfold jrO; rw [HF.out]; exact own_nil _ _, HB3.out⟩
      · have HFK := Lib.hid hfk
        have hq1 := (of_frK hfk).1
        have hq2 := (of_frK hfk).2.1
        have HJ := Lib.hid (jr_step (l := ls) (s := s) (k := k) hlt2 HJK.out (by rw [HE.out]; exact hfk))
        clear hfk
        have HJ2 := Lib.hid (show jrB s (ls.take (k + 1)) = jrB s (ls.take k) ++ frO (s + k) gs[k].bytes by rw [HJ.out.2, HE.out])
        have hfl := frO_len (s + k) gs[k].bytes
        generalize gs[k].A = x1 at *
        generalize gs[k].n = x2 at *
        generalize gs[k].c = x3 at *
        generalize gs[k].bytes = zs at *
        go_wp2_with fail
        refine (spec_FrameBytes_any x1 x2 x3 zs (s + k) _ HRA.out HRb.out HRg.out HRl.out HRn).mono ?_
        rintro e v ⟨A3, n3, c3, he, ho3, hx3⟩
        rw [HFK.out] at he
        subst he
        have HB3 := Lib.hid (HB.out.trans (hx3.mono (Nat.le_trans hz HALS.out)))
        have ho2v := HO.out.below (Nat.le_refl _) hx3
        have hr3 := ho3.rd
        have hl3 := ho3.len
        have hA3 := own_none ho3
        have hs3 := HB3.out.size
        have hn3 : n3 ≤ 60016 := by omega
        clear hx3 hfl
        go_wp2_with (at_builtin; refine append_src rfl _ _ rfl rfl rfl ho2v hr3 hA3 hl3 (by omega) (by omega) hs3 ?_)
        intro A4 c4 v4 ho4 hx4
        have HO4 := Lib.hid (show Own v4 w.heap.size A4 (n2 + n3) c4 (jrB s (ls.take (k + 1))) by rw [HJ2.out]; exact ho4)
        have HB4 := Lib.hid (HB3.out.trans hx4)
        clear ho2v hr3 hA3 ho4 hx4 hl3 ho3
        go_wp2_with fail
        exact ⟨⟨k + 1, A4, _, c4, by omega, by go_num, by go_num, rfl, HO4.out, HJ.out.1, HB4.out⟩, by simp [intOf]; omega⟩
    · obtain rfl : n = k := by omega
      have e : ls.take n = ls := List.take_of_length_le (by rw [HLS.out]; exact Nat.le_refl _)
      rw [e] at ho2 hjk
      have HO := Lib.hid ho2
      have HB := Lib.hid hb
      have HJK := Lib.hid hjk
      clear ho2 hb e hjl hl2 hjk
      go_wp2_with fail
      go_ret2
      exact ⟨_, _, _, by rw [HJK.out]; rfl, by unfold jrO; rw [if_pos HJK.out]; exact HO.out, HB.out⟩

end Go.Proofs.Yteiojpglhmikoaa.Frame

