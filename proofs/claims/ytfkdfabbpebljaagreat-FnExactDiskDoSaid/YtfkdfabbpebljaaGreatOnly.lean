/- The model's choice of the files that are linked; its clamp; its directory after the first turns. -/
import Derived.Test.YtfkdfabbpebljaaGreatKitE
import Derived.Deep.RegionWith
import Derived.Deep.Cut
namespace Go.Proofs.YtfkdfabbpebljaaGreat.DOk
open Go.RowKit Go.Proofs.YtfkdfabbpebljaaGreat.Bytes Go.Proofs.YtfkdfabbpebljaaGreat.Rows_
set_option linter.unusedVariables false

theorem append_file {wr : World} {ops : Array Oper} {rest : List Oper} {o : Oper} {a : Act} {Q : Exit → Act → World → Prop} (hgd : o.guard = none) (s x : Operand)
    (ho : o.op = .call { callee := .builtin .append, args := #[s, x], argTypes := #[32, 32] })
    {base n c : Nat} {A : Option Addr} {gs : List FileD} {g : FileD} (hs : a.eval s = .slice A n c) (H : Nat) (hH : wr.heap.size = H) (hx : a.eval x = .slice (some ⟨H, 0, none⟩) 1 1)
    (hown : OwnF wr base A n c gs) (hn : n ≤ 1000000000) (hbase : base ≤ wr.heap.size)
    (h : ∀ A' c' w', OwnF w' base A' (n + 1) c' (gs ++ [g]) → Below base wr w' → wr.grownBy w' (Value.slice A n c).ownBlock → wpList Tryz.prog ops Q rest (a.put o.dst (.slice A' (n + 1) c')) w') :
    wpList Tryz.prog ops Q (o :: rest) a (wr.alloc (.cells #[.int .i64 g.id, .slice g.A g.n g.c, .int .i64 g.safe] 58)) := by
  subst hH
  obtain ⟨i0, hi, hz0, hz1, hz2⟩ := info_parts fileInfo
  refine wpList_append_own _ hgd s x 32 ho base 58 i0 (.agg #[.int .i64 0, .slice none 0 0, .int .i64 0]) 3 40 Tryz.underlying32 hi hz0 hz1 hz2 rfl (by decide) _ _ _ hs (World.ownsRow.alloc hown _) ⟨wr.heap.size, 0, none⟩ 1 1 [.int .i64 g.id, .slice g.A g.n g.c, .int .i64 g.safe] hx rfl
    (World.news_of_block (cs := #[.int .i64 g.id, .slice g.A g.n g.c, .int .i64 g.safe]) (t := 58) (fr := (0, 0)) (heap_alloc_new wr _)) (by intro u hu; simp at hu; rcases hu with rfl | rfl | rfl <;> rfl) ?_ ?_ ?_ ?_
  · unfold maxLen; omega
  · omega
  · simp; omega
  · intro v' w' hown' hgrow _
    have e : (gs.map fileR).flatten ++ [.int .i64 g.id, .slice g.A g.n g.c, .int .i64 g.safe] = ((gs ++ [g]).map fileR).flatten := by simp [fileR]
    rw [e] at hown'
    obtain ⟨A', c', rfl⟩ := own_shapeK hown'
    exact h A' c' w' hown' (((Below.refl _ _).alloc hbase _).grown hgrow (by simp; omega) (own_blockK hown)) (grown_trans (World.grownBy_alloc wr _ _) hgrow)
theorem keptS_in {ids : List Int} {fs : List FileD} {k : Nat} (h : k < fs.length) (hi : hasI ids fs[k].id = true) : keptF ids (fs.take (k + 1)) = keptF ids (fs.take k) ++ [fs[k]] := by
  unfold keptF; rw [List.take_succ_eq_append_getElem h, List.filter_append, List.filter_cons_of_pos (by simpa using hi), List.filter_nil]
theorem keptS_out {ids : List Int} {fs : List FileD} {k : Nat} (h : k < fs.length) (hi : hasI ids fs[k].id = false) : keptF ids (fs.take (k + 1)) = keptF ids (fs.take k) := by
  unfold keptF; rw [List.take_succ_eq_append_getElem h, List.filter_append, List.filter_cons_of_neg (by simp [hi]), List.filter_nil, List.append_nil]

set_option maxRecDepth 100000 in
set_option maxHeartbeats 6400000 in
theorem l02Only_any (room fuse next : Int) (F : Option Addr) (nf cf : Nat) (K : Option Addr) (nk ck : Nat) (T : Option Addr) (nt ct : Nat) (fs : List FileD) (ks : List LinkD) (ts : List TurnD) (w : World)
    (hf : RdF w w.heap.size F fs) (hfl : fs.length = nf) (hfn : nf ≤ 2000) (hk : RdL w w.heap.size K ks) (hkl : ks.length = nk) (hkn : nk ≤ 2000) (ht : RdT w w.heap.size T ts) (htl : ts.length = nt) (htn : nt ≤ 2000) :
    Calls Tryz.prog 27 #[.agg #[.int .i64 room, .int .i64 fuse, .int .i64 next, .slice F nf cf, .slice K nk ck, .slice T nt ct]] w fun e w' =>
      ∃ F' n' cf', e = .returned (.agg #[.int .i64 room, .int .i64 fuse, .int .i64 next, .slice F' n' cf', .slice K nk ck, .slice T nt ct]) ∧ OwnF w' w.heap.size F' n' cf' (keptF (idsD ks ts) fs) ∧ Below w.heap.size w w' := by
  have hb0 := ((((Below.refl w.heap.size w).alloc (Nat.le_refl _) (.cells #[.int .i64 room, .int .i64 fuse, .int .i64 next, .slice F nf cf, .slice K nk ck, .slice T nt ct] 36)).alloc (by simp) (.cells #[.int .i64 0, .int .i64 0, .int .i64 0, .slice none 0 0, .slice none 0 0, .slice none 0 0] 36)).alloc (by simp; omega) (.cells #[] 58))
  have hbx0 : BoxW ((w.alloc (.cells #[.int .i64 room, .int .i64 fuse, .int .i64 next, .slice F nf cf, .slice K nk ck, .slice T nt ct] 36)).alloc (.cells #[.int .i64 0, .int .i64 0, .int .i64 0, .slice none 0 0, .slice none 0 0, .slice none 0 0] 36)) w.heap.size #[.int .i64 room, .int .i64 fuse, .int .i64 next, .slice F nf cf, .slice K nk ck, .slice T nt ct] := by
    unfold BoxW; rw [Below.heap_alloc _ _ _ (by simp)]; exact heap_alloc_new w _
  have hby0 : BoxW ((w.alloc (.cells #[.int .i64 room, .int .i64 fuse, .int .i64 next, .slice F nf cf, .slice K nk ck, .slice T nt ct] 36)).alloc (.cells #[.int .i64 0, .int .i64 0, .int .i64 0, .slice none 0 0, .slice none 0 0, .slice none 0 0] 36)) (w.heap.size + 1) #[.int .i64 0, .int .i64 0, .int .i64 0, .slice none 0 0, .slice none 0 0, .slice none 0 0] := by
    have := heap_alloc_new (w.alloc (.cells #[.int .i64 room, .int .i64 fuse, .int .i64 next, .slice F nf cf, .slice K nk ck, .slice T nt ct] 36)) (.cells #[.int .i64 0, .int .i64 0, .int .i64 0, .slice none 0 0, .slice none 0 0, .slice none 0 0] 36)
    unfold BoxW; simpa using this
  have hof0 := own_empty ((w.alloc (.cells #[.int .i64 room, .int .i64 fuse, .int .i64 next, .slice F nf cf, .slice K nk ck, .slice T nt ct] 36)).alloc (.cells #[.int .i64 0, .int .i64 0, .int .i64 0, .slice none 0 0, .slice none 0 0, .slice none 0 0] 36)) 58 3
  have hba0 := (Below.refl _ ((w.alloc (.cells #[.int .i64 room, .int .i64 fuse, .int .i64 next, .slice F nf cf, .slice K nk ck, .slice T nt ct] 36)).alloc (.cells #[.int .i64 0, .int .i64 0, .int .i64 0, .slice none 0 0, .slice none 0 0, .slice none 0 0] 36))).alloc (Nat.le_refl _) (.cells #[] 58)
  have HB0 := Lib.hid hb0
  have HX0 := Lib.hid (hbx0.below hba0 (by simp <;> omega))
  have HY0 := Lib.hid (hby0.below hba0 (by simp <;> omega))
  have HO0 := Lib.hid hof0
  have HF := Lib.hid hf
  have HFL := Lib.hid hfl
  have HIds := Lib.hid (fun W (h : Below w.heap.size w W) => l02Ids_any room fuse next F nf cf K nk ck T nt ct ks ts W ((hk.below (Nat.le_refl _) h).more h.size) hkl (by omega) ((ht.below (Nat.le_refl _) h).more h.size) htl (by omega))
  have hidl : (idsD ks ts).length ≤ 4000 := by
    have h1 := tids_le ts
    unfold idsD
    rw [List.length_append, List.length_map]; omega
  have HIL := Lib.hid hidl
  have e1 : (w.alloc (.cells #[.int .i64 room, .int .i64 fuse, .int .i64 next, .slice F nf cf, .slice K nk ck, .slice T nt ct] 36)).heap.size = w.heap.size + 1 := by simp
  have HE1 := Lib.hid e1
  clear hf hfl hk hkl ht htl hb0 hbx0 hby0 hof0 hba0 e1 hidl
  generalize hids : idsD ks ts = ids at *
  clear hids
  go_enter Tryz.func27, Tryz.ntmps27
  go_wp2_with fail
  go_loopw [3, 10] (fun v i wr => ∃ (k : Nat) (A2 : Option Addr) (n2 c2 : Nat), k ≤ nf ∧ n2 ≤ k ∧ i = .int .i64 k ∧ v = .slice A2 n2 c2 ∧ OwnF wr (w.heap.size + 2) A2 n2 c2 (keptF ids (fs.take k)) ∧
      BoxW wr w.heap.size #[.int .i64 room, .int .i64 fuse, .int .i64 next, .slice F nf cf, .slice K nk ck, .slice T nt ct] ∧ BoxW wr (w.heap.size + 1) #[.int .i64 0, .int .i64 0, .int .i64 0, .slice none 0 0, .slice none 0 0, .slice none 0 0] ∧ Below w.heap.size w wr) (fun _ i _ => nf - (intOf i).toNat)
  case atStart => exact ⟨0, _, 0, 0, Nat.zero_le _, Nat.le_refl _, rfl, rfl, by unfold OwnF; simpa [HE1.out, keptF] using HO0.out, HX0.out, HY0.out, HB0.out⟩
  case round =>
    clear HX0 HY0 HO0 HB0
    obtain ⟨k, A2, n2, c2, hk, hn2, rfl, rfl, ho, hbx, hby, hb⟩ := hrel
    have hz : w.heap.size + 1 < wr.heap.size := hby.lt
    by_cases hlt : k < nf
    · have hlt' : k < fs.length := by rw [HFL.out]; exact hlt
      obtain ⟨b, o, rfl, hB, hc0, hc1, hc2⟩ := (HF.out.below (Nat.le_refl _) hb).at_ hlt'
      have HB := Lib.hid hb
      have HO := Lib.hid ho
      have HBX := Lib.hid hbx
      have HBY := Lib.hid hby
      have HIN := Lib.hid (keptS_in (ids := ids) hlt')
      have HOUT := Lib.hid (keptS_out (ids := ids) hlt')
      have HG := Lib.hid (show ∃ g : FileD, g = fs[k] from ⟨_, rfl⟩)
      clear hb ho hbx hby
      have q3 : wr.cell? ⟨w.heap.size, 3, none⟩ = some (.slice (some ⟨b, o, none⟩) nf cf) := HBX.out.cell 3
      go_upto_region 5 with fail
      obtain ⟨W, hW⟩ : ∃ W, W = wr.alloc (.cells #[.int .i64 fs[k].id, .slice fs[k].A fs[k].n fs[k].c, .int .i64 fs[k].safe] 58) := ⟨_, rfl⟩
      rw [← hW]
      have hbW : Below wr.heap.size wr W := by rw [hW]; exact (Below.refl _ _).alloc (Nat.le_refl _) _
      have p0 : W.cell? ⟨wr.heap.size, 0, none⟩ = some (.int .i64 fs[k].id) := by rw [hW, World.cell?_alloc_at _ _ _ _ rfl]; rfl
      have p1 : W.cell? ⟨wr.heap.size, 1, none⟩ = some (.slice fs[k].A fs[k].n fs[k].c) := by rw [hW, World.cell?_alloc_at _ _ _ _ rfl]; rfl
      have p2 : W.cell? ⟨wr.heap.size, 2, none⟩ = some (.int .i64 fs[k].safe) := by rw [hW, World.cell?_alloc_at _ _ _ _ rfl]; rfl
      have hWz : wr.heap.size < W.heap.size := by rw [hW]; simp
      have hwW : w.heap.size < W.heap.size := by omega
      have HBW := Lib.hid hbW
      have HXW := Lib.hid (HBX.out.below hbW (by omega))
      have HYW := Lib.hid (HBY.out.below hbW (by omega))
      have HOW := Lib.hid (own_belowK HO.out (Nat.le_refl _) hbW)
      have HBB := Lib.hid (HB.out.trans (hbW.mono (by omega)))
      have HCI := Lib.hid (HIds.out W HBB.out)
      clear hW hbW hc0 hc1 hc2 q3
      have r0 := HXW.out.cell 0
      have r1 := HXW.out.cell 1
      have r2 := HXW.out.cell 2
      have r3 := HXW.out.cell 3
      have r4 := HXW.out.cell 4
      have r5 := HXW.out.cell 5
      go_cut [18] (fun s wx => s = .bool (hasI ids fs[k].id) ∧ Below W.heap.size W wx)
      case first =>
        go_region_with (first
          | (go_at_call 53; refine (HIds.out _ ?_).mono ?_; exact ⟨HBB.out.os, HBB.out.tape, HBB.out.output, HBB.out.size, HBB.out.block⟩; rintro e y1 ⟨Ay, cy, rfl, hoy, hby'⟩; have hyb : Below W.heap.size W y1 := undrew (W := W) hby'; clear hby'; have s0 := (hyb.cell (p := ⟨wr.heap.size, 0, none⟩) hWz).trans p0; have HOY := Lib.hid hoy; have HYB := Lib.hid hyb; clear hoy hyb)
          | (go_at_call 54; refine (l02HasInt_any _ _ _ ids _ _ _ HOY.out.rd rfl (by have := HIL.out; omega)).mono ?_; rintro e y2 ⟨rfl, rfl⟩))
        all_goals
          go_wp2_with fail
          go_meet
          case rel => exact ⟨rfl, HYB.out⟩
      case rest =>
        obtain ⟨rfl, hxc⟩ := hcut
        have s0 := (hxc.cell (p := ⟨wr.heap.size, 0, none⟩) hWz).trans p0
        have s1 := (hxc.cell (p := ⟨wr.heap.size, 1, none⟩) hWz).trans p1
        have s2 := (hxc.cell (p := ⟨wr.heap.size, 2, none⟩) hWz).trans p2
        have HX1 := Lib.hid (HXW.out.below hxc hwW)
        have HY1 := Lib.hid (HYW.out.below hxc (by omega))
        have HO1 := Lib.hid (own_belowK HOW.out (Nat.le_refl _) hxc)
        have HB1 := Lib.hid (HBB.out.trans (hxc.mono (Nat.le_of_lt hwW)))
        have hzx : w.heap.size + 2 ≤ wc.heap.size := by have := hxc.size; omega
        have hzy : wr.heap.size < wc.heap.size := by have := hxc.size; omega
        clear r0 r1 r2 r3 r4 r5 p0 p1 p2 hxc
        cases hki : hasI ids fs[k].id
        · have HR := Lib.hid (HOUT.out hki)
          go_wp2_with fail
          exact ⟨⟨k + 1, A2, n2, c2, by omega, by omega, by go_num, rfl, by rw [HR.out]; exact HO1.out, HX1.out, HY1.out, HB1.out⟩, by simp [intOf]; omega⟩
        · have HR := Lib.hid (HIN.out hki)
          go_wp2_with (at_builtin; refine append_file (g := fs[k]) rfl _ _ rfl rfl _ rfl rfl HO1.out (by omega) hzx ?_)
          intro A5 c5 v5 ho5 hb5 hg5
          have HO5 := Lib.hid (show OwnF v5 (w.heap.size + 2) A5 (n2 + 1) c5 (keptF ids (fs.take (k + 1))) by rw [HR.out]; exact ho5)
          have HX5 := Lib.hid (HX1.out.below hb5 (by omega))
          have HY5 := Lib.hid (HY1.out.below hb5 (by omega))
          have HB5 := Lib.hid (HB1.out.trans (hb5.mono (by omega)))
          clear ho5 hb5 hg5
          go_wp2_with fail
          exact ⟨⟨k + 1, A5, n2 + 1, c5, by omega, by omega, by go_num, rfl, HO5.out, HX5.out, HY5.out, HB5.out⟩, by simp [intOf]; omega⟩
    · obtain rfl : nf = k := by omega
      have e : fs.take nf = fs := List.take_of_length_le (by rw [HFL.out]; exact Nat.le_refl _)
      rw [e] at ho
      have q0 := hbx.cell 0
      have q1 := hbx.cell 1
      have q2 := hbx.cell 2
      have q3 := hbx.cell 3
      have q4 := hbx.cell 4
      have q5 := hbx.cell 5
      have f3 := hbx.free 3
      have y0 := hby.cell 0
      have y1 := hby.cell 1
      have y2 := hby.cell 2
      have y3 := hby.cell 3
      have y4 := hby.cell 4
      have y5 := hby.cell 5
      have z0 := hby.free 0
      have z1 := hby.free 1
      have z2 := hby.free 2
      have z3 := hby.free 3
      have z4 := hby.free 4
      have z5 := hby.free 5
      have HO3 := Lib.hid (own_setK ho w.heap.size 3 (.slice A2 n2 c2) (by omega))
      have HB3 := Lib.hid (hb.setCell (p := ⟨w.heap.size, 3, none⟩) (Nat.le_refl _) (.slice A2 n2 c2))
      clear ho hbx hby hb e
      go_wp2_with fail
      refine bodyPost_ret (v := .agg #[.int .i64 room, .int .i64 fuse, .int .i64 next, .slice A2 n2 c2, .slice K nk ck, .slice T nt ct]) (by simp [results, Tryz.results27, go_sem, y0, y1, y2, y3, y4, y5]) rfl ⟨A2, n2, c2, rfl, ?_, ?_⟩
      · exact own_moreK (own_set6 HO3.out (by omega) _ _ _ _ _ _) (by omega)
      · exact below_set6 HB3.out (by omega) _ _ _ _ _ _
end Go.Proofs.YtfkdfabbpebljaaGreat.DOk
