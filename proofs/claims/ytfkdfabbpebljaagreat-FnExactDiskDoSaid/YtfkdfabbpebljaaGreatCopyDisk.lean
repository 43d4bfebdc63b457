/- Contract of the copy of a disk, in the program. -/
import Derived.Test.YtfkdfabbpebljaaGreatKitB
import Derived.Deep.RegionWith
import Derived.Deep.Cut
import Derived.Deep.CutRange
import Derived.Deep.DeepCutAuto
namespace Go.Proofs.YtfkdfabbpebljaaGreat.DOk
open Go.RowKit Go.Proofs.YtfkdfabbpebljaaGreat.Bytes Go.Proofs.YtfkdfabbpebljaaGreat.Rows_
set_option linter.unusedVariables false

/-- the files of which the first bodies are copied -/
def partC (gs fs : List FileD) (k : Nat) : List FileD := gs ++ fs.drop k
set_option maxRecDepth 100000 in
set_option maxHeartbeats 3200000 in
theorem copyDisk_any (room fuse next : Int) (F : Option Addr) (nf cf : Nat) (K : Option Addr) (nk ck : Nat) (T : Option Addr) (nt ct : Nat) (fs : List FileD) (ks : List LinkD) (ts : List TurnD) (w : World)
    (hf : RdF w w.heap.size F fs) (hfl : fs.length = nf) (hfn : nf ≤ 2097152) (hFA : F = none → nf = 0 ∧ cf = 0) (hrb : RdB w w.heap.size fs) (hba : ∀ f ∈ fs, f.A = none → f.n = 0 ∧ f.c = 0) (hfs : ∀ f ∈ fs, f.n ≤ 1099511627776)
    (hk : RdL w w.heap.size K ks) (hkl : ks.length = nk) (hkn : nk ≤ 2097152) (hKA : K = none → nk = 0 ∧ ck = 0) (ht : RdT w w.heap.size T ts) (htl : ts.length = nt) (htn : nt ≤ 2097152) (hTA : T = none → nt = 0 ∧ ct = 0) :
    Calls Tryz.prog 34 #[.agg #[.int .i64 room, .int .i64 fuse, .int .i64 next, .slice F nf cf, .slice K nk ck, .slice T nt ct]] w fun e w' =>
      ∃ F' cf' K' ck' T' ct' gs, e = .returned (.agg #[.int .i64 room, .int .i64 fuse, .int .i64 next, .slice F' nf cf', .slice K' nk ck', .slice T' nt ct']) ∧
        OwnD w' w.heap.size F' nf cf' gs K' nk ck' ks T' nt ct' ts ∧ gs.map keyF = fs.map keyF ∧ Below w.heap.size w w' := by
  have hb0 := Lib.hid (((Below.refl w.heap.size w).alloc (Nat.le_refl _) (.cells #[.int .i64 room, .int .i64 fuse, .int .i64 next, .slice F nf cf, .slice K nk ck, .slice T nt ct] 36)).alloc (by simp) (.cells #[.int .i64 0, .int .i64 0, .int .i64 0, .slice none 0 0, .slice none 0 0, .slice none 0 0] 36))
  have HF := Lib.hid (fun W (h : Below w.heap.size w W) => cloneF_any F nf cf fs W hFA ((hf.below (Nat.le_refl _) h).more h.size) hfl hfn)
  have HL := Lib.hid (fun W (h : Below w.heap.size w W) => cloneL_any K nk ck ks W hKA ((hk.below (Nat.le_refl _) h).more h.size) hkl hkn)
  have HT := Lib.hid (fun W (h : Below w.heap.size w W) => cloneT_any T nt ct ts W hTA ((ht.below (Nat.le_refl _) h).more h.size) htl htn)
  have HFL := Lib.hid hfl
  have HRB := Lib.hid hrb
  have HBA := Lib.hid hba
  have HFS := Lib.hid hfs
  clear hf hfl hrb hk hkl ht htl hba hfs
  go_enter Tryz.func34, Tryz.ntmps34
  go_wp2_with fail
  refine (HF.out _ hb0.out).mono ?_
  rintro e v1 ⟨F1, cf1, rfl, hoF, hb1⟩
  obtain ⟨hc1, hf1⟩ := bcell hb1
  have hz1 : w.heap.size + 1 < v1.heap.size := by have := hb1.size; simp at this; omega
  have hz1a : w.heap.size < v1.heap.size := by omega
  have s1 : w.heap.size < w.heap.size + 1 + 1 := by omega
  have HOF1 := Lib.hid (own_moreK hoF (base' := w.heap.size + 2) (by simp))
  have HB1 := Lib.hid (hb0.out.trans (hb1.mono (by simp; omega)))
  have hb1' := hb1
  clear hoF hb1
  go_wp2_with fail
  have hbx0 : BoxW ((w.alloc (.cells #[.int .i64 room, .int .i64 fuse, .int .i64 next, .slice F nf cf, .slice K nk ck, .slice T nt ct] 36)).alloc (.cells #[.int .i64 0, .int .i64 0, .int .i64 0, .slice none 0 0, .slice none 0 0, .slice none 0 0] 36)) w.heap.size #[.int .i64 room, .int .i64 fuse, .int .i64 next, .slice F nf cf, .slice K nk ck, .slice T nt ct] := by
    unfold BoxW; rw [Below.heap_alloc _ _ _ (by simp)]; exact heap_alloc_new w _
  have hby0 : BoxW ((w.alloc (.cells #[.int .i64 room, .int .i64 fuse, .int .i64 next, .slice F nf cf, .slice K nk ck, .slice T nt ct] 36)).alloc (.cells #[.int .i64 0, .int .i64 0, .int .i64 0, .slice none 0 0, .slice none 0 0, .slice none 0 0] 36)) (w.heap.size + 1) #[.int .i64 0, .int .i64 0, .int .i64 0, .slice none 0 0, .slice none 0 0, .slice none 0 0] := by
    have := heap_alloc_new (w.alloc (.cells #[.int .i64 room, .int .i64 fuse, .int .i64 next, .slice F nf cf, .slice K nk ck, .slice T nt ct] 36)) (.cells #[.int .i64 0, .int .i64 0, .int .i64 0, .slice none 0 0, .slice none 0 0, .slice none 0 0] 36)
    unfold BoxW; simpa using this
  have HX1 := Lib.hid ((hbx0.below hb1' (by simp <;> omega)).set3 (.slice F1 nf cf1))
  have HY1 := Lib.hid ((hby0.below hb1' (by simp <;> omega)).other (b' := w.heap.size) (j := 3) (v := .slice F1 nf cf1) (by omega))
  have HO2 := Lib.hid (own_setK HOF1.out w.heap.size 3 (.slice F1 nf cf1) (by omega))
  have HB2 := Lib.hid (HB1.out.setCell (p := ⟨w.heap.size, 3, none⟩) (Nat.le_refl _) (.slice F1 nf cf1))
  have hz2 : w.heap.size + 1 < (v1.setCell ⟨w.heap.size, 3, none⟩ (.slice F1 nf cf1)).heap.size := by simp; exact hz1
  generalize v1.setCell ⟨w.heap.size, 3, none⟩ (.slice F1 nf cf1) = v2 at *
  clear hbx0 hby0 hb1' hc1 hf1 hz1 hz1a
  go_loopw [11] (fun i wr => ∃ (k : Nat) (gs : List FileD), k ≤ nf ∧ i = .int .i64 k ∧ wr.ownsRow (w.heap.size + 2) 58 3 (.slice F1 nf cf1) nf ((partC gs fs k).map fileR).flatten ∧ Hid (gs.map keyF = (fs.take k).map keyF) ∧ OwnBs wr (w.heap.size + 2) gs ∧
      BoxW wr w.heap.size #[.int .i64 room, .int .i64 fuse, .int .i64 next, .slice F1 nf cf1, .slice K nk ck, .slice T nt ct] ∧ BoxW wr (w.heap.size + 1) #[.int .i64 0, .int .i64 0, .int .i64 0, .slice none 0 0, .slice none 0 0, .slice none 0 0] ∧ Below w.heap.size w wr) (fun i _ => nf - (intOf i).toNat)
  case atStart => exact ⟨0, [], Nat.zero_le _, rfl, by simpa [partC] using HO2.out, Lib.hid rfl, OwnBs.nil _ _, HX1.out, HY1.out, HB2.out⟩
  case round =>
    clear hz2
    obtain ⟨k, gs, hk, rfl, ho, HK, hbs, hbx, hby, hb⟩ := hrel
    have hz : w.heap.size + 1 < wr.heap.size := hby.lt
    by_cases hlt : k < nf
    · have hlt' : k < fs.length := by rw [HFL.out]; exact hlt
      obtain ⟨g, rfl⟩ := own_addr ho (by omega)
      have hgl := (World.ownsRow.lt ho g rfl)
      have hrow : (partC gs fs k).map fileR = gs.map fileR ++ [[Value.int .i64 fs[k].id, Value.slice fs[k].A fs[k].n fs[k].c, Value.int .i64 fs[k].safe]] ++ (fs.drop (k + 1)).map fileR := by
        unfold partC; rw [List.drop_eq_getElem_cons hlt', List.map_append, List.map_cons, List.append_assoc]; rfl
      have HGL := Lib.hid (show (gs.map fileR).length = k by
        have := congrArg List.length HK.out
        rw [List.length_map, List.length_map, List.length_take] at this
        rw [List.length_map]; omega)
      have HKN := Lib.hid (show (fs.take (k + 1)).map keyF = (fs.take k).map keyF ++ [(fs[k].id, fs[k].n, fs[k].safe, fs[k].bytes)] by
        rw [List.take_succ_eq_append_getElem hlt', List.map_append]; rfl)
      have hRb := HRB.out _ (List.getElem_mem hlt')
      have HRb := Lib.hid ((hRb.1.below (Nat.le_refl _) hb).more (Nat.le_of_lt (Nat.lt_of_succ_lt hz)))
      have HRl := Lib.hid hRb.2
      have HRA := Lib.hid (HBA.out _ (List.getElem_mem hlt'))
      have hRn := HFS.out _ (List.getElem_mem hlt')
      rw [hrow] at ho
      have hr3 : ∀ r ∈ gs.map fileR ++ [[Value.int .i64 fs[k].id, Value.slice fs[k].A fs[k].n fs[k].c, Value.int .i64 fs[k].safe]] ++ (fs.drop (k + 1)).map fileR, r.length = 3 := by rw [← hrow]; exact file_len _
      have hc1 : wr.cell? ⟨g, k * 3 + 1, none⟩ = some (.slice fs[k].A fs[k].n fs[k].c) := by
        rw [World.ownsRow.cellAt (h := ho) (k * 3 + 1) (by omega)]
        exact flat_at 3 _ hr3 k [Value.int .i64 fs[k].id, Value.slice fs[k].A fs[k].n fs[k].c, Value.int .i64 fs[k].safe] (by rw [List.append_assoc, List.getElem?_append_right (by rw [HGL.out]; exact Nat.le_refl _), HGL.out]; simp) 1 _ rfl
      have HPN := Lib.hid (show ∀ A' c', (partC (gs ++ [⟨fs[k].id, A', fs[k].n, c', fs[k].safe, fs[k].bytes⟩]) fs (k + 1)).map fileR = gs.map fileR ++ [[Value.int .i64 fs[k].id, Value.slice A' fs[k].n c', Value.int .i64 fs[k].safe]] ++ (fs.drop (k + 1)).map fileR by
        intro A' c'; unfold partC; rw [List.map_append, List.map_append]; rfl)
      have HB := Lib.hid hb
      have HBS := Lib.hid hbs
      have HO := Lib.hid ho
      have HBX := Lib.hid hbx
      have HBY := Lib.hid hby
      have q3 : wr.cell? ⟨w.heap.size, 3, none⟩ = some (.slice (some ⟨g, 0, none⟩) nf cf1) := hbx.cell 3
      have HGN := Lib.hid (show w.heap.size ≠ g ∧ w.heap.size + 1 ≠ g ∧ w.heap.size ≤ g by omega)
      clear hb ho hbs hbx hby hRb hrow hr3
      generalize fs[k].id = x0 at *
      generalize fs[k].A = x1 at *
      generalize fs[k].n = x2 at *
      generalize fs[k].c = x3 at *
      generalize fs[k].safe = x4 at *
      generalize fs[k].bytes = zs at *
      go_wp2_with fail
      go_region_with ((go_at_call 67; refine (Var.clone_any x1 x2 x3 zs _ HRA.out ?_ HRl.out hRn).mono ?_; exact HRb.out; rintro e v ⟨A2, c2, rfl, ho2, hb1'⟩; have hb1 : Below wr.heap.size wr v := undrew hb1'; have q3v : v.cell? ⟨w.heap.size, 3, none⟩ = some (.slice (some ⟨g, 0, none⟩) nf cf1) := (HBX.out.below hb1 (by omega)).cell 3; have hov := own_belowK HO.out (Nat.le_refl _) hb1; obtain ⟨u1, hu1⟩ := own_there hov (k * 3 + 1) (by omega); have hfv := World.ownsRow.frozenAt (h := hov) (k * 3 + 1); have HOv := Lib.hid hov; have HO2v := Lib.hid ho2; clear hb1' hov ho2))
      all_goals
        have HB2 := Lib.hid (HB.out.trans (hb1.mono (Nat.le_of_lt (Nat.lt_of_succ_lt hz))))
        have HX2 := Lib.hid ((HBX.out.below hb1 (by omega)).other (b' := g) (j := k * 3 + 1) (v := .slice A2 x2 c2) HGN.out.1)
        have HY2 := Lib.hid ((HBY.out.below hb1 (by omega)).other (b' := g) (j := k * 3 + 1) (v := .slice A2 x2 c2) HGN.out.2.1)
        have HR2 := Lib.hid (rowJ (K := 3) (z := [Value.int .i64 x0, Value.slice x1 x2 x3, Value.int .i64 x4]) rfl (file_len _) k HGL.out 1 (by decide) (.slice A2 x2 c2) HOv.out)
        have HS2 := Lib.hid (OwnBs.row (OwnBs.snocF (g := ⟨x0, A2, x2, c2, x4, zs⟩) HBS.out hb1 HO2v.out (Nat.le_refl _) (by show w.heap.size + 2 ≤ wr.heap.size; omega)) HOv.out g (k * 3 + 1) rfl (.slice A2 x2 c2))
        have HK2 := Lib.hid (show (gs ++ [(⟨x0, A2, x2, c2, x4, zs⟩ : FileD)]).map keyF = (fs.take (k + 1)).map keyF by rw [List.map_append, HK.out, HKN.out]; rfl)
        have HBW := Lib.hid (HB2.out.setCell (p := ⟨g, k * 3 + 1, none⟩) HGN.out.2.2 (.slice A2 x2 c2))
        clear hb1
        go_wp2_with fail
        exact ⟨⟨k + 1, gs ++ [⟨x0, A2, x2, c2, x4, zs⟩], by omega, by go_num, by rw [HPN.out]; exact HR2.out, HK2, HS2.out, HX2.out, HY2.out, HBW.out⟩, by simp [intOf]; omega⟩
    · obtain rfl : nf = k := by omega
      have e : fs.take nf = fs := List.take_of_length_le (by rw [HFL.out]; exact Nat.le_refl _)
      have hK := HK.out
      rw [e] at hK
      have HKey := Lib.hid hK
      have e2 : partC gs fs nf = gs := by unfold partC; rw [List.drop_of_length_le (by rw [HFL.out]; exact Nat.le_refl _), List.append_nil]
      rw [e2] at ho
      have HOF := Lib.hid (show OwnF wr (w.heap.size + 2) F1 nf cf1 gs from ho)
      have HBS := Lib.hid hbs
      have HB := Lib.hid hb
      have HBX := Lib.hid hbx
      have HBY := Lib.hid hby
      have q4 : wr.cell? ⟨w.heap.size, 4, none⟩ = some (.slice K nk ck) := hbx.cell 4
      have hz0 : w.heap.size ≤ wr.heap.size := by omega
      clear ho hbs hb hbx hby hK e e2 HK
      go_wp2_with fail
      refine (HL.out _ HB.out).mono ?_
      rintro e v3 ⟨K3, ck3, rfl, hoL, hb3⟩
      have HB3 := Lib.hid ((HB.out.trans (hb3.mono hz0)).setCell (p := ⟨w.heap.size, 4, none⟩) (Nat.le_refl _) (.slice K3 nk ck3))
      have hx3 := HBX.out.below hb3 (by omega)
      have HX3 := Lib.hid (hx3.set4 (.slice K3 nk ck3))
      have HY3 := Lib.hid ((HBY.out.below hb3 (by omega)).other (b' := w.heap.size) (j := 4) (v := .slice K3 nk ck3) (by omega))
      have HF3 := Lib.hid (own_setK (own_belowK HOF.out (Nat.le_refl _) hb3) w.heap.size 4 (.slice K3 nk ck3) (by omega))
      have HS3 := Lib.hid (OwnBs.set_ (HBS.out.below (Nat.le_refl _) hb3) w.heap.size 4 (.slice K3 nk ck3) (by omega))
      have HL3 := Lib.hid (own_setK (own_moreK hoL (base' := w.heap.size + 2) (by omega)) w.heap.size 4 (.slice K3 nk ck3) (by omega))
      have c4 : v3.cell? ⟨w.heap.size, 4, none⟩ = some (.slice K nk ck) := hx3.cell 4
      have f4 := hx3.free 4
      have c5 : v3.cell? ⟨w.heap.size, 5, none⟩ = some (.slice T nt ct) := hx3.cell 5
      have f5 := hx3.free 5
      have hz3 : w.heap.size + 1 < v3.heap.size := by have := hb3.size; omega
      clear hb3 hoL hx3
      go_wp2_with fail
      refine (HT.out _ HB3.out).mono ?_
      rintro e v4 ⟨T4, ct4, rfl, hoT, hb4⟩
      have hz3' : w.heap.size + 1 < (v3.setCell ⟨w.heap.size, 4, none⟩ (.slice K3 nk ck3)).heap.size := by simp; exact hz3
      have hx4 := HX3.out.below hb4 (by omega)
      have HX4 := Lib.hid (hx4.set5 (.slice T4 nt ct4))
      have HY4 := Lib.hid ((HY3.out.below hb4 (by omega)).other (b' := w.heap.size) (j := 5) (v := .slice T4 nt ct4) (by omega))
      have HF4 := Lib.hid (own_setK (own_belowK HF3.out (Nat.le_refl _) hb4) w.heap.size 5 (.slice T4 nt ct4) (by omega))
      have HS4 := Lib.hid (OwnBs.set_ (HS3.out.below (Nat.le_refl _) hb4) w.heap.size 5 (.slice T4 nt ct4) (by omega))
      have HL4 := Lib.hid (own_setK (own_belowK HL3.out (Nat.le_refl _) hb4) w.heap.size 5 (.slice T4 nt ct4) (by omega))
      have HT4 := Lib.hid (own_setK (own_moreK hoT (base' := w.heap.size + 2) (by omega)) w.heap.size 5 (.slice T4 nt ct4) (by omega))
      have HB4 := Lib.hid ((HB3.out.trans (hb4.mono (by omega))).setCell (p := ⟨w.heap.size, 5, none⟩) (Nat.le_refl _) (.slice T4 nt ct4))
      have d0 : v4.cell? ⟨w.heap.size, 0, none⟩ = some (.int .i64 room) := hx4.cell 0
      have d1 : v4.cell? ⟨w.heap.size, 1, none⟩ = some (.int .i64 fuse) := hx4.cell 1
      have d2 : v4.cell? ⟨w.heap.size, 2, none⟩ = some (.int .i64 next) := hx4.cell 2
      have d3 : v4.cell? ⟨w.heap.size, 3, none⟩ = some (.slice F1 nf cf1) := hx4.cell 3
      have d4 : v4.cell? ⟨w.heap.size, 4, none⟩ = some (.slice K3 nk ck3) := hx4.cell 4
      have d5 : v4.cell? ⟨w.heap.size, 5, none⟩ = some (.slice T nt ct) := hx4.cell 5
      have g5 := hx4.free 5
      have hy4 := HY3.out.below hb4 (by omega)
      clear hb4 hoT hx4
      have y0 : v4.cell? ⟨w.heap.size + 1, 0, none⟩ = some (.int .i64 0) := hy4.cell 0
      have y1 : v4.cell? ⟨w.heap.size + 1, 1, none⟩ = some (.int .i64 0) := hy4.cell 1
      have y2 : v4.cell? ⟨w.heap.size + 1, 2, none⟩ = some (.int .i64 0) := hy4.cell 2
      have y3 : v4.cell? ⟨w.heap.size + 1, 3, none⟩ = some (.slice none 0 0) := hy4.cell 3
      have y4 : v4.cell? ⟨w.heap.size + 1, 4, none⟩ = some (.slice none 0 0) := hy4.cell 4
      have y5 : v4.cell? ⟨w.heap.size + 1, 5, none⟩ = some (.slice none 0 0) := hy4.cell 5
      have z0 := hy4.free 0
      have z1 := hy4.free 1
      have z2 := hy4.free 2
      have z3 := hy4.free 3
      have z4 := hy4.free 4
      have z5 := hy4.free 5
      clear hy4
      go_wp2_with fail
      refine bodyPost_ret (v := .agg #[.int .i64 room, .int .i64 fuse, .int .i64 next, .slice F1 nf cf1, .slice K3 nk ck3, .slice T4 nt ct4]) (by simp [results, Tryz.results34, go_sem, y0, y1, y2, y3, y4, y5]) rfl ⟨F1, cf1, K3, ck3, T4, ct4, gs, rfl, ⟨?_, ?_, ?_, ?_⟩, HKey.out, ?_⟩
      · exact own_moreK (own_set6 HF4.out (by omega) _ _ _ _ _ _) (by omega)
      · exact OwnBs.more6 HS4.out (by omega) (by omega) _ _ _ _ _ _
      · exact own_moreK (own_set6 HL4.out (by omega) _ _ _ _ _ _) (by omega)
      · exact own_moreK (own_set6 HT4.out (by omega) _ _ _ _ _ _) (by omega)
      · exact (((((HB4.out.setCell (Nat.le_succ _) _).setCell (Nat.le_succ _) _).setCell (Nat.le_succ _) _).setCell (Nat.le_succ _) _).setCell (Nat.le_succ _) _).setCell (Nat.le_succ _) _
end Go.Proofs.YtfkdfabbpebljaaGreat.DOk
