/- Contract of the copy of a disk, in the model. -/
import Derived.Test.YtfkdfabbpebljaaGreatKitB
import Derived.Test.YtfkdfabbpebljaaGreatCopyDisk
import Derived.Deep.RegionHeld3
import Derived.Deep.RegionLaw
import Derived.Deep.AppendLies
namespace Go.Proofs.YtfkdfabbpebljaaGreat.DOk
open Go.RowKit Go.Proofs.YtfkdfabbpebljaaGreat.Bytes Go.Proofs.YtfkdfabbpebljaaGreat.Rows_
set_option linter.unusedVariables false

set_option maxRecDepth 100000 in
set_option maxHeartbeats 3200000 in
theorem l02Copy_any (room fuse next : Int) (F : Option Addr) (nf cf : Nat) (K : Option Addr) (nk ck : Nat) (T : Option Addr) (nt ct : Nat) (fs : List FileD) (ks : List LinkD) (ts : List TurnD) (w : World)
    (hf : RdF w w.heap.size F fs) (hfl : fs.length = nf) (hfn : nf ≤ 2097152) (hrb : RdB w w.heap.size fs) (hba : ∀ f ∈ fs, f.A = none → f.n = 0 ∧ f.c = 0) (hfs : ∀ f ∈ fs, f.n ≤ 1099511627776)
    (hk : RdL w w.heap.size K ks) (hkl : ks.length = nk) (hkn : nk ≤ 2097152) (hKA : K = none → nk = 0 ∧ ck = 0) (ht : RdT w w.heap.size T ts) (htl : ts.length = nt) (htn : nt ≤ 2097152) (hTA : T = none → nt = 0 ∧ ct = 0) :
    Calls Tryz.prog 21 #[.agg #[.int .i64 room, .int .i64 fuse, .int .i64 next, .slice F nf cf, .slice K nk ck, .slice T nt ct]] w fun e w' =>
      ∃ F' cf' K' ck' T' ct' gs, e = .returned (.agg #[.int .i64 room, .int .i64 fuse, .int .i64 next, .slice F' nf cf', .slice K' nk ck', .slice T' nt ct']) ∧
        OwnD w' w.heap.size F' nf cf' gs K' nk ck' ks T' nt ct' ts ∧ gs.map keyF = fs.map keyF ∧ Below w.heap.size w w' := by
  have hb0 := ((((Below.refl w.heap.size w).alloc (Nat.le_refl _) (.cells #[.int .i64 room, .int .i64 fuse, .int .i64 next, .slice F nf cf, .slice K nk ck, .slice T nt ct] 36)).alloc (by simp) (.cells #[.int .i64 0, .int .i64 0, .int .i64 0, .slice none 0 0, .slice none 0 0, .slice none 0 0] 36)).alloc (by simp; omega) (.cells #[] 58))
  have hbx0 : BoxW ((w.alloc (.cells #[.int .i64 room, .int .i64 fuse, .int .i64 next, .slice F nf cf, .slice K nk ck, .slice T nt ct] 36)).alloc (.cells #[.int .i64 0, .int .i64 0, .int .i64 0, .slice none 0 0, .slice none 0 0, .slice none 0 0] 36)) w.heap.size #[.int .i64 room, .int .i64 fuse, .int .i64 next, .slice F nf cf, .slice K nk ck, .slice T nt ct] := by
    unfold BoxW; rw [Below.heap_alloc _ _ _ (by simp)]; exact heap_alloc_new w _
  have hby0 : BoxW ((w.alloc (.cells #[.int .i64 room, .int .i64 fuse, .int .i64 next, .slice F nf cf, .slice K nk ck, .slice T nt ct] 36)).alloc (.cells #[.int .i64 0, .int .i64 0, .int .i64 0, .slice none 0 0, .slice none 0 0, .slice none 0 0] 36)) (w.heap.size + 1) #[.int .i64 0, .int .i64 0, .int .i64 0, .slice none 0 0, .slice none 0 0, .slice none 0 0] := by
    have := heap_alloc_new (w.alloc (.cells #[.int .i64 room, .int .i64 fuse, .int .i64 next, .slice F nf cf, .slice K nk ck, .slice T nt ct] 36)) (.cells #[.int .i64 0, .int .i64 0, .int .i64 0, .slice none 0 0, .slice none 0 0, .slice none 0 0] 36)
    unfold BoxW; simpa using this
  have hof0 := own_empty ((w.alloc (.cells #[.int .i64 room, .int .i64 fuse, .int .i64 next, .slice F nf cf, .slice K nk ck, .slice T nt ct] 36)).alloc (.cells #[.int .i64 0, .int .i64 0, .int .i64 0, .slice none 0 0, .slice none 0 0, .slice none 0 0] 36)) 58 3
  have hba0 := (Below.refl _ ((w.alloc (.cells #[.int .i64 room, .int .i64 fuse, .int .i64 next, .slice F nf cf, .slice K nk ck, .slice T nt ct] 36)).alloc (.cells #[.int .i64 0, .int .i64 0, .int .i64 0, .slice none 0 0, .slice none 0 0, .slice none 0 0] 36))).alloc (Nat.le_refl _) (.cells #[] 58)
  have HB0 := Lib.hid hb0
  have HX0 := Lib.hid (hbx0.below hba0 (by simp <;> omega))
  have HY0 := Lib.hid (hby0.below hba0 (by simp <;> omega))
  have HO0 := Lib.hid hof0
  have HF := Lib.hid hf
  have HK := Lib.hid hk
  have HT := Lib.hid ht
  have HFL := Lib.hid hfl
  have HKL := Lib.hid hkl
  have HTL := Lib.hid htl
  have HRB := Lib.hid hrb
  have HBA := Lib.hid hba
  have HFS := Lib.hid hfs
  have e1 : (w.alloc (.cells #[.int .i64 room, .int .i64 fuse, .int .i64 next, .slice F nf cf, .slice K nk ck, .slice T nt ct] 36)).heap.size = w.heap.size + 1 := by simp
  have HE1 := Lib.hid e1
  clear hf hfl hrb hk hkl ht htl hba hfs hb0 hbx0 hby0 hof0 hba0 e1
  go_enter Tryz.func21, Tryz.ntmps21
  go_wp2_with fail
  go_loopw [3, 10] (fun v i wr => ∃ (k : Nat) (A2 : Option Addr) (c2 : Nat) (gs : List FileD), k ≤ nf ∧ i = .int .i64 k ∧ v = .slice A2 k c2 ∧ OwnF wr (w.heap.size + 2) A2 k c2 gs ∧ Hid (gs.map keyF = (fs.take k).map keyF) ∧ OwnBs wr (w.heap.size + 2) gs ∧
      BoxW wr w.heap.size #[.int .i64 room, .int .i64 fuse, .int .i64 next, .slice F nf cf, .slice K nk ck, .slice T nt ct] ∧ BoxW wr (w.heap.size + 1) #[.int .i64 0, .int .i64 0, .int .i64 0, .slice none 0 0, .slice none 0 0, .slice none 0 0] ∧ Below w.heap.size w wr) (fun _ i _ => nf - (intOf i).toNat)
  case atStart => exact ⟨0, _, 0, [], Nat.zero_le _, rfl, rfl, by unfold OwnF; simpa [HE1.out] using HO0.out, Lib.hid rfl, OwnBs.nil _ _, HX0.out, HY0.out, HB0.out⟩
  case round =>
    obtain ⟨k, A2, c2, gs, hk, rfl, rfl, ho, HKey, hbs, hbx, hby, hb⟩ := hrel
    have hz : w.heap.size + 1 < wr.heap.size := hby.lt
    by_cases hlt : k < nf
    · have hlt' : k < fs.length := by rw [HFL.out]; exact hlt
      obtain ⟨b, o, rfl, hB, hc0, hc1, hc2⟩ := (HF.out.below (Nat.le_refl _) hb).at_ hlt'
      have HKN := Lib.hid (show (fs.take (k + 1)).map keyF = (fs.take k).map keyF ++ [(fs[k].id, fs[k].n, fs[k].safe, fs[k].bytes)] by
        rw [List.take_succ_eq_append_getElem hlt', List.map_append]; rfl)
      have hRb := HRB.out _ (List.getElem_mem hlt')
      have HRb := Lib.hid ((hRb.1.below (Nat.le_refl _) hb).more (Nat.le_of_lt (Nat.lt_of_succ_lt hz)))
      have HRl := Lib.hid hRb.2
      have HRA := Lib.hid (HBA.out _ (List.getElem_mem hlt'))
      have hRn := HFS.out _ (List.getElem_mem hlt')
      have HB := Lib.hid hb
      have HBS := Lib.hid hbs
      have HO := Lib.hid ho
      have HBX := Lib.hid hbx
      have HBY := Lib.hid hby
      have hkn : k ≤ 2097152 := by omega
      clear hb ho hbs hbx hby hRb
      generalize fs[k].id = x0 at *
      generalize fs[k].A = x1 at *
      generalize fs[k].n = x2 at *
      generalize fs[k].c = x3 at *
      generalize fs[k].safe = x4 at *
      generalize fs[k].bytes = zs at *
      go_upto_region 5 with fail
      obtain ⟨W, hW⟩ : ∃ W, W = wr.alloc (.cells #[.int .i64 x0, .slice x1 x2 x3, .int .i64 x4] 58) := ⟨_, rfl⟩
      rw [← hW]
      have hbW : Below wr.heap.size wr W := by rw [hW]; exact (Below.refl _ _).alloc (Nat.le_refl _) _
      have p0 : W.cell? ⟨wr.heap.size, 0, none⟩ = some (.int .i64 x0) := by rw [hW, World.cell?_alloc_at _ _ _ _ rfl]; rfl
      have p1 : W.cell? ⟨wr.heap.size, 1, none⟩ = some (.slice x1 x2 x3) := by rw [hW, World.cell?_alloc_at _ _ _ _ rfl]; rfl
      have p2 : W.cell? ⟨wr.heap.size, 2, none⟩ = some (.int .i64 x4) := by rw [hW, World.cell?_alloc_at _ _ _ _ rfl]; rfl
      have hWz : wr.heap.size < W.heap.size := by rw [hW]; simp
      have HBW := Lib.hid hbW
      clear hW hbW hc0 hc1 hc2
      have hdr : Below W.heap.size W ((W.alloc (.cells #[] 5)).drew) := ((Below.refl _ _).alloc (Nat.le_refl _) _).drew
      have HOW := Lib.hid (show Own ((W.alloc (.cells #[] 5)).drew) W.heap.size (some ⟨W.heap.size, 0, none⟩) 0 0 [] from (show Own (W.alloc (.cells #[] 5)) W.heap.size (some ⟨W.heap.size, 0, none⟩) 0 0 [] from World.ownsRow_lit W #[] 0 (Nat.le_refl _) (by decide) rfl))
      have HSW := Lib.hid (show Rd ((W.alloc (.cells #[] 5)).drew) wr.heap.size x1 zs from (HRb.out.below (Nat.le_refl _) HBW.out).below (Nat.le_of_lt hWz) hdr)
      have HPR := Lib.hid (show ((W.alloc (.cells #[] 5)).drew).cell? ⟨wr.heap.size, 0, none⟩ = some (.int .i64 x0) ∧ ((W.alloc (.cells #[] 5)).drew).cell? ⟨wr.heap.size, 1, none⟩ = some (.slice x1 x2 x3) ∧ ((W.alloc (.cells #[] 5)).drew).cell? ⟨wr.heap.size, 2, none⟩ = some (.int .i64 x4) from
        ⟨(hdr.cell (p := ⟨wr.heap.size, 0, none⟩) hWz).trans p0, (hdr.cell (p := ⟨wr.heap.size, 1, none⟩) hWz).trans p1, (hdr.cell (p := ⟨wr.heap.size, 2, none⟩) hWz).trans p2⟩)
      have HDR := Lib.hid hdr
      have HNE := Lib.hid (show some wr.heap.size ≠ (Value.slice A2 k c2).ownBlock from fun e => by have := (World.ownsRow.lt HO.out _ e.symm).2; omega)
      clear hdr
      go_region_held3 (fun w' => w'.cell? ⟨wr.heap.size, 0, none⟩ = some (.int .i64 x0) ∧ w'.cell? ⟨wr.heap.size, 1, none⟩ = some (.slice x1 x2 x3) ∧ w'.cell? ⟨wr.heap.size, 2, none⟩ = some (.int .i64 x4))
        (first
          | exact ⟨HB3.out.1, HB3.out.2.1, HB3.out.2.2⟩
          | exact ⟨HB5.out.1, HB5.out.2.1, HB5.out.2.2⟩
          | go_keep)
        ((first
          | (refine step_src0 (wr := (W.alloc (.cells #[] 5)).drew) rfl _ _ rfl rfl rfl HOW.out HSW.out HRA.out HRl.out (by omega) (by simp) ?_; intro A3 c3 v3 ho3 hb3; have HB3 := Lib.hid (show v3.cell? ⟨wr.heap.size, 0, none⟩ = some (.int .i64 x0) ∧ v3.cell? ⟨wr.heap.size, 1, none⟩ = some (.slice x1 x2 x3) ∧ v3.cell? ⟨wr.heap.size, 2, none⟩ = some (.int .i64 x4) from ⟨(hb3.cell (p := ⟨wr.heap.size, 0, none⟩) hWz).trans HPR.out.1, (hb3.cell (p := ⟨wr.heap.size, 1, none⟩) hWz).trans HPR.out.2.1, (hb3.cell (p := ⟨wr.heap.size, 2, none⟩) hWz).trans HPR.out.2.2⟩); have hbv : Below wr.heap.size wr v3 := HBW.out.trans ((HDR.out.trans hb3).mono (Nat.le_of_lt hWz)); have HOv := Lib.hid (own_belowK HO.out (Nat.le_refl _) hbv); have HBV := Lib.hid hbv; have HO3 := Lib.hid ho3; have hzv : w.heap.size + 2 ≤ v3.heap.size := Nat.le_trans hz hbv.size; have hzv3 : wr.heap.size < v3.heap.size := Nat.lt_of_lt_of_le hWz (HDR.out.trans hb3).size; clear hbv hb3 ho3)
          | (refine step_file (wr := v3) (g := ⟨x0, A3, x2, c3, x4, zs⟩) rfl _ _ rfl rfl v3.heap.size rfl rfl HOv.out (by omega) hzv ?_; intro A5 c5 v5 ho5 hb5 hg5; have HB5 := Lib.hid (show v5.cell? ⟨wr.heap.size, 0, none⟩ = some (.int .i64 x0) ∧ v5.cell? ⟨wr.heap.size, 1, none⟩ = some (.slice x1 x2 x3) ∧ v5.cell? ⟨wr.heap.size, 2, none⟩ = some (.int .i64 x4) from ⟨(hg5.cell_far ⟨wr.heap.size, 0, none⟩ hzv3 HNE.out).trans HB3.out.1, (hg5.cell_far ⟨wr.heap.size, 1, none⟩ hzv3 HNE.out).trans HB3.out.2.1, (hg5.cell_far ⟨wr.heap.size, 2, none⟩ hzv3 HNE.out).trans HB3.out.2.2⟩); have HG5 := Lib.hid hg5; have HOF5 := Lib.hid ho5; have HBB5 := Lib.hid hb5; clear hg5 ho5 hb5)))
      have hbs3 := OwnBs.snocF (g := ⟨x0, A3, x2, c3, x4, zs⟩) HBS.out (HBV.out) HO3.out (Nat.le_of_lt hWz) (by omega)
      have HS5 := Lib.hid (OwnBs.grow hbs3 HOv.out HG5.out)
      have HX5 := Lib.hid ((HBX.out.below HBV.out (by omega)).below HBB5.out (by omega))
      have HY5 := Lib.hid ((HBY.out.below HBV.out (by omega)).below HBB5.out (by omega))
      have HK2 := Lib.hid (show (gs ++ [(⟨x0, A3, x2, c3, x4, zs⟩ : FileD)]).map keyF = (fs.take (k + 1)).map keyF by rw [List.map_append, HKey.out, HKN.out]; rfl)
      have HBF := Lib.hid (HB.out.trans ((HBV.out.mono (by omega)).trans (HBB5.out.mono (by omega))))
      clear hbs3 p0 p1 p2
      go_wp2_with fail
      exact ⟨⟨k + 1, A5, c5, gs ++ [⟨x0, A3, x2, c3, x4, zs⟩], by omega, by go_num, rfl, HOF5.out, HK2, HS5.out, HX5.out, HY5.out, HBF.out⟩, by simp [intOf]; omega⟩
    · obtain rfl : nf = k := by omega
      have e : fs.take nf = fs := List.take_of_length_le (by rw [HFL.out]; exact Nat.le_refl _)
      have hK := HKey.out
      rw [e] at hK
      have HKeyF := Lib.hid hK
      clear hK e HKey
      have q3 := hbx.cell 3
      have f3 := hbx.free 3
      have q4 : wr.cell? ⟨w.heap.size, 4, none⟩ = some (.slice K nk ck) := hbx.cell 4
      have q3' : wr.cell? ⟨w.heap.size, 3, none⟩ = some (.slice F nf cf) := q3
      obtain ⟨v3, hv3⟩ : ∃ v, v = wr.setCell ⟨w.heap.size, 3, none⟩ (.slice A2 nf c2) := ⟨_, rfl⟩
      have HX3 := Lib.hid (show BoxW v3 w.heap.size #[.int .i64 room, .int .i64 fuse, .int .i64 next, .slice A2 nf c2, .slice K nk ck, .slice T nt ct] by rw [hv3]; exact hbx.set3 _)
      have HY3 := Lib.hid (show BoxW v3 (w.heap.size + 1) #[.int .i64 0, .int .i64 0, .int .i64 0, .slice none 0 0, .slice none 0 0, .slice none 0 0] by rw [hv3]; exact hby.other (by omega))
      have HF3 := Lib.hid (show OwnF v3 (w.heap.size + 2) A2 nf c2 gs by rw [hv3]; exact own_setK ho w.heap.size 3 _ (by omega))
      have HS3 := Lib.hid (show OwnBs v3 (w.heap.size + 2) gs by rw [hv3]; exact OwnBs.set_ hbs w.heap.size 3 _ (by omega))
      have HB3 := Lib.hid (show Below w.heap.size w v3 by rw [hv3]; exact hb.setCell (p := ⟨w.heap.size, 3, none⟩) (Nat.le_refl _) _)
      have hz3 : w.heap.size + 1 < v3.heap.size := by rw [hv3]; simpa using hz
      have HV3 := Lib.hid hv3.symm
      have hoe := own_empty v3 86 2
      have hba := (Below.refl v3.heap.size v3).alloc (Nat.le_refl _) (.cells #[] 86)
      have hsrc : RdK 2 (v3.alloc (.cells #[] 86)) w.heap.size K (ks.map linkR) := (HK.out.below (Nat.le_refl _) HB3.out).below (by omega) hba
      have HXa := Lib.hid (HX3.out.below hba (by omega))
      have r4 : (v3.alloc (.cells #[] 86)).cell? ⟨w.heap.size, 4, none⟩ = some (.slice K nk ck) := HXa.out.cell 4
      have HBa := Lib.hid hba
      clear ho hbs hbx hby hb hv3 hba q3 q4
      go_upto_region 8 with fail
      rw [HV3.out]
      go_wp2_with (at_builtin; refine append_rows Tryz.underlying33 linkInfo' rfl (by decide) (by decide) rfl _ _ rfl rfl rfl hoe hsrc (link_len _) (one_link _) hKA (by rw [List.length_map]; exact HKL.out) (by omega) (by omega) (by simp) ?_)
      intro K4 ck4 v4 ho4 hb4 _
      have hx4 := HXa.out.below hb4 (by omega)
      have f4 := hx4.free 4
      have q4 : v4.cell? ⟨w.heap.size, 4, none⟩ = some (.slice K nk ck) := hx4.cell 4
      have hb34 := HBa.out.trans hb4
      obtain ⟨v5, hv5⟩ : ∃ v, v = v4.setCell ⟨w.heap.size, 4, none⟩ (.slice K4 nk ck4) := ⟨_, rfl⟩
      have HX5 := Lib.hid (show BoxW v5 w.heap.size #[.int .i64 room, .int .i64 fuse, .int .i64 next, .slice A2 nf c2, .slice K4 nk ck4, .slice T nt ct] by rw [hv5]; exact hx4.set4 _)
      have HY5 := Lib.hid (show BoxW v5 (w.heap.size + 1) #[.int .i64 0, .int .i64 0, .int .i64 0, .slice none 0 0, .slice none 0 0, .slice none 0 0] by rw [hv5]; exact (HY3.out.below hb34 (by omega)).other (by omega))
      have HF5 := Lib.hid (show OwnF v5 (w.heap.size + 2) A2 nf c2 gs by rw [hv5]; exact own_setK (own_belowK HF3.out (Nat.le_refl _) hb34) w.heap.size 4 _ (by omega))
      have HS5 := Lib.hid (show OwnBs v5 (w.heap.size + 2) gs by rw [hv5]; exact OwnBs.set_ (HS3.out.below (Nat.le_refl _) hb34) w.heap.size 4 _ (by omega))
      have HL5 := Lib.hid (show OwnL v5 (w.heap.size + 2) K4 nk ck4 ks by rw [hv5]; exact own_setK (own_moreK (show OwnL v4 v3.heap.size K4 nk ck4 ks from ho4) (by omega)) w.heap.size 4 _ (by omega))
      have HB5 := Lib.hid (show Below w.heap.size w v5 by rw [hv5]; exact (HB3.out.trans (hb34.mono (by omega))).setCell (p := ⟨w.heap.size, 4, none⟩) (Nat.le_refl _) _)
      have hz5 : w.heap.size + 1 < v5.heap.size := HY5.out.lt
      have HV5 := Lib.hid hv5.symm
      have hoe5 := own_empty v5 60 4
      have hba5 := (Below.refl v5.heap.size v5).alloc (Nat.le_refl _) (.cells #[] 60)
      have hsrc5 : RdK 4 (v5.alloc (.cells #[] 60)) w.heap.size T (ts.map turnR) := (HT.out.below (Nat.le_refl _) HB5.out).below (by omega) hba5
      have HXa5 := Lib.hid (HX5.out.below hba5 (by omega))
      have r5 : (v5.alloc (.cells #[] 60)).cell? ⟨w.heap.size, 5, none⟩ = some (.slice T nt ct) := HXa5.out.cell 5
      have HBa5 := Lib.hid hba5
      clear hx4 hb34 hv5 hba5 ho4 hb4 hoe hsrc r4
      go_upto_region 9 with fail
      rw [HV5.out]
      go_wp2_with (at_builtin; refine append_rows Tryz.underlying34 turnInfo rfl (by decide) (by decide) rfl _ _ rfl rfl rfl hoe5 hsrc5 (turn_len _) (one_turn _) hTA (by rw [List.length_map]; exact HTL.out) (by omega) (by omega) (by simp) ?_)
      intro T6 ct6 v6 ho6 hb6 _
      have hx6 := HXa5.out.below hb6 (by omega)
      have d0 : v6.cell? ⟨w.heap.size, 0, none⟩ = some (.int .i64 room) := hx6.cell 0
      have d1 : v6.cell? ⟨w.heap.size, 1, none⟩ = some (.int .i64 fuse) := hx6.cell 1
      have d2 : v6.cell? ⟨w.heap.size, 2, none⟩ = some (.int .i64 next) := hx6.cell 2
      have d3 : v6.cell? ⟨w.heap.size, 3, none⟩ = some (.slice A2 nf c2) := hx6.cell 3
      have d4 : v6.cell? ⟨w.heap.size, 4, none⟩ = some (.slice K4 nk ck4) := hx6.cell 4
      have d5 : v6.cell? ⟨w.heap.size, 5, none⟩ = some (.slice T nt ct) := hx6.cell 5
      have g5 := hx6.free 5
      have hb56 := HBa5.out.trans hb6
      have hy6 := HY5.out.below hb56 (by omega)
      have y0 : v6.cell? ⟨w.heap.size + 1, 0, none⟩ = some (.int .i64 0) := hy6.cell 0
      have y1 : v6.cell? ⟨w.heap.size + 1, 1, none⟩ = some (.int .i64 0) := hy6.cell 1
      have y2 : v6.cell? ⟨w.heap.size + 1, 2, none⟩ = some (.int .i64 0) := hy6.cell 2
      have y3 : v6.cell? ⟨w.heap.size + 1, 3, none⟩ = some (.slice none 0 0) := hy6.cell 3
      have y4 : v6.cell? ⟨w.heap.size + 1, 4, none⟩ = some (.slice none 0 0) := hy6.cell 4
      have y5 : v6.cell? ⟨w.heap.size + 1, 5, none⟩ = some (.slice none 0 0) := hy6.cell 5
      have z0 := hy6.free 0
      have z1 := hy6.free 1
      have z2 := hy6.free 2
      have z3 := hy6.free 3
      have z4 := hy6.free 4
      have z5 := hy6.free 5
      have HF6 := Lib.hid (own_setK (own_belowK HF5.out (Nat.le_refl _) hb56) w.heap.size 5 (.slice T6 nt ct6) (by omega))
      have HS6 := Lib.hid (OwnBs.set_ (HS5.out.below (Nat.le_refl _) hb56) w.heap.size 5 (.slice T6 nt ct6) (by omega))
      have HL6 := Lib.hid (own_setK (own_belowK HL5.out (Nat.le_refl _) hb56) w.heap.size 5 (.slice T6 nt ct6) (by omega))
      have HT6 := Lib.hid (own_setK (own_moreK (show OwnT v6 v5.heap.size T6 nt ct6 ts from ho6) (base' := w.heap.size + 2) (by omega)) w.heap.size 5 (.slice T6 nt ct6) (by omega))
      have HB6 := Lib.hid ((HB5.out.trans (hb56.mono (by omega))).setCell (p := ⟨w.heap.size, 5, none⟩) (Nat.le_refl _) (.slice T6 nt ct6))
      clear hx6 hy6 hb56 ho6 hb6 hoe5 hsrc5 r5 q4 q3'
      go_wp2_with fail
      refine bodyPost_ret (v := .agg #[.int .i64 room, .int .i64 fuse, .int .i64 next, .slice A2 nf c2, .slice K4 nk ck4, .slice T6 nt ct6]) (by simp [results, Tryz.results21, go_sem, y0, y1, y2, y3, y4, y5]) rfl ⟨A2, c2, K4, ck4, T6, ct6, gs, rfl, ⟨?_, ?_, ?_, ?_⟩, HKeyF.out, ?_⟩
      · exact own_moreK (own_set6 HF6.out (by omega) _ _ _ _ _ _) (by omega)
      · exact OwnBs.more6 HS6.out (by omega) (by omega) _ _ _ _ _ _
      · exact own_moreK (own_set6 HL6.out (by omega) _ _ _ _ _ _) (by omega)
      · exact own_moreK (own_set6 HT6.out (by omega) _ _ _ _ _ _) (by omega)
      · exact (((((HB6.out.setCell (Nat.le_succ _) _).setCell (Nat.le_succ _) _).setCell (Nat.le_succ _) _).setCell (Nat.le_succ _) _).setCell (Nat.le_succ _) _).setCell (Nat.le_succ _) _
end Go.Proofs.YtfkdfabbpebljaaGreat.DOk
