/- Contract of a power failure, in the model. -/
import Derived.Test.YtckiloacbanbmaaGreatKitA
import Derived.Test.YtckiloacbanbmaaGreatKitC
import Derived.Deep.RegionWith
import Derived.Deep.Cut
import Derived.Deep.CutRange
import Derived.Deep.DeepCutAuto
import Derived.IntWalk
import Derived.StillTailTactics
namespace Go.Proofs.YtckiloacbanbmaaGreat.DOk
open Go.RowKit Go.Proofs.YtckiloacbanbmaaGreat.Bytes Go.Proofs.YtckiloacbanbmaaGreat.Rows_ Go.Maps
set_option linter.unusedVariables false

theorem BoxW.set2 {w : World} {b : Nat} {x0 x1 x2 x3 x4 x5 : Value} (h : BoxW w b #[x0, x1, x2, x3, x4, x5]) (v : Value) : BoxW (w.setCell ⟨b, 2, none⟩ v) b #[x0, x1, v, x3, x4, x5] := by
  unfold BoxW at h ⊢; simp [World.setCell, Array.getElem?_modify, h]

set_option maxRecDepth 100000 in
set_option maxHeartbeats 12000000 in
theorem spec_DiskCrash_any (room fuse next : Int) (F : Option Addr) (nf cf : Nat) (K : Option Addr) (nk ck : Nat) (T : Option Addr) (nt ct : Nat) (fs : List FileD) (ks : List LinkD) (ts : List TurnD) (turns : Int) (C : Option Addr) (nc cc : Nat) (cs : List Int) (m : Nat) (w : World)
    (hf : RdF w w.heap.size F fs) (hfl : fs.length = nf) (hfn : nf ≤ 2000000) (hFA : F = none → nf = 0 ∧ cf = 0) (hrb : RdB w w.heap.size fs) (hba_ : ∀ f ∈ fs, f.A = none → f.n = 0 ∧ f.c = 0) (hfid : ∀ x ∈ fs, (Lit.int .i64 x.id).wf = true) (hu : usedD fs ≤ 1099511627776)
    (hk : RdL w w.heap.size K ks) (hkl : ks.length = nk) (hkn : nk ≤ 2000000) (hKA : K = none → nk = 0 ∧ ck = 0) (hks : ∀ x ∈ ks, x.1.size ≤ maxLen ∧ (Lit.int .i64 x.2).wf = true) (ht : RdT w w.heap.size T ts) (htl : ts.length = nt) (htn : nt ≤ 2000000) (hTA : T = none → nt = 0 ∧ ct = 0) (hts : ∀ x ∈ ts, x.name.size ≤ maxLen ∧ x.to_.size ≤ maxLen ∧ (Lit.int .i64 x.id).wf = true)
    (hm : clampD turns (nt : Int) = (m : Int)) (hmn : m ≤ nt) (hC : RdI w w.heap.size C cs) (hCl : cs.length = nc) (hCn : nc ≤ 2097152) :
    Calls Tryz.prog 16 #[.agg #[.int .i64 room, .int .i64 fuse, .int .i64 next, .slice F nf cf, .slice K nk ck, .slice T nt ct], .int .i64 turns, .slice C nc cc] w (AnsDisk (CrashD (OkS room fuse next fs ks ts) room next fs ks ts m cs) w) := by
  have hb0 := (((Below.refl w.heap.size w).alloc (Nat.le_refl _) (.cells #[.int .i64 room, .int .i64 fuse, .int .i64 next, .slice F nf cf, .slice K nk ck, .slice T nt ct] 36)).alloc (by simp) (.cells #[.int .i64 0, .int .i64 0, .int .i64 0, .slice none 0 0, .slice none 0 0, .slice none 0 0] 36))
  have hbx0 : BoxW ((w.alloc (.cells #[.int .i64 room, .int .i64 fuse, .int .i64 next, .slice F nf cf, .slice K nk ck, .slice T nt ct] 36)).alloc (.cells #[.int .i64 0, .int .i64 0, .int .i64 0, .slice none 0 0, .slice none 0 0, .slice none 0 0] 36)) w.heap.size #[.int .i64 room, .int .i64 fuse, .int .i64 next, .slice F nf cf, .slice K nk ck, .slice T nt ct] := by
    unfold BoxW; rw [Below.heap_alloc _ _ _ (by simp)]; exact heap_alloc_new w _
  have hby0 : BoxW ((w.alloc (.cells #[.int .i64 room, .int .i64 fuse, .int .i64 next, .slice F nf cf, .slice K nk ck, .slice T nt ct] 36)).alloc (.cells #[.int .i64 0, .int .i64 0, .int .i64 0, .slice none 0 0, .slice none 0 0, .slice none 0 0] 36)) (w.heap.size + 1) #[.int .i64 0, .int .i64 0, .int .i64 0, .slice none 0 0, .slice none 0 0, .slice none 0 0] := by
    have := heap_alloc_new (w.alloc (.cells #[.int .i64 room, .int .i64 fuse, .int .i64 next, .slice F nf cf, .slice K nk ck, .slice T nt ct] 36)) (.cells #[.int .i64 0, .int .i64 0, .int .i64 0, .slice none 0 0, .slice none 0 0, .slice none 0 0] 36)
    unfold BoxW; simpa using this
  have HCopy := Lib.hid (fun W (h : Below w.heap.size w W) => l02Copy_any room fuse next F nf cf K nk ck T nt ct fs ks ts W ((hf.below (Nat.le_refl _) h).more h.size) hfl (by omega) ((hrb.below (Nat.le_refl _) h).more h.size) hba_ (fun f hf => Nat.le_trans (n_used hf) hu) ((hk.below (Nat.le_refl _) h).more h.size) hkl (by omega) hKA ((ht.below (Nat.le_refl _) h).more h.size) htl (by omega) hTA)
  have HOk := Lib.hid (fun W (h : Below w.heap.size w W) => specOk_any room fuse next F nf cf K nk ck T nt ct fs ks ts W ((hf.below (Nat.le_refl _) h).more h.size) hfl hu ((hk.below (Nat.le_refl _) h).more h.size) hkl (fun x hx => (hks x hx).1) ((ht.below (Nat.le_refl _) h).more h.size) htl (fun x hx => ⟨(hts x hx).1, (hts x hx).2.1⟩))
  have HDir := Lib.hid (fun W (h : Below w.heap.size w W) (h1 : nk ≤ 2000) (h2 : nt ≤ 2000) => l02DirN_any room fuse next F nf cf K nk ck T nt ct ks ts m hmn W ((hk.below (Nat.le_refl _) h).more h.size) hkl h1 hKA ((ht.below (Nat.le_refl _) h).more h.size) htl h2)
  have HCl := Lib.hid (fun W => show Calls Tryz.prog 56 #[.int .i64 turns, .int .i64 (nt : Nat)] W fun e w' => e = .returned (.int .i64 (m : Nat)) ∧ w' = W by rw [← hm]; exact (l02Clamp_any turns nt W).mono fun e w' h => ⟨h.1, h.2.symm⟩)
  have HFL := Lib.hid hfl
  have HTL := Lib.hid htl
  have HKL := Lib.hid hkl
  have HC := Lib.hid hC
  have HCL := Lib.hid hCl
  have HB0 := Lib.hid hb0
  have HX0 := Lib.hid hbx0
  have HY0 := Lib.hid hby0
  have HU := Lib.hid hu
  clear hf hfl hrb hba_ hfid hu hk hkl hks ht htl hts hb0 hbx0 hby0 hm hC hCl hFA hKA hTA
  go_enter Tryz.func16, Tryz.ntmps16
  go_wp2_with fail
  refine (HOk.out _ HB0.out).mono ?_
  rintro e v3 ⟨b1, rfl, hv1, hb3⟩
  have HY3 := Lib.hid (HY0.out.below hb3 (by simp <;> omega))
  have HX3 := Lib.hid (HX0.out.below hb3 (by simp <;> omega))
  have HB3 := Lib.hid (HB0.out.trans (hb3.mono (by simp; omega)))
  have hz3 : w.heap.size + 1 < v3.heap.size := HY3.out.lt
  clear hb3
  cases b1
  · have HP := Lib.hid (show ¬ OkS room fuse next fs ks ts from fun h => by have := hv1.2 h; simp at this)
    have HB := HB3
    clear hv1
    have y0 := HY3.out.cell 0
    have z0 := HY3.out.free 0
    have y1 := HY3.out.cell 1
    have z1 := HY3.out.free 1
    have y2 := HY3.out.cell 2
    have z2 := HY3.out.free 2
    have y3 := HY3.out.cell 3
    have z3 := HY3.out.free 3
    have y4 := HY3.out.cell 4
    have z4 := HY3.out.free 4
    have y5 := HY3.out.cell 5
    have z5 := HY3.out.free 5
    go_wp2_with fail
    refine bodyPost_ret (v := .tuple #[.agg #[.int .i64 0, .int .i64 0, .int .i64 0, .slice none 0 0, .slice none 0 0, .slice none 0 0], .bool false]) (by simp [results, Tryz.results16, go_sem, y0, y1, y2, y3, y4, y5]) rfl ⟨0, 0, 0, none, 0, 0, [], none, 0, 0, [], none, 0, 0, [], _, rfl, ownD_nil _ _, .inr ⟨HP.out, rfl, rfl, rfl, rfl, rfl, rfl, rfl⟩, ?_⟩
    exact below_set6 HB.out (by omega) _ _ _ _ _ _
  · have hq := hv1.1 rfl
    have HQ := Lib.hid hq
    have hf10 : nf ≤ 10 := by have := hq.2.1; rw [HFL.out] at this; exact this
    have x0 := HX3.out.cell 0
    have x1 := HX3.out.cell 1
    have x2 := HX3.out.cell 2
    have x3 := HX3.out.cell 3
    have x4 := HX3.out.cell 4
    have x5 := HX3.out.cell 5
    clear hv1 hq
    go_wp2_with fail
    refine (HCopy.out _ HB3.out).mono ?_
    rintro e v5 ⟨F1, cf1, K1, ck1, T1, ct1, gs, rfl, ho1, hg1, hb5⟩
    have HG1 := Lib.hid hg1
    have hz5 : v3.heap.size ≤ v5.heap.size := hb5.size
    have hba5 : Below v5.heap.size v5 (v5.alloc (.cells #[.int .i64 room, .int .i64 fuse, .int .i64 next, .slice F1 nf cf1, .slice K1 nk ck1, .slice T1 nt ct1] 36)) := (Below.refl _ _).alloc (Nat.le_refl _) _
    have HO6 := Lib.hid ((ho1.more (base' := w.heap.size + 2) (by omega)).below (Nat.le_refl _) hba5)
    have HY6 := Lib.hid ((HY3.out.below hb5 (by omega)).below hba5 (by omega))
    have HX6 := Lib.hid ((HX3.out.below hb5 (by omega)).below hba5 (by omega))
    have HB6 := Lib.hid ((HB3.out.trans (hb5.mono (by omega))).trans (hba5.mono (by omega)))
    have HN6 := Lib.hid (BoxW.new v5 #[.int .i64 room, .int .i64 fuse, .int .i64 next, .slice F1 nf cf1, .slice K1 nk ck1, .slice T1 nt ct1])
    have hbb : w.heap.size + 1 < v5.heap.size := by omega
    have HL6 := Lib.hid (show ∀ i, SD F1 nf cf1 gs K1 nk ck1 T1 nt ct1 i → i ≠ v5.heap.size from fun i hi => by have := (ho1.lt i hi).2; omega)
    clear hg1 ho1 hb5 hba5 x0 x1 x2 x3 x4 x5
    go_upto_region 4 with fail
    generalize hV : v5.alloc (.cells #[.int .i64 room, .int .i64 fuse, .int .i64 next, .slice F1 nf cf1, .slice K1 nk ck1, .slice T1 nt ct1] 36) = V at *
    have hzV : v5.heap.size < V.heap.size := HN6.out.lt
    have hwV : w.heap.size < V.heap.size := by omega
    have hk10 : nk ≤ 10 := by have := HQ.out.2.2.1; rw [HKL.out] at this; omega
    have ht30 : nt ≤ 30 := by have := HQ.out.2.2.2.1; rw [HTL.out] at this; omega
    have HGS := Lib.hid (keys_safe HG1.out (okS_safe HQ.out))
    clear hV HL6
    have t0 := HX6.out.cell 0
    have t1 := HX6.out.cell 1
    have t2 := HX6.out.cell 2
    have t3 := HX6.out.cell 3
    have t4 := HX6.out.cell 4
    have t5 := HX6.out.cell 5
    have u4 := HN6.out.cell 4
    have v4 := HN6.out.free 4
    go_cut [26] (fun s wx => ∃ K' ck', BoxW wx v5.heap.size #[.int .i64 room, .int .i64 fuse, .int .i64 next, .slice F1 nf cf1, .slice K' (dirAt ks (ts.take m)).length ck', .slice T1 nt ct1] ∧ OwnF wx (w.heap.size + 2) F1 nf cf1 gs ∧ OwnBs wx (w.heap.size + 2) gs ∧ OwnL wx (w.heap.size + 2) K' (dirAt ks (ts.take m)).length ck' (dirAt ks (ts.take m)) ∧ (dirAt ks (ts.take m)).length ≤ nk + m ∧ BoxW wx (w.heap.size + 1) #[.int .i64 0, .int .i64 0, .int .i64 0, .slice none 0 0, .slice none 0 0, .slice none 0 0] ∧ Below w.heap.size w wx)
    case first =>
      refine wp_region_still_tail 6 (by kernel_rfl) (by kernel_rfl) ?_
      simp only [List.take_succ_cons, List.take_zero, List.drop_succ_cons, List.drop_zero]
      repeat still_step
      still_call (HCl.out _)
      repeat still_step
      refine wpStill_nil ?_
      change wpList _ _ _ _ _ V.drew
      go_wp2_with fail
      refine (HDir.out _ HB6.out.drew (by omega) (by omega)).mono ?_
      rintro e y2 ⟨Ky, cy, rfl, hoy, hly, hby'⟩
      have hyb : Below V.heap.size V y2 := undrew (W := V) hby'
      clear hby'
      have HOY := Lib.hid (show OwnL y2 V.heap.size Ky (dirAt ks (ts.take m)).length cy (dirAt ks (ts.take m)) from hoy)
      have HLY := Lib.hid hly
      have u4' := (HN6.out.below hyb hzV).cell 4
      have v4' := (HN6.out.below hyb hzV).free 4
      have HYB := Lib.hid hyb
      have hzy : v5.heap.size < y2.heap.size := by have := hyb.size; omega
      clear hoy hyb hly
      all_goals
        have HN7 := Lib.hid ((HN6.out.below HYB.out hzV).set4 (.slice Ky (dirAt ks (ts.take m)).length cy))
        have hneF := box_ne_row HN6.out HO6.out.f (by decide)
        have HF7 := Lib.hid (own_setNe (own_belowK HO6.out.f (Nat.le_refl _) HYB.out) v5.heap.size 4 (.slice Ky (dirAt ks (ts.take m)).length cy) hneF)
        have HS7 := Lib.hid (OwnBs.cell_ (j := 4) (v := .slice Ky (dirAt ks (ts.take m)).length cy) (HO6.out.b.below (Nat.le_refl _) HYB.out) (fun f hf => box_ne_row HN6.out (HO6.out.b.1 f hf) (by decide)))
        have hneL : (Value.slice Ky (dirAt ks (ts.take m)).length cy).ownBlock ≠ some v5.heap.size := fun e => by have := (World.ownsRow.lt HOY.out _ e).1; omega
        have HL7 := Lib.hid (own_setNe HOY.out v5.heap.size 4 (.slice Ky (dirAt ks (ts.take m)).length cy) hneL)
        have HY7 := Lib.hid ((HY6.out.below HYB.out (by omega)).other (b' := v5.heap.size) (j := 4) (v := .slice Ky (dirAt ks (ts.take m)).length cy) (by omega))
        have HB7 := Lib.hid ((HB6.out.trans (HYB.out.mono (by omega))).setCell (p := ⟨v5.heap.size, 4, none⟩) (by show w.heap.size ≤ v5.heap.size; omega) (.slice Ky (dirAt ks (ts.take m)).length cy))
        clear HYB HOY
        go_wp2_with fail
        go_meet
        case rel => exact ⟨Ky, cy, HN7.out, HF7.out, HS7.out, own_moreK HL7.out (by omega), HLY.out, HY7.out, HB7.out⟩
    case rest =>
      obtain ⟨K2, ck2, hn2, hf2, hs2, hl2, hll, hy2, hb2⟩ := hcut
      obtain ⟨nk2, hnk⟩ : ∃ n, n = (dirAt ks (ts.take m)).length := ⟨_, rfl⟩
      rw [← hnk] at hn2 hl2 hll
      have HNK := Lib.hid hnk
      have hz2 : v5.heap.size < wc.heap.size := hn2.lt
      have hneF := box_ne_row hn2 hf2 (by decide)
      have hneL := box_ne_row hn2 hl2 (by decide)
      have hneB : ∀ f ∈ gs, blkF f ≠ some v5.heap.size := fun f hf => box_ne_row hn2 (hs2.1 f hf) (by decide)
      have g5 := hn2.free 5
      have g1 := hn2.free 1
      have c5 := hn2.cell 5
      have c1 := hn2.cell 1
      obtain ⟨V2, hV2⟩ : ∃ V, V = (wc.setCell ⟨v5.heap.size, 5, none⟩ (.slice none 0 0)).setCell ⟨v5.heap.size, 1, none⟩ (.int .i64 (-1)) := ⟨_, rfl⟩
      have HNV := Lib.hid (show BoxW V2 v5.heap.size #[.int .i64 room, .int .i64 (-1), .int .i64 next, .slice F1 nf cf1, .slice K2 nk2 ck2, .slice none 0 0] by rw [hV2]; exact (hn2.set5 _).set1 _)
      have HFV := Lib.hid (show OwnF V2 (w.heap.size + 2) F1 nf cf1 gs by rw [hV2]; exact own_setNe (own_setNe hf2 _ _ _ hneF) _ _ _ hneF)
      have HSV := Lib.hid (show OwnBs V2 (w.heap.size + 2) gs by rw [hV2]; exact (hs2.cell_ hneB).cell_ hneB)
      have HLV := Lib.hid (show OwnL V2 (w.heap.size + 2) K2 nk2 ck2 (dirAt ks (ts.take m)) by rw [hV2]; exact own_setNe (own_setNe hl2 _ _ _ hneL) _ _ _ hneL)
      have HYV := Lib.hid (show BoxW V2 (w.heap.size + 1) #[.int .i64 0, .int .i64 0, .int .i64 0, .slice none 0 0, .slice none 0 0, .slice none 0 0] by rw [hV2]; exact (hy2.other (by omega)).other (by omega))
      have HBV := Lib.hid (show Below w.heap.size w V2 by rw [hV2]; exact (hb2.setCell (p := ⟨v5.heap.size, 5, none⟩) (by show w.heap.size ≤ v5.heap.size; omega) _).setCell (p := ⟨v5.heap.size, 1, none⟩) (by show w.heap.size ≤ v5.heap.size; omega) _)
      have hzV2 : v5.heap.size < V2.heap.size := HNV.out.lt
      have HV2 := Lib.hid hV2.symm
      have HOnly := Lib.hid (l02Only_any room (-1) next F1 nf cf1 K2 nk2 ck2 none 0 0 gs (dirAt ks (ts.take m)) [] V2 HFV.out.rd HO6.out.lenF (by omega) HLV.out.rd HNK.out.symm (by omega) (fun h => absurd h (by simp)) rfl (by omega))
      have p0 := HNV.out.cell 0
      have p1 := HNV.out.cell 1
      have p2 := HNV.out.cell 2
      have p3 := HNV.out.cell 3
      have p4 := HNV.out.cell 4
      have p5 := HNV.out.cell 5
      clear hn2 hf2 hs2 hl2 hy2 hb2 hV2 hneF hneL hneB hnk t0 t1 t2 t3 t4 t5 u4 v4 HX6 HB6 HY6 HN6
      go_upto_region 7 with fail
      rw [HV2.out]
      go_wp2_with fail
      refine HOnly.out.mono ?_
      rintro e v8 ⟨F8, n8, cf8, rfl, ho8, hb8⟩
      obtain ⟨hh, hhe⟩ : ∃ l, l = keptF (idsD (dirAt ks (ts.take m)) []) gs := ⟨_, rfl⟩
      have HSF := Lib.hid (show ∀ f ∈ hh, Safe f from fun f hf => HGS.out f (by rw [hhe] at hf; exact kept_mem hf))
      have HNU := Lib.hid (show ∀ f ∈ hh, f.n ≤ 1099511627776 from fun f hf => by
        have h1 : f ∈ gs := by rw [hhe] at hf; exact kept_mem hf
        have h2 := n_used h1
        rw [keys_used HG1.out] at h2
        exact Nat.le_trans h2 HU.out)
      rw [← hhe] at ho8
      obtain rfl : hh.length = n8 := by have h := ho8.1; rw [flat_len 3 _ (file_len _), List.length_map] at h; omega
      have hn10 : hh.length ≤ 10 := by have h1 := kept_len (idsD (dirAt ks (ts.take m)) []) gs; rw [← hhe, HO6.out.lenF] at h1; omega
      have HHE := Lib.hid (show hh = keptF ((dirAt ks (ts.take m)).map (·.2)) gs by rw [hhe]; unfold idsD tids; simp)
      obtain ⟨nh, hnh⟩ : ∃ n, n = hh.length := ⟨_, rfl⟩
      rw [← hnh] at ho8 hn10 ⊢
      have HNL := Lib.hid hnh
      have hs8 := kept_sep (ids := idsD (dirAt ks (ts.take m)) []) (HSV.out.below (Nat.le_refl _) hb8)
      rw [← hhe] at hs8
      have hn8 := HNV.out.below hb8 hzV2
      have hy8 := HYV.out.below hb8 (by omega)
      have hl8 := own_belowK HLV.out (Nat.le_refl _) hb8
      have hneF := box_ne_row hn8 ho8 (by decide)
      have hneL := box_ne_row hn8 hl8 (by decide)
      have hneB : ∀ f ∈ hh, blkF f ≠ some v5.heap.size := fun f hf => box_ne_row hn8 (hs8.1 f hf) (by decide)
      have hb8w := HBV.out.trans (hb8.mono (by omega))
      have a0 := hn8.cell 0
      have a1 := hn8.cell 1
      have a2 := hn8.cell 2
      have a3 := hn8.cell 3
      have a4 := hn8.cell 4
      have a5 := hn8.cell 5
      have b0 := hn8.free 0
      have b1 := hn8.free 1
      have b2 := hn8.free 2
      have b3 := hn8.free 3
      have b4 := hn8.free 4
      have b5 := hn8.free 5
      obtain ⟨V3, hV3⟩ : ∃ V, V = (((((v8.setCell ⟨v5.heap.size, 0, none⟩ (.int .i64 room)).setCell ⟨v5.heap.size, 1, none⟩ (.int .i64 (-1))).setCell ⟨v5.heap.size, 2, none⟩ (.int .i64 next)).setCell ⟨v5.heap.size, 3, none⟩ (.slice F8 nh cf8)).setCell ⟨v5.heap.size, 4, none⟩ (.slice K2 nk2 ck2)).setCell ⟨v5.heap.size, 5, none⟩ (.slice none 0 0) := ⟨_, rfl⟩
      have HN2 := Lib.hid (show BoxW V3 v5.heap.size #[.int .i64 room, .int .i64 (-1), .int .i64 next, .slice F8 nh cf8, .slice K2 nk2 ck2, .slice none 0 0] by rw [hV3]; exact (((((hn8.set0 _).set1 _).set2 _).set3 _).set4 _).set5 _)
      have HF2 := Lib.hid (show OwnF V3 (w.heap.size + 2) F8 nh cf8 hh by rw [hV3]; exact own_setNe (own_setNe (own_setNe (own_setNe (own_setNe (own_setNe (own_moreK ho8 (by omega)) _ _ _ hneF) _ _ _ hneF) _ _ _ hneF) _ _ _ hneF) _ _ _ hneF) _ _ _ hneF)
      have HS2 := Lib.hid (show OwnBs V3 (w.heap.size + 2) hh by rw [hV3]; exact (((((hs8.cell_ hneB).cell_ hneB).cell_ hneB).cell_ hneB).cell_ hneB).cell_ hneB)
      have HL2 := Lib.hid (show OwnL V3 (w.heap.size + 2) K2 nk2 ck2 (dirAt ks (ts.take m)) by rw [hV3]; exact own_setNe (own_setNe (own_setNe (own_setNe (own_setNe (own_setNe hl8 _ _ _ hneL) _ _ _ hneL) _ _ _ hneL) _ _ _ hneL) _ _ _ hneL) _ _ _ hneL)
      have HY2 := Lib.hid (show BoxW V3 (w.heap.size + 1) #[.int .i64 0, .int .i64 0, .int .i64 0, .slice none 0 0, .slice none 0 0, .slice none 0 0] by rw [hV3]; exact (((((hy8.other (by omega)).other (by omega)).other (by omega)).other (by omega)).other (by omega)).other (by omega))
      have HB2 := Lib.hid (show Below w.heap.size w V3 by rw [hV3]; exact below_set6 hb8w (by omega) _ _ _ _ _ _)
      have HV3 := Lib.hid hV3.symm
      have c3 := HN2.out.cell 3
      clear ho8 hb8 hs8 hn8 hy8 hl8 hb8w hneF hneL hneB hV3 hhe hnh HOnly HNV HFV HSV HLV HYV HBV HGS p0 p1 p2 p3 p4 p5 c5 c1 g5 g1 hz2
      go_upto_region 8 with fail
      rw [HV3.out]
      clear a0 a1 a2 a3 a4 a5 b0 b1 b2 b3 b4 b5
      go_wp2_with fail
      clear c3
      go_loopw [34] (fun i wr => ∃ k : Nat, k ≤ nh ∧ i = .int .i64 (k : Nat) ∧ Hid (OwnF wr (w.heap.size + 2) F8 nh cf8 (cutAll cs 0 (hh.take k) ++ hh.drop k)) ∧ Hid (OwnBs wr (w.heap.size + 2) (cutAll cs 0 (hh.take k) ++ hh.drop k)) ∧ Hid (OwnL wr (w.heap.size + 2) K2 nk2 ck2 (dirAt ks (ts.take m))) ∧
        BoxW wr v5.heap.size #[.int .i64 room, .int .i64 (-1), .int .i64 next, .slice F8 nh cf8, .slice K2 nk2 ck2, .slice none 0 0] ∧ BoxW wr (w.heap.size + 1) #[.int .i64 0, .int .i64 0, .int .i64 0, .slice none 0 0, .slice none 0 0, .slice none 0 0] ∧ Below w.heap.size w wr) (fun i _ => nh - (intOf i).toNat)
      case atStart => exact ⟨0, Nat.zero_le _, rfl, HF2, HS2, HL2, HN2.out, HY2.out, HB2.out⟩
      case round =>
        clear HN2 HF2 HS2 HL2 HY2 HB2
        obtain ⟨k, hk, rfl, HOw, HBs, HLs, hn, hy, hb⟩ := hrel
        have hzb : v5.heap.size < wr.heap.size := hn.lt
        by_cases hlt : k < nh
        · have hlt' : k < hh.length := by rw [← HNL.out]; exact hlt
          obtain ⟨g, rfl⟩ := own_addr HOw.out (by omega)
          have hgl := World.ownsRow.lt HOw.out g rfl
          have hgb : v5.heap.size ≠ g := fun e => box_ne_row hn HOw.out (by decide) (by rw [e]; rfl)
          have hgy : w.heap.size + 1 ≠ g := by omega
          have hkd : hh.drop k = hh[k] :: hh.drop (k + 1) := List.drop_eq_getElem_cons hlt'
          have hsafe := HSF.out _ (List.getElem_mem hlt')
          obtain ⟨f, hfe⟩ : ∃ f, f = hh[k] := ⟨_, rfl⟩
          have HFE := Lib.hid hfe
          rw [← hfe] at hkd hsafe
          have hcl : (cutAll cs 0 (hh.take k)).length = k := by rw [cutAll_len, List.length_take]; omega
          have hpl : ((cutAll cs 0 (hh.take k)).map fileR).length = k := by rw [List.length_map]; exact hcl
          have hlist : cutAll cs 0 (hh.take k) ++ hh.drop k = cutAll cs 0 (hh.take k) ++ [f] ++ hh.drop (k + 1) := by rw [hkd, List.append_assoc]; rfl
          have hnext : cutAll cs 0 (hh.take (k + 1)) ++ hh.drop (k + 1) = cutAll cs 0 (hh.take k) ++ [cutF (kAt cs k) f] ++ hh.drop (k + 1) := by
            rw [List.take_succ_eq_append_getElem hlt', cutAll_snoc, List.length_take, Nat.min_eq_left (Nat.le_of_lt hlt'), Nat.zero_add, ← hfe]
          have hrow : (cutAll cs 0 (hh.take k) ++ [f] ++ hh.drop (k + 1)).map fileR = (cutAll cs 0 (hh.take k)).map fileR ++ [[Value.int .i64 f.id, Value.slice f.A f.n f.c, Value.int .i64 f.safe]] ++ (hh.drop (k + 1)).map fileR := by
            rw [List.map_append, List.map_append]; rfl
          have hO := HOw.out
          unfold OwnF at hO
          rw [hlist, hrow] at hO
          have hr3 : ∀ r ∈ (cutAll cs 0 (hh.take k)).map fileR ++ [[Value.int .i64 f.id, Value.slice f.A f.n f.c, Value.int .i64 f.safe]] ++ (hh.drop (k + 1)).map fileR, r.length = 3 := by rw [← hrow]; exact file_len _
          have hat : ((cutAll cs 0 (hh.take k)).map fileR ++ [[Value.int .i64 f.id, Value.slice f.A f.n f.c, Value.int .i64 f.safe]] ++ (hh.drop (k + 1)).map fileR)[k]? = some [Value.int .i64 f.id, Value.slice f.A f.n f.c, Value.int .i64 f.safe] := by
            rw [List.append_assoc, List.getElem?_append_right (by rw [hpl]; exact Nat.le_refl _), hpl]; simp
          have hc0 : wr.cell? ⟨g, k * 3, none⟩ = some (.int .i64 f.id) := by
            rw [World.ownsRow.cellAt (h := hO) (k * 3) (by omega)]; exact flat_at 3 _ hr3 k _ hat 0 _ rfl
          have hc1 : wr.cell? ⟨g, k * 3 + 1, none⟩ = some (.slice f.A f.n f.c) := by
            rw [World.ownsRow.cellAt (h := hO) (k * 3 + 1) (by omega)]; exact flat_at 3 _ hr3 k _ hat 1 _ rfl
          have hc2 : wr.cell? ⟨g, k * 3 + 2, none⟩ = some (.int .i64 f.safe) := by
            rw [World.ownsRow.cellAt (h := hO) (k * 3 + 2) (by omega)]; exact flat_at 3 _ hr3 k _ hat 2 _ rfl
          have hf1 := World.ownsRow.frozenAt (h := hO) (k * 3 + 1)
          have hf2 := World.ownsRow.frozenAt (h := hO) (k * 3 + 2)
          have hB := HBs.out
          rw [hlist] at hB
          have hbf := hB.1 f (by simp)
          have hcap := Own.cap hbf
          have hblk : ∀ x ∈ cutAll cs 0 (hh.take k) ++ [f] ++ hh.drop (k + 1), blkF x ≠ some g := fun x hx => fun e => own_ne (hB.1 x hx) hO (by decide) g e rfl
          obtain ⟨hM, hMe⟩ := cutN_le (k := kAt cs k) hsafe
          obtain ⟨M, hMd⟩ : ∃ M, M = cutN (kAt cs k) f := ⟨_, rfl⟩
          rw [← hMd] at hM hMe
          have HB' := Lib.hid (show OwnBs wr (w.heap.size + 2) (cutAll cs 0 (hh.take k) ++ [cutF (kAt cs k) f] ++ hh.drop (k + 1)) from
            bodies_swap (g := f) (g' := cutF (kAt cs k) f) (blk_any f.A _ _ _ _) hB (by show Own wr _ f.A (cutN (kAt cs k) f) f.c (f.bytes.take (cutN (kAt cs k) f)); rw [← hMd]; exact own_takeB hbf hM))
          have HBLK := Lib.hid (show ∀ x ∈ cutAll cs 0 (hh.take k) ++ [cutF (kAt cs k) f] ++ hh.drop (k + 1), blkF x ≠ some g from fun x hx => by
            rcases List.mem_append.1 hx with hx | hx
            · rcases List.mem_append.1 hx with hx | hx
              · exact hblk x (by simp [hx])
              · rw [List.mem_singleton] at hx; subst hx
                exact fun e => hblk f (by simp) ((blk_any f.A f.n (cutN (kAt cs k) f) f.c f.c).trans e)
            · exact hblk x (by simp [hx]))
          have HEND := Lib.hid (show (cutAll cs 0 (hh.take (k + 1)) ++ hh.drop (k + 1)).map fileR = (cutAll cs 0 (hh.take k)).map fileR ++ [[Value.int .i64 f.id, Value.slice f.A M f.c, Value.int .i64 (M : Nat)]] ++ (hh.drop (k + 1)).map fileR by
            rw [hnext, List.map_append, List.map_append, hMd]; rfl)
          have HNX := Lib.hid hnext
          have HO := Lib.hid hO
          have HPL := Lib.hid hpl
          have HN := Lib.hid hn
          have HY := Lib.hid hy
          have HB := Lib.hid hb
          have c3 := hn.cell 3
          have hgw : g < wr.heap.size := hgl.2
          have hgw0 : w.heap.size ≤ g := by omega
          have hn0 : 0 ≤ f.safe := hsafe.1
          have hn1 : f.safe ≤ (f.n : Int) := hsafe.2
          have hbd : f.n ≤ 1099511627776 := by rw [hfe]; exact HNU.out _ (List.getElem_mem hlt')
          clear hn hy hb hO hB hbf hblk hr3 hat hrow hlist hnext hkd hsafe hpl hcl hMd hfe HOw HBs
          obtain ⟨W, hW⟩ : ∃ W, W = wr.alloc (.cells #[.int .i64 f.id, .slice f.A f.n f.c, .int .i64 f.safe] 65) := ⟨_, rfl⟩
          have hbW : Below wr.heap.size wr W := by rw [hW]; exact (Below.refl _ _).alloc (Nat.le_refl _) _
          have p0 : W.cell? ⟨wr.heap.size, 0, none⟩ = some (.int .i64 f.id) := by rw [hW, World.cell?_alloc_at _ _ _ _ rfl]; rfl
          have p1 : W.cell? ⟨wr.heap.size, 1, none⟩ = some (.slice f.A f.n f.c) := by rw [hW, World.cell?_alloc_at _ _ _ _ rfl]; rfl
          have p2 : W.cell? ⟨wr.heap.size, 2, none⟩ = some (.int .i64 f.safe) := by rw [hW, World.cell?_alloc_at _ _ _ _ rfl]; rfl
          have hWz : wr.heap.size < W.heap.size := by rw [hW]; simp
          have HNW := Lib.hid (HN.out.below hbW hzb)
          have HYW := Lib.hid (HY.out.below hbW (by omega))
          have HOW := Lib.hid (own_belowK HO.out (Nat.le_refl _) hbW)
          have HBsW := Lib.hid (HB'.out.below (Nat.le_refl _) hbW)
          have HLW := Lib.hid (own_belowK HLs.out (Nat.le_refl _) hbW)
          have HBW := Lib.hid (HB.out.trans (hbW.mono (by omega)))
          have d0 := (hbW.cell (p := ⟨g, k * 3, none⟩) hgw).trans hc0
          have d1 := (hbW.cell (p := ⟨g, k * 3 + 1, none⟩) hgw).trans hc1
          have d2 := (hbW.cell (p := ⟨g, k * 3 + 2, none⟩) hgw).trans hc2
          have e0 := World.ownsRow.frozenAt (h := HOW.out) (k * 3)
          have e1 := World.ownsRow.frozenAt (h := HOW.out) (k * 3 + 1)
          have e2 := World.ownsRow.frozenAt (h := HOW.out) (k * 3 + 2)
          have q3 : W.cell? ⟨v5.heap.size, 3, none⟩ = some (.slice (some ⟨g, 0, none⟩) nh cf8) := HNW.out.cell 3
          have hwM : IntKind.i64.wrap ((M : Nat) : Int) = ((M : Nat) : Int) := IntWalk.i64_in _ (by omega)
          have HRW := Lib.hid (fun (h0 : 0 < nc) => (HC.out.below (Nat.le_refl _) HBW.out).at_ (k := k % nc) (by rw [HCL.out]; exact Nat.mod_lt _ h0))
          have HOF := Lib.hid (show OwnF (((W.setCell ⟨g, k * 3, none⟩ (.int .i64 f.id)).setCell ⟨g, k * 3 + 1, none⟩ (.slice f.A M f.c)).setCell ⟨g, k * 3 + 2, none⟩ (.int .i64 (M : Nat))) (w.heap.size + 2) (some ⟨g, 0, none⟩) nh cf8 (cutAll cs 0 (hh.take (k + 1)) ++ hh.drop (k + 1)) by
              unfold OwnF; rw [HEND.out]
              exact row3 (.int .i64 f.id) (.slice f.A M f.c) (.int .i64 (M : Nat)) (file_len _) k HPL.out HOW.out)
          have HBF := Lib.hid (show OwnBs (((W.setCell ⟨g, k * 3, none⟩ (.int .i64 f.id)).setCell ⟨g, k * 3 + 1, none⟩ (.slice f.A M f.c)).setCell ⟨g, k * 3 + 2, none⟩ (.int .i64 (M : Nat))) (w.heap.size + 2) (cutAll cs 0 (hh.take (k + 1)) ++ hh.drop (k + 1)) by rw [HNX.out]; exact OwnBs.cell_ (OwnBs.cell_ (OwnBs.cell_ (HBsW.out) HBLK.out) HBLK.out) HBLK.out)
          have HLF := Lib.hid (show OwnL (((W.setCell ⟨g, k * 3, none⟩ (.int .i64 f.id)).setCell ⟨g, k * 3 + 1, none⟩ (.slice f.A M f.c)).setCell ⟨g, k * 3 + 2, none⟩ (.int .i64 (M : Nat))) (w.heap.size + 2) K2 nk2 ck2 (dirAt ks (ts.take m)) from own_setNe (own_setNe (own_setNe (HLW.out) g _ _ (fun e => own_ne HLs.out HO.out (by decide) g e rfl)) g _ _ (fun e => own_ne HLs.out HO.out (by decide) g e rfl)) g _ _ (fun e => own_ne HLs.out HO.out (by decide) g e rfl))
          have HNF := Lib.hid (show BoxW (((W.setCell ⟨g, k * 3, none⟩ (.int .i64 f.id)).setCell ⟨g, k * 3 + 1, none⟩ (.slice f.A M f.c)).setCell ⟨g, k * 3 + 2, none⟩ (.int .i64 (M : Nat))) v5.heap.size #[.int .i64 room, .int .i64 (-1), .int .i64 next, .slice (some ⟨g, 0, none⟩) nh cf8, .slice K2 nk2 ck2, .slice none 0 0] from BoxW.other (BoxW.other (BoxW.other (HNW.out) hgb) hgb) hgb)
          have HYF := Lib.hid (show BoxW (((W.setCell ⟨g, k * 3, none⟩ (.int .i64 f.id)).setCell ⟨g, k * 3 + 1, none⟩ (.slice f.A M f.c)).setCell ⟨g, k * 3 + 2, none⟩ (.int .i64 (M : Nat))) (w.heap.size + 1) #[.int .i64 0, .int .i64 0, .int .i64 0, .slice none 0 0, .slice none 0 0, .slice none 0 0] from BoxW.other (BoxW.other (BoxW.other (HYW.out) hgy) hgy) hgy)
          have HWF := Lib.hid (show Below w.heap.size w (((W.setCell ⟨g, k * 3, none⟩ (.int .i64 f.id)).setCell ⟨g, k * 3 + 1, none⟩ (.slice f.A M f.c)).setCell ⟨g, k * 3 + 2, none⟩ (.int .i64 (M : Nat))) from Below.setCell (Below.setCell (Below.setCell (HBW.out) (p := ⟨g, _, none⟩) hgw0 _) (p := ⟨g, _, none⟩) hgw0 _) (p := ⟨g, _, none⟩) hgw0 _)
          have HCM := Lib.hid (fun V => (l02Clamp_any (kAt cs k) ((f.n : Int) - f.safe) V).mono fun e w' h => (⟨h.1, h.2.symm⟩ : e = _ ∧ w' = V))
          have hsub : IntKind.i64.wrap ((f.n : Int) - f.safe) = (f.n : Int) - f.safe := IntWalk.i64_in _ (by omega)
          have hsum : IntKind.i64.wrap (f.safe + clampD (kAt cs k) ((f.n : Int) - f.safe)) = ((M : Nat) : Int) := by rw [← hMe]; exact IntWalk.i64_in _ (by omega)
          have hrem : 0 < nc → ((k : Nat) : Int).tmod ((nc : Nat) : Int) = ((k % nc : Nat) : Int) := fun h0 => by
            rw [Int.tmod_eq_emod_of_nonneg (by omega), Int.natCast_emod]
          have hsum2 : f.safe + clampD (kAt cs k) ((f.n : Int) - f.safe) = ((M : Nat) : Int) := hMe.symm
          have HREM := Lib.hid hrem
          have HKZ := Lib.hid (fun (h : cs.length = 0) => kAt_zero (k := k) h)
          have HKA := Lib.hid (fun (h0 : 0 < nc) (hr : k % nc < cs.length) => kAt_at HCL.out h0 hr)
          have hMn : M ≤ f.n := hM
          have hMc : M ≤ f.c := by omega
          have HW := Lib.hid hW.symm
          clear hrem hMe hbW hW hf1 hf2
          generalize hkz : kAt cs k = kz at *
          clear hkz
          generalize hzd : clampD kz ((f.n : Int) - f.safe) = dz at *
          clear hzd
          generalize f.id = x0 at *
          generalize f.A = x1 at *
          generalize f.n = x2 at *
          generalize f.c = x3 at *
          generalize f.safe = x4 at *
          go_upto_if 41 with fail
          rw [HW.out]
          clear HW hc0 hc1 hc2 c3
          go_cut [11] (fun s wx => s = .int .i64 kz ∧ W = wx)
          case first =>
            by_cases hnc : nc = 0
            · subst hnc
              obtain rfl : kz = 0 := HKZ.out HCL.out
              go_wp2_with fail
              go_meet
              case rel => exact ⟨rfl, rfl⟩
            · have hnc0 : 0 < nc := by omega
              have hr : k % nc < nc := Nat.mod_lt _ hnc0
              obtain ⟨cb, co, rfl, hcb, hcc⟩ := HRW.out hnc0
              rw [HKA.out hnc0] at hcc
              have hrem := HREM.out hnc0
              obtain ⟨r, hre⟩ : ∃ r, r = k % nc := ⟨_, rfl⟩
              rw [← hre] at hrem hcc hr
              have hrn : ((nc : Nat) : Int) ≠ 0 := by omega
              have hrb : (((nc : Nat) : Int) == 0) = false := by simp; omega
              have hri : ((r : Nat) : Int) < ((nc : Nat) : Int) := by omega
              have hrp : (0 : Int) ≤ ((r : Nat) : Int) := by omega
              clear hre
              have hncb : decide (((nc : Nat) : Int) > 0) = true := by simp; omega
              go_wp2_with fail
              go_meet
              case rel => exact ⟨rfl, rfl⟩
          case rest =>
            obtain ⟨hs, hw⟩ := hcut
            subst hs
            subst hw
            go_wp2_with fail
            refine wp_region_still_lit (by kernel_rfl) (by kernel_rfl) ?_
            repeat still_step
            still_call (HCM.out _)
            repeat still_step
            refine wpStill_nil ?_
            go_wp2_with fail
            go_region
            all_goals
              go_wp2_with fail
              exact ⟨⟨k + 1, by omega, by go_num, Lib.hid HOF.out, Lib.hid HBF.out, Lib.hid HLF.out, HNF.out, HYF.out, HWF.out.drew.drew⟩, by simp [intOf]; omega⟩
        · obtain rfl : nh = k := by omega
          have e1 : hh.take nh = hh := List.take_of_length_le (by rw [← HNL.out]; exact Nat.le_refl _)
          have e2 : hh.drop nh = [] := List.drop_of_length_le (by rw [← HNL.out]; exact Nat.le_refl _)
          have hO := HOw.out
          have hB := HBs.out
          rw [e1, e2, List.append_nil] at hO hB
          have HOD := Lib.hid (show OwnD wr (w.heap.size + 2) F8 nh cf8 (cutAll cs 0 hh) K2 nk2 ck2 (dirAt ks (ts.take m)) none 0 0 [] from ⟨hO, hB, HLs.out, World.ownsRow_nil _ _ _ _⟩)
          have HBB := Lib.hid hb
          have HKE := Lib.hid (show (cutAll cs 0 hh).map keyF = (cutAll cs 0 (keptF ((dirAt ks (ts.take m)).map (·.2)) fs)).map keyF from cutAll_keys cs _ _ 0 (by rw [HHE.out]; exact kept_keys _ _ _ HG1.out))
          have x0 := hn.cell 0
          have x1 := hn.cell 1
          have x2 := hn.cell 2
          have x3 := hn.cell 3
          have x4 := hn.cell 4
          have x5 := hn.cell 5
          have y0 := hy.cell 0
          have z0 := hy.free 0
          have y1 := hy.cell 1
          have z1 := hy.free 1
          have y2 := hy.cell 2
          have z2 := hy.free 2
          have y3 := hy.cell 3
          have z3 := hy.free 3
          have y4 := hy.cell 4
          have z4 := hy.free 4
          have y5 := hy.cell 5
          have z5 := hy.free 5
          clear hO hB e1 e2 hn hy hb HOw HBs HLs
          go_wp2_with fail
          refine bodyPost_ret (v := .tuple #[.agg #[.int .i64 room, .int .i64 (-1), .int .i64 next, .slice F8 nh cf8, .slice K2 nk2 ck2, .slice none 0 0], .bool true]) (by simp [results, Tryz.results16, go_sem, y0, y1, y2, y3, y4, y5]) rfl ⟨room, -1, next, F8, nh, cf8, cutAll cs 0 hh, K2, nk2, ck2, dirAt ks (ts.take m), none, 0, 0, [], _, rfl, ?_, .inl ⟨HQ.out, rfl, rfl, rfl, rfl, HKE.out, rfl, rfl⟩, ?_⟩
          · exact OwnD.more (OwnD.set6 HOD.out (fun i hi => by have := (HOD.out.lt i hi).1; omega) _ _ _ _ _ _) (by omega)
          · exact below_set6 HBB.out (by omega) _ _ _ _ _ _
end Go.Proofs.YtckiloacbanbmaaGreat.DOk
