/- Contract of a power failure, in the program. -/
import Derived.Test.YtckiloacbanbmaaGreatKitA
import Derived.Test.YtckiloacbanbmaaGreatClampI
import Derived.Test.YtckiloacbanbmaaGreatSetBase
import Derived.Test.YtckiloacbanbmaaGreatImplOk
import Derived.Deep.RegionWith
import Derived.Deep.Cut
import Derived.Deep.CutRange
import Derived.Deep.DeepCutAuto
import Derived.IntWalk
import Derived.StillTailTactics
namespace Go.Proofs.YtckiloacbanbmaaGreat.DOk
open Go.RowKit Go.Proofs.YtckiloacbanbmaaGreat.Bytes Go.Proofs.YtckiloacbanbmaaGreat.Rows_ Go.Maps
set_option linter.unusedVariables false

set_option maxRecDepth 100000 in
set_option maxHeartbeats 12000000 in
theorem impl_DiskCrash_any (room fuse next : Int) (F : Option Addr) (nf cf : Nat) (K : Option Addr) (nk ck : Nat) (T : Option Addr) (nt ct : Nat) (fs : List FileD) (ks : List LinkD) (ts : List TurnD) (turns : Int) (C : Option Addr) (nc cc : Nat) (cs : List Int) (m : Nat) (w : World)
    (hf : RdF w w.heap.size F fs) (hfl : fs.length = nf) (hfn : nf ≤ 2000000) (hFA : F = none → nf = 0 ∧ cf = 0) (hrb : RdB w w.heap.size fs) (hba_ : ∀ f ∈ fs, f.A = none → f.n = 0 ∧ f.c = 0) (hfid : ∀ x ∈ fs, (Lit.int .i64 x.id).wf = true) (hu : usedD fs ≤ 1099511627776)
    (hk : RdL w w.heap.size K ks) (hkl : ks.length = nk) (hkn : nk ≤ 2000000) (hKA : K = none → nk = 0 ∧ ck = 0) (hks : ∀ x ∈ ks, x.1.size ≤ maxLen ∧ (Lit.int .i64 x.2).wf = true) (ht : RdT w w.heap.size T ts) (htl : ts.length = nt) (htn : nt ≤ 2000000) (hTA : T = none → nt = 0 ∧ ct = 0) (hts : ∀ x ∈ ts, x.name.size ≤ maxLen ∧ x.to_.size ≤ maxLen ∧ (Lit.int .i64 x.id).wf = true)
    (hm : clampD turns (nt : Int) = (m : Int)) (hmn : m ≤ nt) (htc : nt ≤ ct) (hTo : (T = none ∧ nt = 0 ∧ ct = 0) ∨ ∃ g, T = some ⟨g, 0, none⟩) (hC : RdI w w.heap.size C cs) (hCl : cs.length = nc) (hCn : nc ≤ 2097152) :
    Calls Tryz.prog 18 #[.agg #[.int .i64 room, .int .i64 fuse, .int .i64 next, .slice F nf cf, .slice K nk ck, .slice T nt ct], .int .i64 turns, .slice C nc cc] w (AnsDisk (CrashD (OkS room fuse next fs ks ts) room next fs ks ts m cs) w) := by
  have hb0 := (((Below.refl w.heap.size w).alloc (Nat.le_refl _) (.cells #[.int .i64 room, .int .i64 fuse, .int .i64 next, .slice F nf cf, .slice K nk ck, .slice T nt ct] 36)).alloc (by simp) (.cells #[.int .i64 0, .int .i64 0, .int .i64 0, .slice none 0 0, .slice none 0 0, .slice none 0 0] 36))
  have hbx0 : BoxW ((w.alloc (.cells #[.int .i64 room, .int .i64 fuse, .int .i64 next, .slice F nf cf, .slice K nk ck, .slice T nt ct] 36)).alloc (.cells #[.int .i64 0, .int .i64 0, .int .i64 0, .slice none 0 0, .slice none 0 0, .slice none 0 0] 36)) w.heap.size #[.int .i64 room, .int .i64 fuse, .int .i64 next, .slice F nf cf, .slice K nk ck, .slice T nt ct] := by
    unfold BoxW; rw [Below.heap_alloc _ _ _ (by simp)]; exact heap_alloc_new w _
  have hby0 : BoxW ((w.alloc (.cells #[.int .i64 room, .int .i64 fuse, .int .i64 next, .slice F nf cf, .slice K nk ck, .slice T nt ct] 36)).alloc (.cells #[.int .i64 0, .int .i64 0, .int .i64 0, .slice none 0 0, .slice none 0 0, .slice none 0 0] 36)) (w.heap.size + 1) #[.int .i64 0, .int .i64 0, .int .i64 0, .slice none 0 0, .slice none 0 0, .slice none 0 0] := by
    have := heap_alloc_new (w.alloc (.cells #[.int .i64 room, .int .i64 fuse, .int .i64 next, .slice F nf cf, .slice K nk ck, .slice T nt ct] 36)) (.cells #[.int .i64 0, .int .i64 0, .int .i64 0, .slice none 0 0, .slice none 0 0, .slice none 0 0] 36)
    unfold BoxW; simpa using this
  have HCopy := Lib.hid (fun W (h : Below w.heap.size w W) => copyDisk_any room fuse next F nf cf K nk ck T nt ct fs ks ts W ((hf.below (Nat.le_refl _) h).more h.size) hfl (by omega) hFA ((hrb.below (Nat.le_refl _) h).more h.size) hba_ (fun f hf => Nat.le_trans (n_used hf) hu) ((hk.below (Nat.le_refl _) h).more h.size) hkl (by omega) hKA ((ht.below (Nat.le_refl _) h).more h.size) htl (by omega) hTA)
  have HOk := Lib.hid (fun W (h : Below w.heap.size w W) => implOk_any room fuse next F nf cf K nk ck T nt ct fs ks ts W ((hf.below (Nat.le_refl _) h).more h.size) hfl hfn hfid hu ((hk.below (Nat.le_refl _) h).more h.size) hkl hkn hks ((ht.below (Nat.le_refl _) h).more h.size) htl htn hts)
  have HDir := Lib.hid (fun W (h : Below w.heap.size w W) => directoryOf_any K nk ck T m ct ks (ts.take m) W ((hk.below (Nat.le_refl _) h).more h.size) hkl (by omega) hks ((RdT.below (RdT.take ht m) (Nat.le_refl _) h).more h.size) (by rw [List.length_take, htl]; omega) (by omega) (fun x hx => hts x (List.mem_of_mem_take hx)))
  have HCl := Lib.hid (fun W => show Calls Tryz.prog 58 #[.int .i64 turns, .int .i64 0, .int .i64 (nt : Nat)] W fun e w' => e = .returned (.int .i64 (m : Nat)) ∧ w' = W by rw [← hm]; exact (clamp_any turns nt (by omega) W).mono fun e w' h => ⟨h.1, h.2.symm⟩)
  have HKS := Lib.hid hks
  have HFID := Lib.hid hfid
  have HFL := Lib.hid hfl
  have HTL := Lib.hid htl
  have HKL := Lib.hid hkl
  have HC := Lib.hid hC
  have HCL := Lib.hid hCl
  have HB0 := Lib.hid hb0
  have HX0 := Lib.hid hbx0
  have HY0 := Lib.hid hby0
  have HTO := Lib.hid hTo
  have HU := Lib.hid hu
  clear hf hfl hrb hba_ hfid hu hk hkl hks ht htl hts hb0 hbx0 hby0 hm hC hCl hTo hFA hKA hTA
  go_enter Tryz.func18, Tryz.ntmps18
  go_wp2_with fail
  refine (HOk.out _ HB0.out).mono ?_
  rintro e v3 ⟨b1, rfl, hv1, hb3⟩
  replace hv1 := hv1.trans (ok_iff room fuse next fs ks ts).symm
  have HY3 := Lib.hid (HY0.out.below hb3 (by simp <;> omega))
  have HX3 := Lib.hid (HX0.out.below hb3 (by simp <;> omega))
  have HB3 := Lib.hid (HB0.out.trans (hb3.mono (by simp; omega)))
  have hz3 : w.heap.size + 1 < v3.heap.size := HY3.out.lt
  clear hb3
  cases b1
  · have HP := Lib.hid (show ¬ OkS room fuse next fs ks ts from fun h => by have := hv1.2 h; simp at this)
    have HB := HB3
    clear hv1
    have y0 := HY3.out.cell 0
    have z0 := HY3.out.free 0
    have y1 := HY3.out.cell 1
    have z1 := HY3.out.free 1
    have y2 := HY3.out.cell 2
    have z2 := HY3.out.free 2
    have y3 := HY3.out.cell 3
    have z3 := HY3.out.free 3
    have y4 := HY3.out.cell 4
    have z4 := HY3.out.free 4
    have y5 := HY3.out.cell 5
    have z5 := HY3.out.free 5
    go_wp2_with fail
    refine bodyPost_ret (v := .tuple #[.agg #[.int .i64 0, .int .i64 0, .int .i64 0, .slice none 0 0, .slice none 0 0, .slice none 0 0], .bool false]) (by simp [results, Tryz.results18, go_sem, y0, y1, y2, y3, y4, y5]) rfl ⟨0, 0, 0, none, 0, 0, [], none, 0, 0, [], none, 0, 0, [], _, rfl, ownD_nil _ _, .inr ⟨HP.out, rfl, rfl, rfl, rfl, rfl, rfl, rfl⟩, ?_⟩
    exact below_set6 HB.out (by omega) _ _ _ _ _ _
  · have hq := hv1.1 rfl
    have HQ := Lib.hid hq
    have hf10 : nf ≤ 10 := by have := hq.2.1; rw [HFL.out] at this; exact this
    have x0 := HX3.out.cell 0
    have x1 := HX3.out.cell 1
    have x2 := HX3.out.cell 2
    have x3 := HX3.out.cell 3
    have x4 := HX3.out.cell 4
    have x5 := HX3.out.cell 5
    clear hv1 hq
    go_wp2_with fail
    refine (HCopy.out _ HB3.out).mono ?_
    rintro e v5 ⟨F1, cf1, K1, ck1, T1, ct1, gs, rfl, ho1, hg1, hb5⟩
    have HG1 := Lib.hid hg1
    have hz5 : v3.heap.size ≤ v5.heap.size := hb5.size
    have hba5 : Below v5.heap.size v5 (v5.alloc (.cells #[.int .i64 room, .int .i64 (-1), .int .i64 next, .slice F1 nf cf1, .slice K1 nk ck1, .slice T1 nt ct1] 36)) := (Below.refl _ _).alloc (Nat.le_refl _) _
    have HO6 := Lib.hid ((ho1.more (base' := w.heap.size + 2) (by omega)).below (Nat.le_refl _) hba5)
    have HY6 := Lib.hid ((HY3.out.below hb5 (by omega)).below hba5 (by omega))
    have HX6 := Lib.hid ((HX3.out.below hb5 (by omega)).below hba5 (by omega))
    have HB6 := Lib.hid ((HB3.out.trans (hb5.mono (by omega))).trans (hba5.mono (by omega)))
    have HN6 := Lib.hid (BoxW.new v5 #[.int .i64 room, .int .i64 (-1), .int .i64 next, .slice F1 nf cf1, .slice K1 nk ck1, .slice T1 nt ct1])
    have hbb : w.heap.size + 1 < v5.heap.size := by omega
    have HL6 := Lib.hid (show ∀ i, SD F1 nf cf1 gs K1 nk ck1 T1 nt ct1 i → i ≠ v5.heap.size from fun i hi => by have := (ho1.lt i hi).2; omega)
    clear hg1 ho1 hb5 hba5 x0 x1 x2 x3 x4 x5
    go_upto_region 5 with fail
    generalize hV : v5.alloc (.cells #[.int .i64 room, .int .i64 (-1), .int .i64 next, .slice F1 nf cf1, .slice K1 nk ck1, .slice T1 nt ct1] 36) = V at *
    have HNV := HN6
    have HXV := HX6
    have HYV := HY6
    have HOV := HO6
    have HBV := HB6
    have hzV : v5.heap.size < V.heap.size := HNV.out.lt
    have hwV : w.heap.size < V.heap.size := by omega
    have HPA := Lib.hid (okS_partsN HQ.out m (by rw [HTL.out]; exact hmn))
    have HWL := Lib.hid (show ∀ x ∈ dirAt ks (ts.take m), (Lit.int .i64 x.2).wf = true from fun x hx => by
      obtain ⟨f, hf, e⟩ := List.mem_map.1 (HPA.out.2.2.2 x hx)
      rw [← e]; exact HFID.out f hf)
    have HGW := Lib.hid (show ∀ x ∈ gs, (Lit.int .i64 x.id).wf = true from keys_mem HG1.out (P := fun f => (Lit.int .i64 f.id).wf = true) (fun f g e h => by show (Lit.int .i64 g.id).wf = true; rw [key_id e]; exact h) HFID.out)
    have HGS := Lib.hid (keys_safe HG1.out (okS_safe HQ.out))
    clear hV HO6 HY6 HX6 HB6 HN6 HL6
    obtain ⟨lids, hlids⟩ : ∃ l, l = (dirAt ks (ts.take m)).map (·.2) := ⟨_, rfl⟩
    have HLID := Lib.hid hlids
    have hmt : m ≤ ct := by omega
    have hk10 : nk ≤ 10 := by have := HQ.out.2.2.1; rw [HKL.out] at this; exact this
    have ht30 : nt ≤ 30 := by have := HQ.out.2.2.2.1; rw [HTL.out] at this; exact this
    have hmi : ((m : Nat) : Int) ≤ ((ct : Nat) : Int) := by omega
    have hmp : (0 : Int) ≤ ((m : Nat) : Int) := by omega
    have t4 : V.cell? ⟨w.heap.size, 4, none⟩ = some (.slice K nk ck) := HXV.out.cell 4
    have t5 : V.cell? ⟨w.heap.size, 5, none⟩ = some (.slice T nt ct) := HXV.out.cell 5
    clear hlids
    go_cut [29] (fun s wx => ∃ K' nk' ck', BoxW wx v5.heap.size #[.int .i64 room, .int .i64 (-1), .int .i64 next, .slice F1 (keptF lids gs).length cf1, .slice K' nk' ck', .slice none 0 0] ∧ OwnF wx (w.heap.size + 2) F1 (keptF lids gs).length cf1 (keptF lids gs) ∧ OwnBs wx (w.heap.size + 2) (keptF lids gs) ∧ OwnL wx (w.heap.size + 2) K' nk' ck' (dirAt ks (ts.take m)) ∧ BoxW wx (w.heap.size + 1) #[.int .i64 0, .int .i64 0, .int .i64 0, .slice none 0 0, .slice none 0 0, .slice none 0 0] ∧ Below w.heap.size w wx ∧ v5.heap.size < wx.heap.size)
    case first =>
      have hto : (T = none ∧ nt = 0 ∧ ct = 0 ∧ m = 0) ∨ ∃ g, T = some ⟨g, 0, none⟩ := by
        rcases HTO.out with ⟨h1, h2, h3⟩ | h
        · exact .inl ⟨h1, h2, h3, by omega⟩
        · exact .inr h
      rcases hto with ⟨rfl, rfl, rfl, rfl⟩ | ⟨gT, rfl⟩
      all_goals
        refine wp_region_still_tail 10 (by kernel_rfl) (by kernel_rfl) ?_
        simp only [List.take_succ_cons, List.take_zero, List.drop_succ_cons, List.drop_zero]
        repeat still_step
        still_call (HCl.out _)
        repeat still_step
        refine wpStill_nil ?_
        change wpList _ _ _ _ _ V.drew
        go_wp2_with fail
        refine (HDir.out _ HBV.out.drew).mono ?_
        rintro e y2 ⟨rfl, hoy, hby'⟩
        have hyb : Below V.heap.size V y2 := undrew (W := V) hby'
        clear hby'
        have HOY := Lib.hid (show OwnM y2 V.heap.size _ _ from hoy)
        have HYB := Lib.hid hyb
        have HSet := Lib.hid (settle_any v5.heap.size (w.heap.size + 2) V.heap.size _ (.int .i64 room) (.int .i64 (-1)) (.int .i64 next) F1 nf cf1 (.slice K1 nk ck1) (.slice T1 _ ct1) gs _ _ y2 (HNV.out.below hyb hzV) (own_belowK HOV.out.f (Nat.le_refl _) hyb) HOV.out.lenF (by omega) HGW.out (HOV.out.b.below (Nat.le_refl _) hyb) HOY.out HPA.out.1 HPA.out.2.1 HPA.out.2.2.1 HWL.out (by have := World.ownsMap.size_le HOY.out; omega))
        clear hoy hyb
        go_wp2_with fail
        refine HSet.out.mono ?_
        rintro e y3 ⟨K', nk', ck', rfl, hn3, hf3, hs3, hl3, on3⟩
        rw [← HLID.out] at hn3 hf3 hs3
        have HN3 := Lib.hid hn3
        have HF3 := Lib.hid hf3
        have HS3 := Lib.hid hs3
        have HL3 := Lib.hid hl3
        have ON3 := Lib.hid on3
        clear hn3 hf3 hs3 hl3 on3 HSet
        have hzy : V.heap.size ≤ y2.heap.size := HYB.out.size
        have HYY := Lib.hid (show BoxW y3 (w.heap.size + 1) #[.int .i64 0, .int .i64 0, .int .i64 0, .slice none 0 0, .slice none 0 0, .slice none 0 0] by
          have h := HYV.out.below HYB.out (by omega)
          unfold BoxW at h ⊢
          rw [ON3.out.block _ (by omega) (by
            rintro (e | e)
            · omega
            · exact box_ne_row (HYV.out.below HYB.out (by omega)) (own_belowK HOV.out.f (Nat.le_refl _) HYB.out) (by decide) e)]
          exact h)
        have HBY := Lib.hid (show Below w.heap.size w y3 from
          Only.below_ ON3.out (HBV.out.trans (HYB.out.mono (by omega))) (by omega) (fun i hi => by
            rcases hi with e | e
            · omega
            · have := (World.ownsRow.lt HOV.out.f i e).1; omega))
        have hzz : v5.heap.size < y3.heap.size := by have := ON3.out.size; omega
        clear HYB HOY
        go_wp2_with fail
        go_meet
        case rel => exact ⟨K', nk', ck', HN3.out, HF3.out, HS3.out, own_moreK HL3.out (by omega), HYY.out, HBY.out, hzz⟩
    case rest =>
      obtain ⟨K2, nk2, ck2, hn2, hf2, hs2, hl2, hy2, hb2, hz2⟩ := hcut
      obtain ⟨hh, hhe⟩ : ∃ l, l = keptF lids gs := ⟨_, rfl⟩
      have HSF := Lib.hid (show ∀ f ∈ hh, Safe f from fun f hf => HGS.out f (by rw [hhe] at hf; exact kept_mem hf))
      have HNH := Lib.hid (show hh.length ≤ 10 by have := kept_len lids gs; rw [hhe]; rw [HOV.out.lenF] at this; omega)
      have HNU := Lib.hid (show ∀ f ∈ hh, f.n ≤ 1099511627776 from fun f hf => by
        have h1 : f ∈ gs := by rw [hhe] at hf; exact kept_mem hf
        have h2 := n_used h1
        rw [keys_used HG1.out] at h2
        exact Nat.le_trans h2 HU.out)
      rw [← hhe] at hn2 hf2 hs2
      have HHE := Lib.hid hhe
      obtain ⟨nh, hnh⟩ : ∃ n, n = hh.length := ⟨_, rfl⟩
      rw [← hnh] at hn2 hf2 HNH
      have HNL := Lib.hid hnh
      have hn10 : nh ≤ 10 := HNH.out
      have HN2 := Lib.hid hn2
      have HF2 := Lib.hid hf2
      have HS2 := Lib.hid hs2
      have HL2 := Lib.hid hl2
      have HY2 := Lib.hid hy2
      have HB2 := Lib.hid hb2
      have c3 := hn2.cell 3
      clear hn2 hf2 hs2 hl2 hy2 hb2 hhe hnh t4 t5 HNV HXV HYV HOV HBV HPA HWL HGW HGS
      go_wp2_with fail
      clear c3
      go_loopw [33] (fun i wr => ∃ k : Nat, k ≤ nh ∧ i = .int .i64 (k : Nat) ∧ Hid (OwnF wr (w.heap.size + 2) F1 nh cf1 (cutAll cs 0 (hh.take k) ++ hh.drop k)) ∧ Hid (OwnBs wr (w.heap.size + 2) (cutAll cs 0 (hh.take k) ++ hh.drop k)) ∧ Hid (OwnL wr (w.heap.size + 2) K2 nk2 ck2 (dirAt ks (ts.take m))) ∧
        BoxW wr v5.heap.size #[.int .i64 room, .int .i64 (-1), .int .i64 next, .slice F1 nh cf1, .slice K2 nk2 ck2, .slice none 0 0] ∧ BoxW wr (w.heap.size + 1) #[.int .i64 0, .int .i64 0, .int .i64 0, .slice none 0 0, .slice none 0 0, .slice none 0 0] ∧ Below w.heap.size w wr) (fun i _ => nh - (intOf i).toNat)
      case atStart => exact ⟨0, Nat.zero_le _, rfl, HF2, HS2, HL2, HN2.out, HY2.out, HB2.out⟩
      case round =>
        clear HN2 HF2 HS2 HL2 HY2 HB2 hz2
        obtain ⟨k, hk, rfl, HOw, HBs, HLs, hn, hy, hb⟩ := hrel
        have hzb : v5.heap.size < wr.heap.size := hn.lt
        by_cases hlt : k < nh
        · have hlt' : k < hh.length := by rw [← HNL.out]; exact hlt
          obtain ⟨g, rfl⟩ := own_addr HOw.out (by omega)
          have hgl := World.ownsRow.lt HOw.out g rfl
          have hgb : v5.heap.size ≠ g := fun e => box_ne_row hn HOw.out (by decide) (by rw [e]; rfl)
          have hgy : w.heap.size + 1 ≠ g := by omega
          have hkd : hh.drop k = hh[k] :: hh.drop (k + 1) := List.drop_eq_getElem_cons hlt'
          have hsafe := HSF.out _ (List.getElem_mem hlt')
          obtain ⟨f, hfe⟩ : ∃ f, f = hh[k] := ⟨_, rfl⟩
          have HFE := Lib.hid hfe
          rw [← hfe] at hkd hsafe
          have hcl : (cutAll cs 0 (hh.take k)).length = k := by rw [cutAll_len, List.length_take]; omega
          have hpl : ((cutAll cs 0 (hh.take k)).map fileR).length = k := by rw [List.length_map]; exact hcl
          have hlist : cutAll cs 0 (hh.take k) ++ hh.drop k = cutAll cs 0 (hh.take k) ++ [f] ++ hh.drop (k + 1) := by rw [hkd, List.append_assoc]; rfl
          have hnext : cutAll cs 0 (hh.take (k + 1)) ++ hh.drop (k + 1) = cutAll cs 0 (hh.take k) ++ [cutF (kAt cs k) f] ++ hh.drop (k + 1) := by
            rw [List.take_succ_eq_append_getElem hlt', cutAll_snoc, List.length_take, Nat.min_eq_left (Nat.le_of_lt hlt'), Nat.zero_add, ← hfe]
          have hrow : (cutAll cs 0 (hh.take k) ++ [f] ++ hh.drop (k + 1)).map fileR = (cutAll cs 0 (hh.take k)).map fileR ++ [[Value.int .i64 f.id, Value.slice f.A f.n f.c, Value.int .i64 f.safe]] ++ (hh.drop (k + 1)).map fileR := by
            rw [List.map_append, List.map_append]; rfl
          have hO := HOw.out
          unfold OwnF at hO
          rw [hlist, hrow] at hO
          have hr3 : ∀ r ∈ (cutAll cs 0 (hh.take k)).map fileR ++ [[Value.int .i64 f.id, Value.slice f.A f.n f.c, Value.int .i64 f.safe]] ++ (hh.drop (k + 1)).map fileR, r.length = 3 := by rw [← hrow]; exact file_len _
          have hat : ((cutAll cs 0 (hh.take k)).map fileR ++ [[Value.int .i64 f.id, Value.slice f.A f.n f.c, Value.int .i64 f.safe]] ++ (hh.drop (k + 1)).map fileR)[k]? = some [Value.int .i64 f.id, Value.slice f.A f.n f.c, Value.int .i64 f.safe] := by
            rw [List.append_assoc, List.getElem?_append_right (by rw [hpl]; exact Nat.le_refl _), hpl]; simp
          have hc1 : wr.cell? ⟨g, k * 3 + 1, none⟩ = some (.slice f.A f.n f.c) := by
            rw [World.ownsRow.cellAt (h := hO) (k * 3 + 1) (by omega)]; exact flat_at 3 _ hr3 k _ hat 1 _ rfl
          have hc2 : wr.cell? ⟨g, k * 3 + 2, none⟩ = some (.int .i64 f.safe) := by
            rw [World.ownsRow.cellAt (h := hO) (k * 3 + 2) (by omega)]; exact flat_at 3 _ hr3 k _ hat 2 _ rfl
          have hf1 := World.ownsRow.frozenAt (h := hO) (k * 3 + 1)
          have hf2 := World.ownsRow.frozenAt (h := hO) (k * 3 + 2)
          have hB := HBs.out
          rw [hlist] at hB
          have hbf := hB.1 f (by simp)
          have hcap := Own.cap hbf
          have hblk : ∀ x ∈ cutAll cs 0 (hh.take k) ++ [f] ++ hh.drop (k + 1), blkF x ≠ some g := fun x hx => fun e => own_ne (hB.1 x hx) hO (by decide) g e rfl
          obtain ⟨hM, hMe⟩ := cutN_le (k := kAt cs k) hsafe
          obtain ⟨M, hMd⟩ : ∃ M, M = cutN (kAt cs k) f := ⟨_, rfl⟩
          rw [← hMd] at hM hMe
          have HB' := Lib.hid (show OwnBs wr (w.heap.size + 2) (cutAll cs 0 (hh.take k) ++ [cutF (kAt cs k) f] ++ hh.drop (k + 1)) from
            bodies_swap (g := f) (g' := cutF (kAt cs k) f) (blk_any f.A _ _ _ _) hB (by show Own wr _ f.A (cutN (kAt cs k) f) f.c (f.bytes.take (cutN (kAt cs k) f)); rw [← hMd]; exact own_takeB hbf hM))
          have HBLK := Lib.hid (show ∀ x ∈ cutAll cs 0 (hh.take k) ++ [cutF (kAt cs k) f] ++ hh.drop (k + 1), blkF x ≠ some g from fun x hx => by
            rcases List.mem_append.1 hx with hx | hx
            · rcases List.mem_append.1 hx with hx | hx
              · exact hblk x (by simp [hx])
              · rw [List.mem_singleton] at hx; subst hx
                exact fun e => hblk f (by simp) ((blk_any f.A f.n (cutN (kAt cs k) f) f.c f.c).trans e)
            · exact hblk x (by simp [hx]))
          have HEND := Lib.hid (show (cutAll cs 0 (hh.take (k + 1)) ++ hh.drop (k + 1)).map fileR = (cutAll cs 0 (hh.take k)).map fileR ++ [[Value.int .i64 f.id, Value.slice f.A M f.c, Value.int .i64 (M : Nat)]] ++ (hh.drop (k + 1)).map fileR by
            rw [hnext, List.map_append, List.map_append, hMd]; rfl)
          have HNX := Lib.hid hnext
          have HO := Lib.hid hO
          have HPL := Lib.hid hpl
          have HN := Lib.hid hn
          have HY := Lib.hid hy
          have HB := Lib.hid hb
          have c3 := hn.cell 3
          have hgw : g < wr.heap.size := hgl.2
          have hgw0 : w.heap.size ≤ g := by omega
          have hn0 : 0 ≤ f.safe := hsafe.1
          have hn1 : f.safe ≤ (f.n : Int) := hsafe.2
          have hbd : f.n ≤ 1099511627776 := by rw [hfe]; exact HNU.out _ (List.getElem_mem hlt')
          clear hn hy hb hO hB hbf hblk hr3 hat hrow hlist hnext hkd hsafe hpl hcl hMd hfe HOw HBs
          have hsub : IntKind.i64.wrap ((f.n : Int) - f.safe) = (f.n : Int) - f.safe := IntWalk.i64_in _ (by omega)
          have hsum : IntKind.i64.wrap (f.safe + clampD (kAt cs k) ((f.n : Int) - f.safe)) = ((M : Nat) : Int) := by rw [← hMe]; exact IntWalk.i64_in _ (by omega)
          have HSUM := Lib.hid hsum
          have HSUM2 := Lib.hid (show f.safe + clampD (kAt cs k) ((f.n : Int) - f.safe) = ((M : Nat) : Int) from hMe.symm)
          have HSUB := Lib.hid hsub
          have HMS := Lib.hid (fun (h : nc = 0) => show f.safe = ((M : Nat) : Int) by
            rw [hMe, kAt_zero (k := k) (cs := cs) (by rw [HCL.out]; exact h)]
            unfold clampD; rw [if_neg (by omega)]; split <;> omega)
          have hMc : M ≤ f.c := by omega
          have hnm : (0 : Int) ≤ (f.n : Int) - f.safe := by omega
          clear hsum hsub hMe
          go_upto_if 42 with fail
          go_cut [] (fun wx => Hid (wx.ownsRow (w.heap.size + 2) 65 3 (.slice (some ⟨g, 0, none⟩) nh cf1) nh ((cutAll cs 0 (hh.take k)).map fileR ++ [[Value.int .i64 f.id, Value.slice f.A f.n f.c, Value.int .i64 (M : Nat)]] ++ (hh.drop (k + 1)).map fileR).flatten) ∧ Hid (OwnBs wx (w.heap.size + 2) (cutAll cs 0 (hh.take k) ++ [cutF (kAt cs k) f] ++ hh.drop (k + 1))) ∧ Hid (OwnL wx (w.heap.size + 2) K2 nk2 ck2 (dirAt ks (ts.take m))) ∧ BoxW wx v5.heap.size #[.int .i64 room, .int .i64 (-1), .int .i64 next, .slice (some ⟨g, 0, none⟩) nh cf1, .slice K2 nk2 ck2, .slice none 0 0] ∧ BoxW wx (w.heap.size + 1) #[.int .i64 0, .int .i64 0, .int .i64 0, .slice none 0 0, .slice none 0 0, .slice none 0 0] ∧ Below w.heap.size w wx)
          case first =>
            by_cases hnc : nc = 0
            · have hMs := HMS.out hnc
              have HO2 := Lib.hid (show wr.ownsRow (w.heap.size + 2) 65 3 (.slice (some ⟨g, 0, none⟩) nh cf1) nh ((cutAll cs 0 (hh.take k)).map fileR ++ [[Value.int .i64 f.id, Value.slice f.A f.n f.c, Value.int .i64 (M : Nat)]] ++ (hh.drop (k + 1)).map fileR).flatten by have h := HO.out; rw [hMs] at h; exact h)
              subst hnc
              clear hMs
              go_wp2_with fail
              go_meet
              case rel => exact ⟨HO2, HB', HLs, HN.out, HY.out, HB.out⟩
            · have hnc0 : 0 < nc := by omega
              have hr : k % nc < nc := Nat.mod_lt _ hnc0
              have hrl : k % nc < cs.length := by rw [HCL.out]; exact hr
              obtain ⟨cb, co, rfl, hcb, hcc⟩ := (HC.out.below (Nat.le_refl _) HB.out).at_ hrl
              rw [kAt_at HCL.out hnc0 hrl] at hcc
              have HCM := Lib.hid (fun W => (clamp_any (kAt cs k) ((f.n : Int) - f.safe) hnm W).mono fun e w' h => (⟨h.1, h.2.symm⟩ : e = _ ∧ w' = W))
              have HO2 := Lib.hid (rowJ (K := 3) (z := [Value.int .i64 f.id, Value.slice f.A f.n f.c, Value.int .i64 f.safe]) rfl (file_len _) k HPL.out 2 (by decide) (.int .i64 (M : Nat)) HO.out)
              have HB2 := Lib.hid (OwnBs.cell_ (j := k * 3 + 2) (v := .int .i64 (M : Nat)) HB'.out HBLK.out)
              have HL2 := Lib.hid (own_setNe HLs.out g (k * 3 + 2) (.int .i64 (M : Nat)) (fun e => own_ne HLs.out HO.out (by decide) g e rfl))
              have HN2 := Lib.hid (BoxW.other (b' := g) (j := k * 3 + 2) (v := .int .i64 (M : Nat)) HN.out hgb)
              have HY2 := Lib.hid (BoxW.other (b' := g) (j := k * 3 + 2) (v := .int .i64 (M : Nat)) HY.out hgy)
              have HW2 := Lib.hid (Below.setCell HB.out (p := ⟨g, k * 3 + 2, none⟩) hgw0 (.int .i64 (M : Nat)))
              have hrem : ((k : Nat) : Int).tmod ((nc : Nat) : Int) = ((k % nc : Nat) : Int) := by
                rw [Int.tmod_eq_emod_of_nonneg (by omega), Int.natCast_emod]
              have hrn : ((nc : Nat) : Int) ≠ 0 := by omega
              have hrb : (((nc : Nat) : Int) == 0) = false := by simp; omega
              obtain ⟨r, hre⟩ : ∃ r, r = k % nc := ⟨_, rfl⟩
              rw [← hre] at hrem hcc hr
              have hri : ((r : Nat) : Int) < ((nc : Nat) : Int) := by omega
              have hrp : (0 : Int) ≤ ((r : Nat) : Int) := by omega
              clear hre hrl
              have hncb : decide (((nc : Nat) : Int) > 0) = true := by simp; omega
              have hsub := HSUB.out
              have hsum := HSUM.out
              have hsum2 := HSUM2.out
              generalize hkz : kAt cs k = kz at *
              clear hkz
              generalize hzd : clampD kz ((f.n : Int) - f.safe) = dz at *
              clear hzd
              go_wp2_with fail
              refine wp_region_still_tail 25 (by kernel_rfl) (by kernel_rfl) ?_
              simp only [List.take_succ_cons, List.take_zero, List.drop_succ_cons, List.drop_zero]
              repeat still_step
              still_call (HCM.out _)
              repeat still_step
              refine wpStill_nil ?_
              change wpList _ _ _ _ _ wr.drew
              all_goals
                go_wp2_with fail
                go_meet
                case rel => exact ⟨Lib.hid HO2.out, Lib.hid HB2.out, Lib.hid HL2.out, HN2.out, HY2.out, HW2.out.drew⟩
          case rest =>
            obtain ⟨HO2, HB2, HL2, hn2, hy2, hb2⟩ := hcut
            have hr3 : ∀ r ∈ (cutAll cs 0 (hh.take k)).map fileR ++ [[Value.int .i64 f.id, Value.slice f.A f.n f.c, Value.int .i64 (M : Nat)]] ++ (hh.drop (k + 1)).map fileR, r.length = 3 := by
              intro r hr
              rcases List.mem_append.1 hr with hr | hr
              · rcases List.mem_append.1 hr with hr | hr
                · exact file_len _ r hr
                · rw [List.mem_singleton] at hr; rw [hr]; rfl
              · exact file_len _ r hr
            have hat : ((cutAll cs 0 (hh.take k)).map fileR ++ [[Value.int .i64 f.id, Value.slice f.A f.n f.c, Value.int .i64 (M : Nat)]] ++ (hh.drop (k + 1)).map fileR)[k]? = some [Value.int .i64 f.id, Value.slice f.A f.n f.c, Value.int .i64 (M : Nat)] := by
              rw [List.append_assoc, List.getElem?_append_right (by rw [HPL.out]; exact Nat.le_refl _), HPL.out]; simp
            have d1 : wc.cell? ⟨g, k * 3 + 1, none⟩ = some (.slice f.A f.n f.c) := by
              rw [World.ownsRow.cellAt (h := HO2.out) (k * 3 + 1) (by omega)]; exact flat_at 3 _ hr3 k _ hat 1 _ rfl
            have d2 : wc.cell? ⟨g, k * 3 + 2, none⟩ = some (.int .i64 (M : Nat)) := by
              rw [World.ownsRow.cellAt (h := HO2.out) (k * 3 + 2) (by omega)]; exact flat_at 3 _ hr3 k _ hat 2 _ rfl
            have e1 := World.ownsRow.frozenAt (h := HO2.out) (k * 3 + 1)
            have HOF := Lib.hid (show OwnF (wc.setCell ⟨g, k * 3 + 1, none⟩ (.slice f.A M f.c)) (w.heap.size + 2) (some ⟨g, 0, none⟩) nh cf1 (cutAll cs 0 (hh.take (k + 1)) ++ hh.drop (k + 1)) by
              unfold OwnF; rw [HEND.out]
              exact rowJ (K := 3) (z := [Value.int .i64 f.id, Value.slice f.A f.n f.c, Value.int .i64 (M : Nat)]) rfl (file_len _) k HPL.out 1 (by decide) (.slice f.A M f.c) HO2.out)
            have HBF := Lib.hid (show OwnBs (wc.setCell ⟨g, k * 3 + 1, none⟩ (.slice f.A M f.c)) (w.heap.size + 2) (cutAll cs 0 (hh.take (k + 1)) ++ hh.drop (k + 1)) by rw [HNX.out]; exact OwnBs.cell_ HB2.out HBLK.out)
            have HLF := Lib.hid (own_setNe HL2.out g (k * 3 + 1) (.slice f.A M f.c) (fun e => own_ne HL2.out HO2.out (by decide) g e rfl))
            have HNF := Lib.hid (BoxW.other (b' := g) (j := k * 3 + 1) (v := .slice f.A M f.c) hn2 hgb)
            have HYF := Lib.hid (BoxW.other (b' := g) (j := k * 3 + 1) (v := .slice f.A M f.c) hy2 hgy)
            have HWF := Lib.hid (Below.setCell hb2 (p := ⟨g, k * 3 + 1, none⟩) hgw0 (.slice f.A M f.c))
            clear hr3 hat hn2 hy2 hb2
            go_wp2_with fail
            refine wp_region_still_tail 12 (by kernel_rfl) (by kernel_rfl) ?_
            simp only [List.take_succ_cons, List.take_zero, List.drop_succ_cons, List.drop_zero]
            repeat still_step
            refine wpStill_nil ?_
            change wpList _ _ _ _ _ wc.drew
            all_goals
              go_wp2_with fail
              exact ⟨⟨k + 1, by omega, by go_num, Lib.hid HOF.out, Lib.hid HBF.out, Lib.hid HLF.out, HNF.out, HYF.out, HWF.out.drew⟩, by simp [intOf]; omega⟩
        · obtain rfl : nh = k := by omega
          have e1 : hh.take nh = hh := List.take_of_length_le (by rw [← HNL.out]; exact Nat.le_refl _)
          have e2 : hh.drop nh = [] := List.drop_of_length_le (by rw [← HNL.out]; exact Nat.le_refl _)
          have hO := HOw.out
          have hB := HBs.out
          rw [e1, e2, List.append_nil] at hO hB
          have HOD := Lib.hid (show OwnD wr (w.heap.size + 2) F1 nh cf1 (cutAll cs 0 hh) K2 nk2 ck2 (dirAt ks (ts.take m)) none 0 0 [] from ⟨hO, hB, HLs.out, World.ownsRow_nil _ _ _ _⟩)
          have HBB := Lib.hid hb
          have HKE := Lib.hid (show (cutAll cs 0 hh).map keyF = (cutAll cs 0 (keptF ((dirAt ks (ts.take m)).map (·.2)) fs)).map keyF from cutAll_keys cs _ _ 0 (by rw [HHE.out, HLID.out]; exact kept_keys _ _ _ HG1.out))
          have x0 := hn.cell 0
          have x1 := hn.cell 1
          have x2 := hn.cell 2
          have x3 := hn.cell 3
          have x4 := hn.cell 4
          have x5 := hn.cell 5
          have y0 := hy.cell 0
          have z0 := hy.free 0
          have y1 := hy.cell 1
          have z1 := hy.free 1
          have y2 := hy.cell 2
          have z2 := hy.free 2
          have y3 := hy.cell 3
          have z3 := hy.free 3
          have y4 := hy.cell 4
          have z4 := hy.free 4
          have y5 := hy.cell 5
          have z5 := hy.free 5
          clear hO hB e1 e2 hn hy hb HOw HBs HLs
          go_wp2_with fail
          refine bodyPost_ret (v := .tuple #[.agg #[.int .i64 room, .int .i64 (-1), .int .i64 next, .slice F1 nh cf1, .slice K2 nk2 ck2, .slice none 0 0], .bool true]) (by simp [results, Tryz.results18, go_sem, y0, y1, y2, y3, y4, y5]) rfl ⟨room, -1, next, F1, nh, cf1, cutAll cs 0 hh, K2, nk2, ck2, dirAt ks (ts.take m), none, 0, 0, [], _, rfl, ?_, .inl ⟨HQ.out, rfl, rfl, rfl, rfl, HKE.out, rfl, rfl⟩, ?_⟩
          · exact OwnD.more (OwnD.set6 HOD.out (fun i hi => by have := (HOD.out.lt i hi).1; omega) _ _ _ _ _ _) (by omega)
          · exact below_set6 HBB.out (by omega) _ _ _ _ _ _
end Go.Proofs.YtckiloacbanbmaaGreat.DOk
