/- Contract of the setting of a disk's room and fuse, in the program. -/
import Derived.Test.YtehhophjhjeenaaSetSpec
namespace Go.Proofs.Ytehhophjhjeenaa.DOk
open Go.RowKit Go.Proofs.Ytehhophjhjeenaa.Bytes Go.Proofs.Ytehhophjhjeenaa.Rows_
set_option linter.unusedVariables false

set_option maxRecDepth 100000 in
set_option maxHeartbeats 3200000 in
theorem impl_DiskSet_any (room fuse next : Int) (F : Option Addr) (nf cf : Nat) (K : Option Addr) (nk ck : Nat) (T : Option Addr) (nt ct : Nat) (fs : List FileD) (ks : List LinkD) (ts : List TurnD) (room' fuse' : Int) (w : World)
    (hf : RdF w w.heap.size F fs) (hfl : fs.length = nf) (hfn : nf ≤ 2000000) (hFA : F = none → nf = 0 ∧ cf = 0) (hrb : RdB w w.heap.size fs) (hba_ : ∀ f ∈ fs, f.A = none → f.n = 0 ∧ f.c = 0) (hfid : ∀ x ∈ fs, (Lit.int .i64 x.id).wf = true) (hu : usedD fs ≤ 1099511627776)
    (hk : RdL w w.heap.size K ks) (hkl : ks.length = nk) (hkn : nk ≤ 2000000) (hKA : K = none → nk = 0 ∧ ck = 0) (hks : ∀ x ∈ ks, x.1.size ≤ maxLen ∧ (Lit.int .i64 x.2).wf = true) (ht : RdT w w.heap.size T ts) (htl : ts.length = nt) (htn : nt ≤ 2000000) (hTA : T = none → nt = 0 ∧ ct = 0) (hts : ∀ x ∈ ts, x.name.size ≤ maxLen ∧ x.to_.size ≤ maxLen ∧ (Lit.int .i64 x.id).wf = true) :
    Calls Try.prog 39 #[.agg #[.int .i64 room, .int .i64 fuse, .int .i64 next, .slice F nf cf, .slice K nk ck, .slice T nt ct], .int .i64 room', .int .i64 fuse'] w (AnsDisk (SetD (OkS room fuse next fs ks ts ∧ OkS room' fuse' next fs ks ts) room' fuse' next fs ks ts) w) := by
  have hb0 := ((((Below.refl w.heap.size w).alloc (Nat.le_refl _) (.cells #[.int .i64 room, .int .i64 fuse, .int .i64 next, .slice F nf cf, .slice K nk ck, .slice T nt ct] 51)).alloc (by simp) (.cells #[.int .i64 0, .int .i64 0, .int .i64 0, .slice none 0 0, .slice none 0 0, .slice none 0 0] 51)).alloc (by simp; omega) (.cells #[.int .i64 room', .int .i64 fuse', .int .i64 next, .slice F nf cf, .slice K nk ck, .slice T nt ct] 51))
  have hba : Below (w.heap.size + 2) ((w.alloc (.cells #[.int .i64 room, .int .i64 fuse, .int .i64 next, .slice F nf cf, .slice K nk ck, .slice T nt ct] 51)).alloc (.cells #[.int .i64 0, .int .i64 0, .int .i64 0, .slice none 0 0, .slice none 0 0, .slice none 0 0] 51)) (((w.alloc (.cells #[.int .i64 room, .int .i64 fuse, .int .i64 next, .slice F nf cf, .slice K nk ck, .slice T nt ct] 51)).alloc (.cells #[.int .i64 0, .int .i64 0, .int .i64 0, .slice none 0 0, .slice none 0 0, .slice none 0 0] 51)).alloc (.cells #[.int .i64 room', .int .i64 fuse', .int .i64 next, .slice F nf cf, .slice K nk ck, .slice T nt ct] 51)) := (Below.refl _ _).alloc (by simp) _
  have hbx0 : BoxW ((w.alloc (.cells #[.int .i64 room, .int .i64 fuse, .int .i64 next, .slice F nf cf, .slice K nk ck, .slice T nt ct] 51)).alloc (.cells #[.int .i64 0, .int .i64 0, .int .i64 0, .slice none 0 0, .slice none 0 0, .slice none 0 0] 51)) w.heap.size #[.int .i64 room, .int .i64 fuse, .int .i64 next, .slice F nf cf, .slice K nk ck, .slice T nt ct] := by
    unfold BoxW; rw [Below.heap_alloc _ _ _ (by simp)]; exact heap_alloc_new w _
  have hby0 : BoxW ((w.alloc (.cells #[.int .i64 room, .int .i64 fuse, .int .i64 next, .slice F nf cf, .slice K nk ck, .slice T nt ct] 51)).alloc (.cells #[.int .i64 0, .int .i64 0, .int .i64 0, .slice none 0 0, .slice none 0 0, .slice none 0 0] 51)) (w.heap.size + 1) #[.int .i64 0, .int .i64 0, .int .i64 0, .slice none 0 0, .slice none 0 0, .slice none 0 0] := by
    have := heap_alloc_new (w.alloc (.cells #[.int .i64 room, .int .i64 fuse, .int .i64 next, .slice F nf cf, .slice K nk ck, .slice T nt ct] 51)) (.cells #[.int .i64 0, .int .i64 0, .int .i64 0, .slice none 0 0, .slice none 0 0, .slice none 0 0] 51)
    unfold BoxW; simpa using this
  have hbs0 : BoxW (((w.alloc (.cells #[.int .i64 room, .int .i64 fuse, .int .i64 next, .slice F nf cf, .slice K nk ck, .slice T nt ct] 51)).alloc (.cells #[.int .i64 0, .int .i64 0, .int .i64 0, .slice none 0 0, .slice none 0 0, .slice none 0 0] 51)).alloc (.cells #[.int .i64 room', .int .i64 fuse', .int .i64 next, .slice F nf cf, .slice K nk ck, .slice T nt ct] 51)) (w.heap.size + 1 + 1) #[.int .i64 room', .int .i64 fuse', .int .i64 next, .slice F nf cf, .slice K nk ck, .slice T nt ct] := by
    have := heap_alloc_new ((w.alloc (.cells #[.int .i64 room, .int .i64 fuse, .int .i64 next, .slice F nf cf, .slice K nk ck, .slice T nt ct] 51)).alloc (.cells #[.int .i64 0, .int .i64 0, .int .i64 0, .slice none 0 0, .slice none 0 0, .slice none 0 0] 51)) (.cells #[.int .i64 room', .int .i64 fuse', .int .i64 next, .slice F nf cf, .slice K nk ck, .slice T nt ct] 51)
    unfold BoxW; simpa using this
  have HCopy := Lib.hid (fun W (h : Below w.heap.size w W) => copyDisk_any room' fuse' next F nf cf K nk ck T nt ct fs ks ts W ((hf.below (Nat.le_refl _) h).more h.size) hfl (by omega) hFA ((hrb.below (Nat.le_refl _) h).more h.size) hba_ (fun f hf => Nat.le_trans (n_used hf) hu) ((hk.below (Nat.le_refl _) h).more h.size) hkl (by omega) hKA ((ht.below (Nat.le_refl _) h).more h.size) htl (by omega) hTA)
  have HOk := Lib.hid (fun (r f : Int) W (h : Below w.heap.size w W) => implOk_any r f next F nf cf K nk ck T nt ct fs ks ts W ((hf.below (Nat.le_refl _) h).more h.size) hfl hfn hfid hu ((hk.below (Nat.le_refl _) h).more h.size) hkl hkn hks ((ht.below (Nat.le_refl _) h).more h.size) htl htn hts)
  have HB0 := Lib.hid hb0
  have HX0 := Lib.hid (hbx0.below hba (by omega))
  have HY0 := Lib.hid (hby0.below hba (by omega))
  have HS0 := Lib.hid hbs0
  clear hf hfl hrb hba_ hfid hu hk hkl hks ht htl hts hb0 hbx0 hby0 hbs0 hba
  go_enter Try.func39, Try.ntmps39
  go_wp2_with fail
  refine (HOk.out room fuse _ HB0.out).mono ?_
  rintro e v3 ⟨b1, rfl, hv1, hb3⟩
  replace hv1 := hv1.trans (ok_iff room fuse next fs ks ts).symm
  have HY3 := Lib.hid (HY0.out.below hb3 (by simp <;> omega))
  have HX3 := Lib.hid (HS0.out.below hb3 (by simp <;> omega))
  have HB3 := Lib.hid (HB0.out.trans (hb3.mono (by simp; omega)))
  have hz3 : w.heap.size + 1 < v3.heap.size := HY3.out.lt
  clear hb3
  cases b1
  · have HP := Lib.hid (show ¬ (OkS room fuse next fs ks ts ∧ OkS room' fuse' next fs ks ts) from fun h => by have := hv1.2 h.1; simp at this)
    have HB := HB3
    clear hv1
    have y0 := HY3.out.cell 0
    have z0 := HY3.out.free 0
    have y1 := HY3.out.cell 1
    have z1 := HY3.out.free 1
    have y2 := HY3.out.cell 2
    have z2 := HY3.out.free 2
    have y3 := HY3.out.cell 3
    have z3 := HY3.out.free 3
    have y4 := HY3.out.cell 4
    have z4 := HY3.out.free 4
    have y5 := HY3.out.cell 5
    have z5 := HY3.out.free 5
    go_wp2_with fail
    refine bodyPost_ret (v := .tuple #[.agg #[.int .i64 0, .int .i64 0, .int .i64 0, .slice none 0 0, .slice none 0 0, .slice none 0 0], .bool false]) (by simp [results, Try.results39, go_sem, y0, y1, y2, y3, y4, y5]) rfl ⟨0, 0, 0, none, 0, 0, [], none, 0, 0, [], none, 0, 0, [], _, rfl, ownD_nil _ _, .inr ⟨HP.out, rfl, rfl, rfl, rfl, rfl, rfl, rfl⟩, ?_⟩
    exact below_set6 HB.out (by omega) _ _ _ _ _ _
  · have hq := hv1.1 rfl
    have HQ := Lib.hid hq
    have x0 := HX3.out.cell 0
    have x1 := HX3.out.cell 1
    have x2 := HX3.out.cell 2
    have x3 := HX3.out.cell 3
    have x4 := HX3.out.cell 4
    have x5 := HX3.out.cell 5
    clear hv1 hq
    go_wp2_with fail
    refine (HOk.out room' fuse' _ HB3.out).mono ?_
    rintro e v4 ⟨b2, rfl, hv2, hb4⟩
    have hv3 := hv2.trans (ok_iff room' fuse' next fs ks ts).symm
    have HY4 := Lib.hid (HY3.out.below hb4 (by omega))
    have HX4 := Lib.hid (HX3.out.below hb4 HX3.out.lt)
    have HB4 := Lib.hid (HB3.out.trans (hb4.mono (by omega)))
    have hz4 : w.heap.size + 1 + 1 < v4.heap.size := HX4.out.lt
    clear hb4 x0 x1 x2 x3 x4 x5
    cases b2
    · have HP := Lib.hid (show ¬ (OkS room fuse next fs ks ts ∧ OkS room' fuse' next fs ks ts) from fun h => by have := hv3.2 h.2; simp at this)
      have HB := HB4
      clear hv2 hv3
      have y0 := HY4.out.cell 0
      have z0 := HY4.out.free 0
      have y1 := HY4.out.cell 1
      have z1 := HY4.out.free 1
      have y2 := HY4.out.cell 2
      have z2 := HY4.out.free 2
      have y3 := HY4.out.cell 3
      have z3 := HY4.out.free 3
      have y4 := HY4.out.cell 4
      have z4 := HY4.out.free 4
      have y5 := HY4.out.cell 5
      have z5 := HY4.out.free 5
      go_wp2_with fail
      refine bodyPost_ret (v := .tuple #[.agg #[.int .i64 0, .int .i64 0, .int .i64 0, .slice none 0 0, .slice none 0 0, .slice none 0 0], .bool false]) (by simp [results, Try.results39, go_sem, y0, y1, y2, y3, y4, y5]) rfl ⟨0, 0, 0, none, 0, 0, [], none, 0, 0, [], none, 0, 0, [], _, rfl, ownD_nil _ _, .inr ⟨HP.out, rfl, rfl, rfl, rfl, rfl, rfl, rfl⟩, ?_⟩
      exact below_set6 HB.out (by omega) _ _ _ _ _ _
    · have HP := Lib.hid (show OkS room fuse next fs ks ts ∧ OkS room' fuse' next fs ks ts from ⟨HQ.out, hv3.1 rfl⟩)
      clear hv2 hv3
      have x0 := HX4.out.cell 0
      have x1 := HX4.out.cell 1
      have x2 := HX4.out.cell 2
      have x3 := HX4.out.cell 3
      have x4 := HX4.out.cell 4
      have x5 := HX4.out.cell 5
      go_wp2_with fail
      refine (HCopy.out _ HB4.out).mono ?_
      rintro e v5 ⟨F1, cf1, K1, ck1, T1, ct1, gs, rfl, ho1, hg1, hb5⟩
      have HG1 := Lib.hid hg1
      have HO := Lib.hid (ho1.more (base' := w.heap.size + 2) (by omega))
      have HY5 := Lib.hid (HY4.out.below hb5 (by omega))
      have HB := Lib.hid (HB4.out.trans (hb5.mono (by omega)))
      clear hg1 ho1 hb5 x0 x1 x2 x3 x4 x5
      have y0 := HY5.out.cell 0
      have z0 := HY5.out.free 0
      have y1 := HY5.out.cell 1
      have z1 := HY5.out.free 1
      have y2 := HY5.out.cell 2
      have z2 := HY5.out.free 2
      have y3 := HY5.out.cell 3
      have z3 := HY5.out.free 3
      have y4 := HY5.out.cell 4
      have z4 := HY5.out.free 4
      have y5 := HY5.out.cell 5
      have z5 := HY5.out.free 5
      go_wp2_with fail
      refine bodyPost_ret (v := .tuple #[.agg #[.int .i64 room', .int .i64 fuse', .int .i64 next, .slice F1 nf cf1, .slice K1 nk ck1, .slice T1 nt ct1], .bool true]) (by simp [results, Try.results39, go_sem, y0, y1, y2, y3, y4, y5]) rfl ⟨room', fuse', next, F1, nf, cf1, gs, K1, nk, ck1, ks, T1, nt, ct1, ts, _, rfl, ?_, .inl ⟨HP.out, rfl, rfl, rfl, rfl, HG1.out, rfl, rfl⟩, ?_⟩
      · exact OwnD.more (OwnD.set6 HO.out (fun i hi => by have := (HO.out.lt i hi).1; omega) _ _ _ _ _ _) (by omega)
      · exact below_set6 HB.out (by omega) _ _ _ _ _ _
end Go.Proofs.Ytehhophjhjeenaa.DOk
