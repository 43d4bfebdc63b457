/- Contract of an operation on a disk, in the model: kind 6. -/
import Derived.Test.YtfkdfabbpebljaaGreatKitJ
import Derived.Deep.RegionWith
import Derived.Deep.RegionLaw
import Derived.Deep.Cut
import Derived.Deep.DrawnRows
import Derived.IntWalk
import Derived.StillTailTactics
namespace Go.Proofs.YtfkdfabbpebljaaGreat.DOk
open Go.RowKit Go.Proofs.YtfkdfabbpebljaaGreat.Bytes Go.Proofs.YtfkdfabbpebljaaGreat.Rows_ Go.Maps
set_option linter.unusedVariables false
attribute [local go_sem ↓] Go.wp_at_zero Go.wp_at_succ

set_option maxRecDepth 100000 in
set_option maxHeartbeats 24000000 in
theorem spec_DiskDo_6 (room fuse next : Int) (F : Option Addr) (nf cf : Nat) (K : Option Addr) (nk ck : Nat) (T : Option Addr) (nt ct : Nat) (fs : List FileD) (ks : List LinkD) (ts : List TurnD) (name to_ : ByteArray) (A : Option Addr) (n c : Nat) (ys : List Int) (w : World)
    (hf : RdF w w.heap.size F fs) (hfl : fs.length = nf) (hfn : nf ≤ 2000000) (hFA : F = none → nf = 0 ∧ cf = 0) (hrb : RdB w w.heap.size fs) (hba_ : ∀ f ∈ fs, f.A = none → f.n = 0 ∧ f.c = 0) (hfid : ∀ x ∈ fs, (Lit.int .i64 x.id).wf = true) (hu : usedD fs ≤ 1099511627776)
    (hk : RdL w w.heap.size K ks) (hkl : ks.length = nk) (hkn : nk ≤ 2000000) (hKA : K = none → nk = 0 ∧ ck = 0) (hks : ∀ x ∈ ks, x.1.size ≤ maxLen ∧ (Lit.int .i64 x.2).wf = true) (ht : RdT w w.heap.size T ts) (htl : ts.length = nt) (htn : nt ≤ 2000000) (hTA : T = none → nt = 0 ∧ ct = 0) (hts : ∀ x ∈ ts, x.name.size ≤ maxLen ∧ x.to_.size ≤ maxLen ∧ (Lit.int .i64 x.id).wf = true)
    (h1 : name.size ≤ maxLen) (h2 : to_.size ≤ maxLen) (hr : Rd w w.heap.size A ys) (hl : ys.length = n) (hA : A = none → n = 0 ∧ c = 0) (hnc : n ≤ c) (hn : n ≤ 1048576) :
    Calls Tryz.prog 6 #[.agg #[.int .i64 room, .int .i64 fuse, .int .i64 next, .slice F nf cf, .slice K nk ck, .slice T nt ct], .agg #[.int .i64 6, .string name, .string to_, .slice A n c]] w (AnsDisk (DoD (OkS room fuse next fs ks ts ∧ opQ 6 name to_ n = true) room fuse next fs ks ts 6 name to_ ys n) w) := by
  obtain ⟨W1, hW1⟩ : ∃ W, W = w.alloc (.cells #[.int .i64 room, .int .i64 fuse, .int .i64 next, .slice F nf cf, .slice K nk ck, .slice T nt ct] 36) := ⟨_, rfl⟩
  obtain ⟨W2, hW2⟩ : ∃ W, W = W1.alloc (.cells #[.int .i64 6, .string name, .string to_, .slice A n c] 40) := ⟨_, rfl⟩
  obtain ⟨W3, hW3⟩ : ∃ W, W = W2.alloc (.cells #[.int .i64 0, .int .i64 0, .int .i64 0, .slice none 0 0, .slice none 0 0, .slice none 0 0] 36) := ⟨_, rfl⟩
  have z1 : W1.heap.size = w.heap.size + 1 := by rw [hW1]; simp
  have z2 : W2.heap.size = w.heap.size + 2 := by rw [hW2]; simp; omega
  have z3 : W3.heap.size = w.heap.size + 3 := by rw [hW3]; simp; omega
  have b1 : Below w.heap.size w W1 := by rw [hW1]; exact (Below.refl _ _).alloc (Nat.le_refl _) _
  have b2 : Below W1.heap.size W1 W2 := by rw [hW2]; exact (Below.refl _ _).alloc (Nat.le_refl _) _
  have b3 : Below W2.heap.size W2 W3 := by rw [hW3]; exact (Below.refl _ _).alloc (Nat.le_refl _) _
  have HB0 := Lib.hid ((b1.trans (b2.mono (by omega))).trans (b3.mono (by omega)) : Below w.heap.size w W3)
  have HX0 := Lib.hid (show BoxW W3 w.heap.size #[.int .i64 room, .int .i64 fuse, .int .i64 next, .slice F nf cf, .slice K nk ck, .slice T nt ct] from
    (BoxW.below (by rw [hW1]; exact BoxW.new w _) b2 (by omega)).below b3 (by omega))
  have HP0 := Lib.hid (show Box4 W3 (w.heap.size + 1) (.int .i64 6) (.string name) (.string to_) (.slice A n c) from by
    rw [← z1]; exact Box4.below (by rw [hW2]; exact Box4.new W1 _ _ _ _ _) b3 (by omega))
  have HY0 := Lib.hid (show BoxW W3 (w.heap.size + 1 + 1) #[.int .i64 0, .int .i64 0, .int .i64 0, .slice none 0 0, .slice none 0 0, .slice none 0 0] from by
    show BoxW W3 (w.heap.size + 2) _
    rw [← z2, hW3]; exact BoxW.new W2 _)
  have HW1 := Lib.hid hW1.symm
  have HW2 := Lib.hid hW2.symm
  have HW3 := Lib.hid hW3.symm
  have HCopy := Lib.hid (fun W (h : Below w.heap.size w W) => l02Copy_any room fuse next F nf cf K nk ck T nt ct fs ks ts W ((hf.below (Nat.le_refl _) h).more h.size) hfl (by omega) ((hrb.below (Nat.le_refl _) h).more h.size) hba_ (fun f hf => Nat.le_trans (n_used hf) hu) ((hk.below (Nat.le_refl _) h).more h.size) hkl (by omega) hKA ((ht.below (Nat.le_refl _) h).more h.size) htl (by omega) hTA)
  have HOk := Lib.hid (fun W (h : Below w.heap.size w W) => specOk_any room fuse next F nf cf K nk ck T nt ct fs ks ts W ((hf.below (Nat.le_refl _) h).more h.size) hfl hu ((hk.below (Nat.le_refl _) h).more h.size) hkl (fun x hx => (hks x hx).1) ((ht.below (Nat.le_refl _) h).more h.size) htl (fun x hx => ⟨(hts x hx).1, (hts x hx).2.1⟩))
  have HOp := Lib.hid (fun W => show Calls Tryz.prog 20 #[.agg #[.int .i64 6, .string name, .string to_, .slice A n c]] W fun e w' => e = .returned (.bool (opQ 6 name to_ n)) ∧ Below W.heap.size W w' from OpOk.spec_any 6 name to_ A n c W (by omega) h1 h2)
  have HCode := Lib.hid (fun W (h : Below w.heap.size w W) (hP : OkS room fuse next fs ks ts) => l02Code_any 6 (by omega) room fuse next F nf cf K nk ck T nt ct fs ks ts name to_ A n c W ((hf.below (Nat.le_refl _) h).more h.size) hfl hu ((hk.below (Nat.le_refl _) h).more h.size) hkl hKA (fun x hx => (hks x hx).1) ((ht.below (Nat.le_refl _) h).more h.size) htl (fun x hx => ⟨(hts x hx).1, (hts x hx).2.1⟩) hP)
  have HDir := Lib.hid (fun W (h : Below w.heap.size w W) (hP : OkS room fuse next fs ks ts) => dirOk_any room fuse next F nf cf K nk ck T nt ct fs ks ts hP W ((hf.below (Nat.le_refl _) h).more h.size) hfl hu ((hk.below (Nat.le_refl _) h).more h.size) hkl hKA (fun x hx => (hks x hx).1) ((ht.below (Nat.le_refl _) h).more h.size) htl (fun x hx => ⟨(hts x hx).1, (hts x hx).2.1⟩))
  have HAt := Lib.hid (fun W (h : Below w.heap.size w W) id (hn : nf ≤ 2000) => l02At_some room fuse next F nf cf K nk ck T nt ct fs id W ((hf.below (Nat.le_refl _) h).more h.size) hfl hn)
  have HFL := Lib.hid hfl
  have HTL := Lib.hid htl
  have HKL := Lib.hid hkl
  clear hf hfl hrb hba_ hfid hu hk hkl hks ht htl hts hr hl hA hFA hKA hTA hW1 hW2 hW3 b1 b2 b3
  go_enter Tryz.func6, Tryz.ntmps6
  go_upto_region 1 with fail
  rw [HW1.out, HW2.out, HW3.out]
  have x0 := HX0.out.cell 0
  have x1 := HX0.out.cell 1
  have x2 := HX0.out.cell 2
  have x3 := HX0.out.cell 3
  have x4 := HX0.out.cell 4
  have x5 := HX0.out.cell 5
  go_wp2_with fail
  clear x0 x1 x2 x3 x4 x5
  refine (HOk.out _ HB0.out).mono ?_
  rintro e v3 ⟨b1, rfl, hv1, hb3⟩
  have HY3 := Lib.hid (HY0.out.below hb3 (by omega))
  have HX3 := Lib.hid (HX0.out.below hb3 (by omega))
  have HP3 := Lib.hid (HP0.out.below hb3 (by omega))
  have HB3 := Lib.hid (HB0.out.trans (hb3.mono (by omega)))
  have hz3 : w.heap.size + 2 < v3.heap.size := HY3.out.lt
  clear hb3
  cases b1
  · have HP := Lib.hid (show ¬ (OkS room fuse next fs ks ts ∧ opQ 6 name to_ n = true) from fun h => by have := hv1.2 h.1; simp at this)
    have HB := HB3
    clear hv1
    have y0 := HY3.out.cell 0
    have f0 := HY3.out.free 0
    have y1 := HY3.out.cell 1
    have f1 := HY3.out.free 1
    have y2 := HY3.out.cell 2
    have f2 := HY3.out.free 2
    have y3 := HY3.out.cell 3
    have f3 := HY3.out.free 3
    have y4 := HY3.out.cell 4
    have f4 := HY3.out.free 4
    have y5 := HY3.out.cell 5
    have f5 := HY3.out.free 5
    go_wp2_with fail
    refine bodyPost_ret (v := .tuple #[.agg #[.int .i64 0, .int .i64 0, .int .i64 0, .slice none 0 0, .slice none 0 0, .slice none 0 0], .int .i64 1]) (by simp [results, Tryz.results6, go_sem, y0, y1, y2, y3, y4, y5]) rfl ⟨0, 0, 0, none, 0, 0, [], none, 0, 0, [], none, 0, 0, [], _, rfl, ownD_nil _ _, .inr (.inr ⟨HP.out, rfl, rfl, rfl, rfl, rfl, rfl, rfl⟩), ?_⟩
    exact below_set6 HB.out (by omega) _ _ _ _ _ _
  · have hq := hv1.1 rfl
    have HQ := Lib.hid hq
    have p0 := HP3.out.1
    have p1 := HP3.out.2.1
    have p2 := HP3.out.2.2.1
    have p3 := HP3.out.2.2.2
    clear hv1 hq
    go_wp2_with fail
    refine (HOp.out _).mono ?_
    rintro e v4 ⟨rfl, hb4⟩
    have HY4 := Lib.hid (HY3.out.below hb4 (by omega))
    have HX4 := Lib.hid (HX3.out.below hb4 (by omega))
    have HP4 := Lib.hid (HP3.out.below hb4 (by omega))
    have HB4 := Lib.hid (HB3.out.trans (hb4.mono (by omega)))
    have hz4 : w.heap.size + 2 < v4.heap.size := HY4.out.lt
    clear hb4 p0 p1 p2 p3
    obtain ⟨ob, hob⟩ : ∃ b, b = opQ 6 name to_ n := ⟨_, rfl⟩
    have HOB := Lib.hid hob
    rw [← hob]
    clear hob
    cases ob
    · have HP := Lib.hid (show ¬ (OkS room fuse next fs ks ts ∧ opQ 6 name to_ n = true) from fun h => by have := HOB.out.trans h.2; simp at this)
      have HB := HB4
      have y0 := HY4.out.cell 0
      have f0 := HY4.out.free 0
      have y1 := HY4.out.cell 1
      have f1 := HY4.out.free 1
      have y2 := HY4.out.cell 2
      have f2 := HY4.out.free 2
      have y3 := HY4.out.cell 3
      have f3 := HY4.out.free 3
      have y4 := HY4.out.cell 4
      have f4 := HY4.out.free 4
      have y5 := HY4.out.cell 5
      have f5 := HY4.out.free 5
      go_wp2_with fail
      refine bodyPost_ret (v := .tuple #[.agg #[.int .i64 0, .int .i64 0, .int .i64 0, .slice none 0 0, .slice none 0 0, .slice none 0 0], .int .i64 1]) (by simp [results, Tryz.results6, go_sem, y0, y1, y2, y3, y4, y5]) rfl ⟨0, 0, 0, none, 0, 0, [], none, 0, 0, [], none, 0, 0, [], _, rfl, ownD_nil _ _, .inr (.inr ⟨HP.out, rfl, rfl, rfl, rfl, rfl, rfl, rfl⟩), ?_⟩
      exact below_set6 HB.out (by omega) _ _ _ _ _ _
    · have HP := Lib.hid (show OkS room fuse next fs ks ts ∧ opQ 6 name to_ n = true from ⟨HQ.out, HOB.out.symm⟩)
      have hf10 : nf ≤ 10 := by have := HQ.out.2.1; rw [HFL.out] at this; exact this
      have hk10 : nk ≤ 10 := by have := HQ.out.2.2.1; rw [HKL.out] at this; exact this
      have ht30 : nt ≤ 30 := by have := HQ.out.2.2.2.1; rw [HTL.out] at this; exact this
      have x0 := HX4.out.cell 0
      have x1 := HX4.out.cell 1
      have x2 := HX4.out.cell 2
      have x3 := HX4.out.cell 3
      have x4 := HX4.out.cell 4
      have x5 := HX4.out.cell 5
      go_wp2_with fail
      refine (HCopy.out _ HB4.out).mono ?_
      rintro e v5 ⟨F1, cf1, K1, ck1, T1, ct1, gs, rfl, ho1, hg1, hb5⟩
      have HG1 := Lib.hid hg1
      have hz5 : v4.heap.size ≤ v5.heap.size := hb5.size
      obtain ⟨V, hV⟩ : ∃ V, V = v5.alloc (.cells #[.int .i64 room, .int .i64 fuse, .int .i64 next, .slice F1 nf cf1, .slice K1 nk ck1, .slice T1 nt ct1] 36) := ⟨_, rfl⟩
      have hbV : Below v5.heap.size v5 V := by rw [hV]; exact (Below.refl _ _).alloc (Nat.le_refl _) _
      have HO6 := Lib.hid ((ho1.more (base' := w.heap.size + 3) (by omega)).below (Nat.le_refl _) hbV)
      have HY6 := Lib.hid ((HY4.out.below hb5 (by omega)).below hbV (by omega))
      have HX6 := Lib.hid ((HX4.out.below hb5 (by omega)).below hbV (by omega))
      have HP6 := Lib.hid ((HP4.out.below hb5 (by omega)).below hbV (by omega))
      have HB6 := Lib.hid ((HB4.out.trans (hb5.mono (by omega))).trans (hbV.mono (by omega)))
      have HN6 := Lib.hid (show BoxW V v5.heap.size #[.int .i64 room, .int .i64 fuse, .int .i64 next, .slice F1 nf cf1, .slice K1 nk ck1, .slice T1 nt ct1] by rw [hV]; exact BoxW.new v5 _)
      have hzV : v5.heap.size < V.heap.size := HN6.out.lt
      have HL6 := Lib.hid (show ∀ i, SD F1 nf cf1 gs K1 nk ck1 T1 nt ct1 i → i ≠ v5.heap.size from fun i hi => by have := (ho1.lt i hi).2; omega)
      have HV := Lib.hid hV.symm
      have hz9 : w.heap.size + 2 < v5.heap.size := by omega
      clear hg1 ho1 hb5 hbV hV x0 x1 x2 x3 x4 x5
      go_upto_region 4 with fail
      rw [HV.out]
      have x0 := HX6.out.cell 0
      have x1 := HX6.out.cell 1
      have x2 := HX6.out.cell 2
      have x3 := HX6.out.cell 3
      have x4 := HX6.out.cell 4
      have x5 := HX6.out.cell 5
      have p0 := HP6.out.1
      have p1 := HP6.out.2.1
      have p2 := HP6.out.2.2.1
      have p3 := HP6.out.2.2.2
      go_wp2_with fail
      refine (HCode.out _ HB6.out HQ.out).mono ?_
      rintro e v8 ⟨rfl, hb8⟩
      have HX8 := Lib.hid (HX6.out.below hb8 (by omega))
      have HY8 := Lib.hid (HY6.out.below hb8 (by omega))
      have HP8 := Lib.hid (HP6.out.below hb8 (by omega))
      have HN8 := Lib.hid (HN6.out.below hb8 (by omega))
      have HO8 := Lib.hid (HO6.out.below (Nat.le_refl _) hb8)
      have HB8 := Lib.hid (HB6.out.trans (hb8.mono (by omega)))
      have hz8 : V.heap.size ≤ v8.heap.size := hb8.size
      clear hb8 x0 x1 x2 x3 x4 x5 p0 p1 p2 p3
      obtain ⟨cd, hcd⟩ : ∃ z, z = codeD fuse next nf nt 6 (decide (0 < findD (dirAt ks ts) name.toList)) (to_.toList == name.toList) := ⟨_, rfl⟩
      rw [← hcd]
      have HCD := Lib.hid (show codeD fuse next fs.length ts.length 6 (decide (0 < findD (dirAt ks ts) name.toList)) (to_.toList == name.toList) = cd from by rw [HFL.out, HTL.out]; exact hcd.symm)
      clear hcd
      by_cases hc0 : cd = 0
      · subst hc0
        obtain ⟨f', hf'⟩ : ∃ z, z = (if 0 < fuse then fuse - 1 else fuse) := ⟨_, rfl⟩
        have HFU := Lib.hid hf'
        have hs1 : 0 < fuse → IntKind.i64.wrap (fuse - 1) = fuse - 1 := fun _ => IntWalk.i64_in _ (by have := HQ.out.1; unfold NumI at this; omega)
        have u0 := HN8.out.cell 0
        have u1 := HN8.out.cell 1
        have u2 := HN8.out.cell 2
        have u3 := HN8.out.cell 3
        have u4 := HN8.out.cell 4
        have u5 := HN8.out.cell 5
        go_upto_if 32 with fail
        go_cut [] (fun wx => BoxW wx v5.heap.size #[.int .i64 room, .int .i64 f', .int .i64 next, .slice F1 nf cf1, .slice K1 nk ck1, .slice T1 nt ct1] ∧ OwnD wx (w.heap.size + 3) F1 nf cf1 gs K1 nk ck1 ks T1 nt ct1 ts ∧ BoxW wx w.heap.size #[.int .i64 room, .int .i64 fuse, .int .i64 next, .slice F nf cf, .slice K nk ck, .slice T nt ct] ∧ Box4 wx (w.heap.size + 1) (.int .i64 6) (.string name) (.string to_) (.slice A n c) ∧ BoxW wx (w.heap.size + 1 + 1) #[.int .i64 0, .int .i64 0, .int .i64 0, .slice none 0 0, .slice none 0 0, .slice none 0 0] ∧ Below w.heap.size w wx ∧ wx.heap.size = v8.heap.size)
        case first =>
          by_cases hf0 : 0 < fuse
          · have hs2 := hs1 hf0
            have hfd : decide (fuse > 0) = true := decide_eq_true hf0
            have hfe : f' = fuse - 1 := by rw [hf', if_pos hf0]
            have HF1 := Lib.hid hfe
            have g1 := HN8.out.free 1
            clear hf' hfe
            go_wp2_with fail
            go_meet
            case rel => exact ⟨by rw [HF1.out]; exact HN8.out.set1 _, HO8.out.set HL6.out, HX8.out.other (by omega), Box4.far HP8.out (by omega), HY8.out.other (by omega), HB8.out.setCell (p := ⟨v5.heap.size, 1, none⟩) (by show w.heap.size ≤ v5.heap.size; omega) _, by simp⟩
          · have hfd : decide (fuse > 0) = false := decide_eq_false (by omega)
            have hfe : f' = fuse := by rw [hf', if_neg hf0]
            have HF1 := Lib.hid hfe
            clear hf' hfe
            go_wp2_with fail
            go_meet
            case rel => exact ⟨by rw [HF1.out]; exact HN8.out, HO8.out, HX8.out, HP8.out, HY8.out, HB8.out, rfl⟩
        case rest =>
          obtain ⟨hn9, ho9, hx9, hp9, hy9, hb9, hs9⟩ := hcut
          have HN9 := Lib.hid hn9
          have HO9 := Lib.hid ho9
          have HX9 := Lib.hid hx9
          have HP9 := Lib.hid hp9
          have HY9 := Lib.hid hy9
          have HB9 := Lib.hid hb9
          have hz10 : v5.heap.size < wc.heap.size := by omega
          clear hn9 ho9 hx9 hp9 hy9 hb9 u0 u1 u2 u3 u4 u5 hs1 hf' HN8 HO8 HX8 HP8 HY8 HB8
          have x0 := HX9.out.cell 0
          have x1 := HX9.out.cell 1
          have x2 := HX9.out.cell 2
          have x3 := HX9.out.cell 3
          have x4 := HX9.out.cell 4
          have x5 := HX9.out.cell 5
          have p0 := HP9.out.1
          have p1 := HP9.out.2.1
          have p2 := HP9.out.2.2.1
          have p3 := HP9.out.2.2.2
          go_upto_region 9 with fail
          go_cut [8] (fun s wx => (∃ z : Int, s = .int .i64 z) ∧ BoxW wx v5.heap.size #[.int .i64 room, .int .i64 f', .int .i64 next, .slice F1 nf cf1, .slice K1 nk ck1, .slice T1 nt ct1] ∧ OwnD wx (w.heap.size + 3) F1 nf cf1 gs K1 nk ck1 ks T1 nt ct1 ts ∧ BoxW wx w.heap.size #[.int .i64 room, .int .i64 fuse, .int .i64 next, .slice F nf cf, .slice K nk ck, .slice T nt ct] ∧ Box4 wx (w.heap.size + 1) (.int .i64 6) (.string name) (.string to_) (.slice A n c) ∧ BoxW wx (w.heap.size + 1 + 1) #[.int .i64 0, .int .i64 0, .int .i64 0, .slice none 0 0, .slice none 0 0, .slice none 0 0] ∧ Below w.heap.size w wx ∧ v5.heap.size < wx.heap.size)
          case first =>
            go_region_with (first
              | (go_at_call 25; refine (HDir.out _ HB9.out.drew HQ.out).mono ?_; rintro e y1 ⟨⟨A1, c1, rfl, ho1⟩, hl1, hb1⟩; have Ha := Lib.hid (show Below wc.heap.size wc y1 from ⟨hb1.os, hb1.tape, hb1.output, hb1.size, hb1.block⟩); have sa : wc.heap.size ≤ y1.heap.size := Ha.out.size; have HXa := Lib.hid (HX9.out.below Ha.out (by omega)); have HPa := Lib.hid (HP9.out.below Ha.out (by omega)); have HBa := Lib.hid (HB9.out.trans (Ha.out.mono (by omega))); have xa0 := HXa.out.cell 0; have xa1 := HXa.out.cell 1; have xa2 := HXa.out.cell 2; have xa3 := HXa.out.cell 3; have xa4 := HXa.out.cell 4; have xa5 := HXa.out.cell 5; have pa1 := HPa.out.2.1; have HFi := Lib.hid (l02Find_any A1 (dirAt ks ts).length c1 (dirAt ks ts) name y1 ho1.rd rfl (by omega)); clear ho1 hb1 x0 x1 x2 x3 x4 x5 p0 p1 p2 p3)
              | (go_at_call 24; refine HFi.out.mono ?_; rintro e y2 ⟨rfl, hb2⟩; have Hb := Lib.hid (Ha.out.trans (hb2.mono (by omega))); have sb : wc.heap.size ≤ y2.heap.size := Hb.out.size; have HXb := Lib.hid (HX9.out.below Hb.out (by omega)); have HPb := Lib.hid (HP9.out.below Hb.out (by omega)); have HBb := Lib.hid (HB9.out.trans (Hb.out.mono (by omega))); have xb0 := HXb.out.cell 0; have xb1 := HXb.out.cell 1; have xb2 := HXb.out.cell 2; have xb3 := HXb.out.cell 3; have xb4 := HXb.out.cell 4; have xb5 := HXb.out.cell 5; have pb1 := HPb.out.2.1; clear hb2 xa0 xa1 xa2 xa3 xa4 xa5 pa1)
              | (go_at_call 23; refine (HAt.out _ HBb.out _ (by omega)).mono ?_; rintro e y3 ⟨⟨zat, rfl⟩, hb3⟩; have Hc := Lib.hid (Hb.out.trans (hb3.mono (by omega))); clear hb3 xb0 xb1 xb2 xb3 xb4 xb5 pb1))
            all_goals
              go_wp2_with fail
              go_meet
              case rel => exact ⟨⟨zat, rfl⟩, HN9.out.below Hc.out hz10, HO9.out.below (Nat.le_refl _) Hc.out, HX9.out.below Hc.out (by omega), HP9.out.below Hc.out (by omega), HY9.out.below Hc.out (by omega), HB9.out.trans (Hc.out.mono (by omega)), Nat.lt_of_lt_of_le hz10 Hc.out.size⟩
          case rest =>
            obtain ⟨⟨zat, rfl⟩, hna, hoa, hxa, hpa, hya, hba, hz11⟩ := hcut
            have HNa := Lib.hid hna
            have HOa := Lib.hid hoa
            have HXa := Lib.hid hxa
            have HPa := Lib.hid hpa
            have HYa := Lib.hid hya
            have HBa := Lib.hid hba
            clear hna hoa hxa hpa hya hba HN9 HO9 HX9 HP9 HY9 HB9 x0 x1 x2 x3 x4 x5 p0 p1 p2 p3 hz10
            have x0 := HXa.out.cell 0
            have x1 := HXa.out.cell 1
            have x2 := HXa.out.cell 2
            have x3 := HXa.out.cell 3
            have x4 := HXa.out.cell 4
            have x5 := HXa.out.cell 5
            have f4 := HNa.out.free 4
            have u4 := HNa.out.cell 4
            have p0 := HPa.out.1
            go_wp2_with fail
            clear p0
            refine (HDir.out _ HBa.out HQ.out).mono ?_
            rintro e y1 ⟨⟨Ky, cy, rfl, hoy⟩, hly, hyb⟩
            obtain ⟨nl, hnl⟩ : ∃ n, n = (dirAt ks ts).length := ⟨_, rfl⟩
            rw [← hnl] at hoy hly ⊢
            have HNL := Lib.hid hnl
            have hn2 := HNa.out.below hyb hz11
            have ho2 := HOa.out.below (Nat.le_refl _) hyb
            have hy2 := HYa.out.below hyb (by omega)
            have hb2 := HBa.out.trans (hyb.mono (by omega))
            have hneF := box_ne_row hn2 ho2.f (by decide)
            have hneB : ∀ f ∈ gs, blkF f ≠ some v5.heap.size := fun f hf => box_ne_row hn2 (ho2.b.1 f hf) (by decide)
            have hneL : (Value.slice Ky nl cy).ownBlock ≠ some v5.heap.size := fun e => by have := (World.ownsRow.lt hoy _ e).1; omega
            have g4 := hn2.free 4
            have g5 := hn2.free 5
            have c4 := hn2.cell 4
            have c5 := hn2.cell 5
            obtain ⟨V2, hV2⟩ : ∃ V, V = (y1.setCell ⟨v5.heap.size, 4, none⟩ (.slice Ky nl cy)).setCell ⟨v5.heap.size, 5, none⟩ (.slice none 0 0) := ⟨_, rfl⟩
            have HNV := Lib.hid (show BoxW V2 v5.heap.size #[.int .i64 room, .int .i64 f', .int .i64 next, .slice F1 nf cf1, .slice Ky nl cy, .slice none 0 0] by rw [hV2]; exact (hn2.set4 _).set5 _)
            have HFV := Lib.hid (show OwnF V2 (w.heap.size + 3) F1 nf cf1 gs by rw [hV2]; exact own_setNe (own_setNe ho2.f _ _ _ hneF) _ _ _ hneF)
            have HSV := Lib.hid (show OwnBs V2 (w.heap.size + 3) gs by rw [hV2]; exact (ho2.b.cell_ hneB).cell_ hneB)
            have HLV := Lib.hid (show OwnL V2 (w.heap.size + 3) Ky nl cy (dirAt ks ts) by rw [hV2]; exact own_setNe (own_setNe (own_moreK hoy (by omega)) _ _ _ hneL) _ _ _ hneL)
            have HYV := Lib.hid (show BoxW V2 (w.heap.size + 1 + 1) #[.int .i64 0, .int .i64 0, .int .i64 0, .slice none 0 0, .slice none 0 0, .slice none 0 0] by rw [hV2]; exact (hy2.other (by omega)).other (by omega))
            have HBV := Lib.hid (show Below w.heap.size w V2 by rw [hV2]; exact (hb2.setCell (p := ⟨v5.heap.size, 4, none⟩) (by show w.heap.size ≤ v5.heap.size; omega) _).setCell (p := ⟨v5.heap.size, 5, none⟩) (by show w.heap.size ≤ v5.heap.size; omega) _)
            have hzV2 : v5.heap.size < V2.heap.size := HNV.out.lt
            have HV2 := Lib.hid hV2.symm
            have HOnly := Lib.hid (l02Only_any room f' next F1 nf cf1 Ky nl cy none 0 0 gs (dirAt ks ts) [] V2 HFV.out.rd HOa.out.lenF (by omega) HLV.out.rd HNL.out.symm (by omega) (fun h => absurd h (by simp)) rfl (by omega))
            clear hn2 ho2 hy2 hb2 hV2 hneF hneL hneB hnl hoy hyb x0 x1 x2 x3 x4 x5 u4 f4
            go_upto_region 33 with fail
            rw [HV2.out]
            clear g4 g5 c4 c5
            have p0 := HNV.out.cell 0
            have p1 := HNV.out.cell 1
            have p2 := HNV.out.cell 2
            have p3 := HNV.out.cell 3
            have p4 := HNV.out.cell 4
            have p5 := HNV.out.cell 5
            go_wp2_with fail
            refine HOnly.out.mono ?_
            rintro e v9 ⟨F8, n8, cf8, rfl, ho8, hb8⟩
            obtain ⟨hh, hhe⟩ : ∃ l, l = keptF ((dirAt ks ts).map (·.2)) gs := ⟨_, rfl⟩
            have hhi : keptF (idsD (dirAt ks ts) []) gs = hh := by rw [hhe]; unfold idsD tids; simp
            have hs8 := kept_sep (ids := idsD (dirAt ks ts) []) (HSV.out.below (Nat.le_refl _) hb8)
            rw [hhi] at ho8 hs8
            have HHE := Lib.hid hhe
            have hn8 := HNV.out.below hb8 hzV2
            have hy8 := HYV.out.below hb8 (by omega)
            have hl8 := own_belowK HLV.out (Nat.le_refl _) hb8
            have hneF := box_ne_row hn8 ho8 (by decide)
            have hneL := box_ne_row hn8 hl8 (by decide)
            have hneB : ∀ f ∈ hh, blkF f ≠ some v5.heap.size := fun f hf => box_ne_row hn8 (hs8.1 f hf) (by decide)
            have hb8w := HBV.out.trans (hb8.mono (by omega))
            have a0 := hn8.cell 0
            have b0 := hn8.free 0
            have a1 := hn8.cell 1
            have b1 := hn8.free 1
            have a2 := hn8.cell 2
            have b2 := hn8.free 2
            have a3 := hn8.cell 3
            have b3 := hn8.free 3
            have a4 := hn8.cell 4
            have b4 := hn8.free 4
            have a5 := hn8.cell 5
            have b5 := hn8.free 5
            obtain ⟨V3, hV3⟩ : ∃ V, V = (((((v9.setCell ⟨v5.heap.size, 0, none⟩ (.int .i64 room)).setCell ⟨v5.heap.size, 1, none⟩ (.int .i64 f')).setCell ⟨v5.heap.size, 2, none⟩ (.int .i64 next)).setCell ⟨v5.heap.size, 3, none⟩ (.slice F8 n8 cf8)).setCell ⟨v5.heap.size, 4, none⟩ (.slice Ky nl cy)).setCell ⟨v5.heap.size, 5, none⟩ (.slice none 0 0) := ⟨_, rfl⟩
            have HN2 := Lib.hid (show BoxW V3 v5.heap.size #[.int .i64 room, .int .i64 f', .int .i64 next, .slice F8 n8 cf8, .slice Ky nl cy, .slice none 0 0] by rw [hV3]; exact (((((hn8.set0 _).set1 _).set2 _).set3 _).set4 _).set5 _)
            have HF2 := show OwnF V3 (w.heap.size + 3) F8 n8 cf8 hh by rw [hV3]; exact own_setNe (own_setNe (own_setNe (own_setNe (own_setNe (own_setNe (own_moreK ho8 (by omega)) _ _ _ hneF) _ _ _ hneF) _ _ _ hneF) _ _ _ hneF) _ _ _ hneF) _ _ _ hneF
            have HS2 := show OwnBs V3 (w.heap.size + 3) hh by rw [hV3]; exact (((((hs8.cell_ hneB).cell_ hneB).cell_ hneB).cell_ hneB).cell_ hneB).cell_ hneB
            have HL2 := show OwnL V3 (w.heap.size + 3) Ky nl cy (dirAt ks ts) by rw [hV3]; exact own_setNe (own_setNe (own_setNe (own_setNe (own_setNe (own_setNe hl8 _ _ _ hneL) _ _ _ hneL) _ _ _ hneL) _ _ _ hneL) _ _ _ hneL) _ _ _ hneL
            have HOe := Lib.hid (show OwnD V3 (w.heap.size + 3) F8 n8 cf8 hh Ky nl cy (dirAt ks ts) none 0 0 [] from ⟨HF2, HS2, HL2, World.ownsRow_nil V3 _ _ _⟩)
            have HYe := Lib.hid (show BoxW V3 (w.heap.size + 1 + 1) #[.int .i64 0, .int .i64 0, .int .i64 0, .slice none 0 0, .slice none 0 0, .slice none 0 0] by rw [hV3]; exact (((((hy8.other (by omega)).other (by omega)).other (by omega)).other (by omega)).other (by omega)).other (by omega))
            have HBe := Lib.hid (show Below w.heap.size w V3 by rw [hV3]; exact below_set6 hb8w (by omega) _ _ _ _ _ _)
            have HV3 := Lib.hid hV3.symm
            clear ho8 hb8 hs8 hn8 hy8 hl8 hb8w hneF hneL hneB hV3 hhe hhi HF2 HS2 HL2 HOnly p0 p1 p2 p3 p4 p5
            go_upto_region 34 with fail
            rw [HV3.out]
            clear a0 a1 a2 a3 a4 a5 b0 b1 b2 b3 b4 b5
            have HKE := Lib.hid (show hh.map keyF = (doneF 6 room next (findD (dirAt ks ts) name.toList) (dirAt ks ts) ys n fs).map keyF from by
              show _ = (keptF ((dirAt ks ts).map (·.2)) fs).map keyF
              rw [HHE.out]; exact kept_keys _ _ _ HG1.out)
            have x0 := HN2.out.cell 0
            have x1 := HN2.out.cell 1
            have x2 := HN2.out.cell 2
            have x3 := HN2.out.cell 3
            have x4 := HN2.out.cell 4
            have x5 := HN2.out.cell 5
            have y0 := HYe.out.cell 0
            have f0 := HYe.out.free 0
            have y1 := HYe.out.cell 1
            have f1 := HYe.out.free 1
            have y2 := HYe.out.cell 2
            have f2 := HYe.out.free 2
            have y3 := HYe.out.cell 3
            have f3 := HYe.out.free 3
            have y4 := HYe.out.cell 4
            have f4 := HYe.out.free 4
            have y5 := HYe.out.cell 5
            have f5 := HYe.out.free 5
            go_wp2_with fail
            refine bodyPost_ret (v := .tuple #[.agg #[.int .i64 room, .int .i64 f', .int .i64 next, .slice F8 n8 cf8, .slice Ky nl cy, .slice none 0 0], .int .i64 0]) (by simp [results, Tryz.results6, go_sem, y0, y1, y2, y3, y4, y5]) rfl ⟨room, f', next, F8, n8, cf8, hh, Ky, nl, cy, _, none, 0, 0, [], _, rfl, ?_, .inr (.inl ⟨HP.out, HCD.out, rfl, rfl, HFU.out, rfl, HKE.out, rfl, rfl⟩), ?_⟩
            · exact OwnD.more (OwnD.set6 HOe.out (fun i hi => by have := (HOe.out.lt i hi).1; omega) _ _ _ _ _ _) (by omega)
            · exact below_set6 HBe.out (by omega) _ _ _ _ _ _
      · have hcb : (cd != 0) = true := by simp [hc0]
        have x0 := HN8.out.cell 0
        have x1 := HN8.out.cell 1
        have x2 := HN8.out.cell 2
        have x3 := HN8.out.cell 3
        have x4 := HN8.out.cell 4
        have x5 := HN8.out.cell 5
        have y0 := HY8.out.cell 0
        have f0 := HY8.out.free 0
        have y1 := HY8.out.cell 1
        have f1 := HY8.out.free 1
        have y2 := HY8.out.cell 2
        have f2 := HY8.out.free 2
        have y3 := HY8.out.cell 3
        have f3 := HY8.out.free 3
        have y4 := HY8.out.cell 4
        have f4 := HY8.out.free 4
        have y5 := HY8.out.cell 5
        have f5 := HY8.out.free 5
        go_wp2_with fail
        refine bodyPost_ret (v := .tuple #[.agg #[.int .i64 room, .int .i64 fuse, .int .i64 next, .slice F1 nf cf1, .slice K1 nk ck1, .slice T1 nt ct1], .int .i64 cd]) (by simp [results, Tryz.results6, go_sem, y0, y1, y2, y3, y4, y5]) rfl ⟨room, fuse, next, F1, nf, cf1, gs, K1, nk, ck1, ks, T1, nt, ct1, ts, _, rfl, ?_, .inl ⟨HP.out, by rw [HCD.out]; exact hc0, by rw [HCD.out], rfl, rfl, rfl, HG1.out, rfl, rfl⟩, ?_⟩
        · exact OwnD.more (OwnD.set6 HO8.out (fun i hi => by have := (HO8.out.lt i hi).1; omega) _ _ _ _ _ _) (by omega)
        · exact below_set6 HB8.out (by omega) _ _ _ _ _ _
end Go.Proofs.YtfkdfabbpebljaaGreat.DOk
