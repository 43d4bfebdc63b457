/- Texts that lay in modules of their own: DoSpecNo, DoSpec, Held, HeldLink. -/
import Derived.Test.YtfkdfabbpebljaaGreatKitJ
import Derived.Deep.RegionWith
import Derived.Deep.RegionLaw
import Derived.Deep.Cut
import Derived.Deep.DrawnRows
import Derived.IntWalk
import Derived.StillTailTactics
import Derived.Test.YtfkdfabbpebljaaGreatDoSpec1
import Derived.Test.YtfkdfabbpebljaaGreatDoSpec2
import Derived.Test.YtfkdfabbpebljaaGreatDoSpec3
import Derived.Test.YtfkdfabbpebljaaGreatDoSpec4
import Derived.Test.YtfkdfabbpebljaaGreatDoSpec5
import Derived.Test.YtfkdfabbpebljaaGreatDoSpec6
import Derived.Test.YtfkdfabbpebljaaGreatKitB
import Derived.Deep.RegionHeld3
namespace Go.Proofs.YtfkdfabbpebljaaGreat.DOk
open Go.RowKit Go.Proofs.YtfkdfabbpebljaaGreat.Bytes Go.Proofs.YtfkdfabbpebljaaGreat.Rows_ Go.Maps
set_option linter.unusedVariables false
attribute [local go_sem ↓] Go.wp_at_zero Go.wp_at_succ

set_option maxRecDepth 100000 in
set_option maxHeartbeats 24000000 in
theorem spec_DiskDo_no (k : Int) (hko : k < 1 ∨ 6 < k) (room fuse next : Int) (F : Option Addr) (nf cf : Nat) (K : Option Addr) (nk ck : Nat) (T : Option Addr) (nt ct : Nat) (fs : List FileD) (ks : List LinkD) (ts : List TurnD) (name to_ : ByteArray) (A : Option Addr) (n c : Nat) (ys : List Int) (w : World)
    (hf : RdF w w.heap.size F fs) (hfl : fs.length = nf) (hfn : nf ≤ 2000000) (hu : usedD fs ≤ 1099511627776)
    (hk : RdL w w.heap.size K ks) (hkl : ks.length = nk) (hkn : nk ≤ 2000000) (hKA : K = none → nk = 0 ∧ ck = 0) (hks : ∀ x ∈ ks, x.1.size ≤ maxLen ∧ (Lit.int .i64 x.2).wf = true) (ht : RdT w w.heap.size T ts) (htl : ts.length = nt) (htn : nt ≤ 2000000) (hTA : T = none → nt = 0 ∧ ct = 0) (hts : ∀ x ∈ ts, x.name.size ≤ maxLen ∧ x.to_.size ≤ maxLen ∧ (Lit.int .i64 x.id).wf = true)
    (h1 : name.size ≤ maxLen) (h2 : to_.size ≤ maxLen) (hn : n ≤ 1048576) :
    Calls Tryz.prog 6 #[.agg #[.int .i64 room, .int .i64 fuse, .int .i64 next, .slice F nf cf, .slice K nk ck, .slice T nt ct], .agg #[.int .i64 k, .string name, .string to_, .slice A n c]] w (AnsDisk (DoD (OkS room fuse next fs ks ts ∧ opQ k name to_ n = true) room fuse next fs ks ts k name to_ ys n) w) := by
  obtain ⟨W1, hW1⟩ : ∃ W, W = w.alloc (.cells #[.int .i64 room, .int .i64 fuse, .int .i64 next, .slice F nf cf, .slice K nk ck, .slice T nt ct] 36) := ⟨_, rfl⟩
  obtain ⟨W2, hW2⟩ : ∃ W, W = W1.alloc (.cells #[.int .i64 k, .string name, .string to_, .slice A n c] 40) := ⟨_, rfl⟩
  obtain ⟨W3, hW3⟩ : ∃ W, W = W2.alloc (.cells #[.int .i64 0, .int .i64 0, .int .i64 0, .slice none 0 0, .slice none 0 0, .slice none 0 0] 36) := ⟨_, rfl⟩
  have z1 : W1.heap.size = w.heap.size + 1 := by rw [hW1]; simp
  have z2 : W2.heap.size = w.heap.size + 2 := by rw [hW2]; simp; omega
  have z3 : W3.heap.size = w.heap.size + 3 := by rw [hW3]; simp; omega
  have b1 : Below w.heap.size w W1 := by rw [hW1]; exact (Below.refl _ _).alloc (Nat.le_refl _) _
  have b2 : Below W1.heap.size W1 W2 := by rw [hW2]; exact (Below.refl _ _).alloc (Nat.le_refl _) _
  have b3 : Below W2.heap.size W2 W3 := by rw [hW3]; exact (Below.refl _ _).alloc (Nat.le_refl _) _
  have HB0 := Lib.hid ((b1.trans (b2.mono (by omega))).trans (b3.mono (by omega)) : Below w.heap.size w W3)
  have HX0 := Lib.hid (show BoxW W3 w.heap.size #[.int .i64 room, .int .i64 fuse, .int .i64 next, .slice F nf cf, .slice K nk ck, .slice T nt ct] from
    (BoxW.below (by rw [hW1]; exact BoxW.new w _) b2 (by omega)).below b3 (by omega))
  have HP0 := Lib.hid (show Box4 W3 (w.heap.size + 1) (.int .i64 k) (.string name) (.string to_) (.slice A n c) from by
    rw [← z1]; exact Box4.below (by rw [hW2]; exact Box4.new W1 _ _ _ _ _) b3 (by omega))
  have HY0 := Lib.hid (show BoxW W3 (w.heap.size + 1 + 1) #[.int .i64 0, .int .i64 0, .int .i64 0, .slice none 0 0, .slice none 0 0, .slice none 0 0] from by
    show BoxW W3 (w.heap.size + 2) _
    rw [← z2, hW3]; exact BoxW.new W2 _)
  have HW1 := Lib.hid hW1.symm
  have HW2 := Lib.hid hW2.symm
  have HW3 := Lib.hid hW3.symm
  have HOk := Lib.hid (fun W (h : Below w.heap.size w W) => specOk_any room fuse next F nf cf K nk ck T nt ct fs ks ts W ((hf.below (Nat.le_refl _) h).more h.size) hfl hu ((hk.below (Nat.le_refl _) h).more h.size) hkl (fun x hx => (hks x hx).1) ((ht.below (Nat.le_refl _) h).more h.size) htl (fun x hx => ⟨(hts x hx).1, (hts x hx).2.1⟩))
  have HOp := Lib.hid (fun W => show Calls Tryz.prog 20 #[.agg #[.int .i64 k, .string name, .string to_, .slice A n c]] W fun e w' => e = .returned (.bool (opQ k name to_ n)) ∧ Below W.heap.size W w' from OpOk.spec_any k name to_ A n c W (by omega) h1 h2)
  have HFL := Lib.hid hfl
  have HTL := Lib.hid htl
  have HKL := Lib.hid hkl
  clear hf hfl hu hk hkl hks ht htl hts hKA hTA hW1 hW2 hW3 b1 b2 b3
  go_enter Tryz.func6, Tryz.ntmps6
  go_upto_region 1 with fail
  rw [HW1.out, HW2.out, HW3.out]
  have x0 := HX0.out.cell 0
  have x1 := HX0.out.cell 1
  have x2 := HX0.out.cell 2
  have x3 := HX0.out.cell 3
  have x4 := HX0.out.cell 4
  have x5 := HX0.out.cell 5
  go_wp2_with fail
  clear x0 x1 x2 x3 x4 x5
  refine (HOk.out _ HB0.out).mono ?_
  rintro e v3 ⟨b1, rfl, hv1, hb3⟩
  have HY3 := Lib.hid (HY0.out.below hb3 (by omega))
  have HX3 := Lib.hid (HX0.out.below hb3 (by omega))
  have HP3 := Lib.hid (HP0.out.below hb3 (by omega))
  have HB3 := Lib.hid (HB0.out.trans (hb3.mono (by omega)))
  have hz3 : w.heap.size + 2 < v3.heap.size := HY3.out.lt
  clear hb3
  cases b1
  · have HP := Lib.hid (show ¬ (OkS room fuse next fs ks ts ∧ opQ k name to_ n = true) from fun h => by have := hv1.2 h.1; simp at this)
    have HB := HB3
    clear hv1
    have y0 := HY3.out.cell 0
    have f0 := HY3.out.free 0
    have y1 := HY3.out.cell 1
    have f1 := HY3.out.free 1
    have y2 := HY3.out.cell 2
    have f2 := HY3.out.free 2
    have y3 := HY3.out.cell 3
    have f3 := HY3.out.free 3
    have y4 := HY3.out.cell 4
    have f4 := HY3.out.free 4
    have y5 := HY3.out.cell 5
    have f5 := HY3.out.free 5
    go_wp2_with fail
    refine bodyPost_ret (v := .tuple #[.agg #[.int .i64 0, .int .i64 0, .int .i64 0, .slice none 0 0, .slice none 0 0, .slice none 0 0], .int .i64 1]) (by simp [results, Tryz.results6, go_sem, y0, y1, y2, y3, y4, y5]) rfl ⟨0, 0, 0, none, 0, 0, [], none, 0, 0, [], none, 0, 0, [], _, rfl, ownD_nil _ _, .inr (.inr ⟨HP.out, rfl, rfl, rfl, rfl, rfl, rfl, rfl⟩), ?_⟩
    exact below_set6 HB.out (by omega) _ _ _ _ _ _
  · have hq := hv1.1 rfl
    have HQ := Lib.hid hq
    have p0 := HP3.out.1
    have p1 := HP3.out.2.1
    have p2 := HP3.out.2.2.1
    have p3 := HP3.out.2.2.2
    clear hv1 hq
    go_wp2_with fail
    refine (HOp.out _).mono ?_
    rintro e v4 ⟨rfl, hb4⟩
    have HY4 := Lib.hid (HY3.out.below hb4 (by omega))
    have HX4 := Lib.hid (HX3.out.below hb4 (by omega))
    have HP4 := Lib.hid (HP3.out.below hb4 (by omega))
    have HB4 := Lib.hid (HB3.out.trans (hb4.mono (by omega)))
    have hz4 : w.heap.size + 2 < v4.heap.size := HY4.out.lt
    clear hb4 p0 p1 p2 p3
    obtain ⟨ob, hob⟩ : ∃ b, b = opQ k name to_ n := ⟨_, rfl⟩
    have HOB := Lib.hid hob
    rw [← hob]
    clear hob
    cases ob
    · have HP := Lib.hid (show ¬ (OkS room fuse next fs ks ts ∧ opQ k name to_ n = true) from fun h => by have := HOB.out.trans h.2; simp at this)
      have HB := HB4
      have y0 := HY4.out.cell 0
      have f0 := HY4.out.free 0
      have y1 := HY4.out.cell 1
      have f1 := HY4.out.free 1
      have y2 := HY4.out.cell 2
      have f2 := HY4.out.free 2
      have y3 := HY4.out.cell 3
      have f3 := HY4.out.free 3
      have y4 := HY4.out.cell 4
      have f4 := HY4.out.free 4
      have y5 := HY4.out.cell 5
      have f5 := HY4.out.free 5
      go_wp2_with fail
      refine bodyPost_ret (v := .tuple #[.agg #[.int .i64 0, .int .i64 0, .int .i64 0, .slice none 0 0, .slice none 0 0, .slice none 0 0], .int .i64 1]) (by simp [results, Tryz.results6, go_sem, y0, y1, y2, y3, y4, y5]) rfl ⟨0, 0, 0, none, 0, 0, [], none, 0, 0, [], none, 0, 0, [], _, rfl, ownD_nil _ _, .inr (.inr ⟨HP.out, rfl, rfl, rfl, rfl, rfl, rfl, rfl⟩), ?_⟩
      exact below_set6 HB.out (by omega) _ _ _ _ _ _
    · exfalso
      have := opQ_rng HOB.out.symm
      omega
end Go.Proofs.YtfkdfabbpebljaaGreat.DOk
namespace Go.Proofs.YtfkdfabbpebljaaGreat.DOk
open Go.RowKit Go.Proofs.YtfkdfabbpebljaaGreat.Bytes Go.Proofs.YtfkdfabbpebljaaGreat.Rows_ Go.Maps
set_option linter.unusedVariables false
theorem spec_DiskDo_any (room fuse next : Int) (F : Option Addr) (nf cf : Nat) (K : Option Addr) (nk ck : Nat) (T : Option Addr) (nt ct : Nat) (fs : List FileD) (ks : List LinkD) (ts : List TurnD) (k : Int) (name to_ : ByteArray) (A : Option Addr) (n c : Nat) (ys : List Int) (w : World)
    (hf : RdF w w.heap.size F fs) (hfl : fs.length = nf) (hfn : nf ≤ 2000000) (hFA : F = none → nf = 0 ∧ cf = 0) (hrb : RdB w w.heap.size fs) (hba_ : ∀ f ∈ fs, f.A = none → f.n = 0 ∧ f.c = 0) (hfid : ∀ x ∈ fs, (Lit.int .i64 x.id).wf = true) (hu : usedD fs ≤ 1099511627776)
    (hk : RdL w w.heap.size K ks) (hkl : ks.length = nk) (hkn : nk ≤ 2000000) (hKA : K = none → nk = 0 ∧ ck = 0) (hks : ∀ x ∈ ks, x.1.size ≤ maxLen ∧ (Lit.int .i64 x.2).wf = true) (ht : RdT w w.heap.size T ts) (htl : ts.length = nt) (htn : nt ≤ 2000000) (hTA : T = none → nt = 0 ∧ ct = 0) (hts : ∀ x ∈ ts, x.name.size ≤ maxLen ∧ x.to_.size ≤ maxLen ∧ (Lit.int .i64 x.id).wf = true)
    (h1 : name.size ≤ maxLen) (h2 : to_.size ≤ maxLen) (hr : Rd w w.heap.size A ys) (hl : ys.length = n) (hA : A = none → n = 0 ∧ c = 0) (hnc : n ≤ c) (hn : n ≤ 1048576) :
    Calls Tryz.prog 6 #[.agg #[.int .i64 room, .int .i64 fuse, .int .i64 next, .slice F nf cf, .slice K nk ck, .slice T nt ct], .agg #[.int .i64 k, .string name, .string to_, .slice A n c]] w (AnsDisk (DoD (OkS room fuse next fs ks ts ∧ opQ k name to_ n = true) room fuse next fs ks ts k name to_ ys n) w) := by
  by_cases hkk : 1 ≤ k ∧ k ≤ 6
  · have hh : k = 1 ∨ k = 2 ∨ k = 3 ∨ k = 4 ∨ k = 5 ∨ k = 6 := by omega
    rcases hh with rfl | rfl | rfl | rfl | rfl | rfl
    · exact spec_DiskDo_1 room fuse next F nf cf K nk ck T nt ct fs ks ts name to_ A n c ys w hf hfl hfn hFA hrb hba_ hfid hu hk hkl hkn hKA hks ht htl htn hTA hts h1 h2 hr hl hA hnc hn
    · exact spec_DiskDo_2 room fuse next F nf cf K nk ck T nt ct fs ks ts name to_ A n c ys w hf hfl hfn hFA hrb hba_ hfid hu hk hkl hkn hKA hks ht htl htn hTA hts h1 h2 hr hl hA hnc hn
    · exact spec_DiskDo_3 room fuse next F nf cf K nk ck T nt ct fs ks ts name to_ A n c ys w hf hfl hfn hFA hrb hba_ hfid hu hk hkl hkn hKA hks ht htl htn hTA hts h1 h2 hr hl hA hnc hn
    · exact spec_DiskDo_4 room fuse next F nf cf K nk ck T nt ct fs ks ts name to_ A n c ys w hf hfl hfn hFA hrb hba_ hfid hu hk hkl hkn hKA hks ht htl htn hTA hts h1 h2 hr hl hA hnc hn
    · exact spec_DiskDo_5 room fuse next F nf cf K nk ck T nt ct fs ks ts name to_ A n c ys w hf hfl hfn hFA hrb hba_ hfid hu hk hkl hkn hKA hks ht htl htn hTA hts h1 h2 hr hl hA hnc hn
    · exact spec_DiskDo_6 room fuse next F nf cf K nk ck T nt ct fs ks ts name to_ A n c ys w hf hfl hfn hFA hrb hba_ hfid hu hk hkl hkn hKA hks ht htl htn hTA hts h1 h2 hr hl hA hnc hn
  · exact spec_DiskDo_no k (by omega) room fuse next F nf cf K nk ck T nt ct fs ks ts name to_ A n c ys w hf hfl hfn hu hk hkl hkn hKA hks ht htl htn hTA hts h1 h2 hn
end Go.Proofs.YtfkdfabbpebljaaGreat.DOk
namespace Go.Proofs.YtfkdfabbpebljaaGreat.DOk
open Go.RowKit Go.Proofs.YtfkdfabbpebljaaGreat.Bytes Go.Proofs.YtfkdfabbpebljaaGreat.Rows_
set_option linter.unusedVariables false

theorem markF_at : ∀ (gs : List FileD) (k : Int) (t : Nat) (h : t < gs.length), (markF k gs)[t]? = some (mkF (endF k (gs.take t)) gs[t])
  | g :: gs, k, 0, h => by simp [markF, endF, usedD]
  | g :: gs, k, t + 1, h => by
    have := markF_at gs (k + 2 + g.n) t (by simpa using h)
    rw [markF, List.getElem?_cons_succ, this, List.take_succ_cons, endF_cons]; rfl
theorem markF_get (gs : List FileD) (k : Int) (t : Nat) (h : t < gs.length) (h' : t < (markF k gs).length) : (markF k gs)[t] = mkF (endF k (gs.take t)) gs[t] := by
  have := markF_at gs k t h
  rw [List.getElem?_eq_getElem h'] at this
  exact Option.some.inj this

set_option maxRecDepth 100000 in
set_option maxHeartbeats 3200000 in
theorem heldFileS_any (F : Option Addr) (n c : Nat) (gs : List FileD) (k : Int) (w : World) (hr : RdF w w.heap.size F (markF k gs)) (hb : RdB w w.heap.size (markF k gs)) (hl : gs.length = n) (h0 : 0 ≤ k) (h1 : endF k gs ≤ 1099511627776) :
    Calls Tryz.prog 46 #[.slice F n c, .int .i64 k] w fun e w' => e = .returned (.int .i64 (endF k gs)) ∧ w = w' := by
  have HL := Lib.hid hl
  have HLE := Lib.hid (endF_le k gs)
  have hn : n ≤ 1099511627776 := by unfold endF at h1; omega
  have H1 := Lib.hid h1
  have HR := Lib.hid hr
  have HB := Lib.hid hb
  clear hl h1 hr hb
  go_enter Tryz.func46, Tryz.ntmps46
  go_wp2_with fail
  go_loop [1, 5] (fun m i => ∃ t : Nat, t ≤ n ∧ i = .int .i64 t ∧ m = .int .i64 (endF k (gs.take t))) (fun _ i => n - (intOf i).toNat)
  case atStart => exact ⟨0, Nat.zero_le _, rfl, by simp [endF, usedD]⟩
  case round =>
    obtain ⟨t, ht, rfl, rfl⟩ := hrel
    by_cases hlt : t < n
    · have hlt' : t < gs.length := by rw [HL.out]; exact hlt
      have hlm : t < (markF k gs).length := by rw [markF_len]; exact hlt'
      obtain ⟨l1, l2⟩ := HLE.out t hlt'
      have l3 := H1.out
      have HE := Lib.hid (show endF k (gs.take (t + 1)) = endF k (gs.take t) + 2 + gs[t].n by rw [List.take_succ_eq_append_getElem hlt', endF_snoc])
      obtain ⟨b, o, rfl, hB, hc0, hc1, hc2⟩ := HR.out.at_ hlm
      have hbd := (HB.out _ (List.getElem_mem hlm)).1
      rw [markF_get gs k t hlt' hlm] at hc0 hc1 hc2 hbd
      simp only [mkF] at hc0 hc1 hc2 hbd
      generalize gs[t] = g at *
      have l4 : endF k (gs.take t) + 2 + g.n ≤ 1099511627776 := by omega
      have l5 : 0 ≤ endF k (gs.take t) := by omega
      generalize endF k (gs.take t) = kt at *
      have e1 : (kt != kt) = false := by simp
      have e2 : ((kt + 1 + (g.n : Int)) != (kt + 1 + (g.n : Int))) = false := by simp
      have HM := Lib.hid (heldByteS_any g.A g.n g.c (kt + 1) w hbd (by omega) (by omega) (by omega))
      clear hbd
      go_wp2_with fail
      refine HM.out.mono ?_
      rintro e v ⟨rfl, rfl⟩
      go_wp2_with fail
      refine ⟨⟨t + 1, by omega, by go_num, ?_⟩, by simp [intOf]; omega⟩
      rw [HE.out]; go_num
    · obtain rfl : n = t := by omega
      have e : gs.take n = gs := List.take_of_length_le (by rw [HL.out]; exact Nat.le_refl _)
      rw [e]
      go_wp2_with fail
      go_ret
      exact ⟨rfl, rfl⟩
end Go.Proofs.YtfkdfabbpebljaaGreat.DOk
namespace Go.Proofs.YtfkdfabbpebljaaGreat.DOk
open Go.RowKit Go.Proofs.YtfkdfabbpebljaaGreat.Bytes Go.Proofs.YtfkdfabbpebljaaGreat.Rows_
open Go.Proofs.YtfkdfabbpebljaaGreat.Mt (mt mark_text)
set_option linter.unusedVariables false

theorem markL_at : ∀ (ks : List LinkD) (k : Nat) (t : Nat) (h : t < ks.length), (markL k ks)[t]? = some (mt (k + 2 * t), ((k + 2 * t + 1 : Nat) : Int))
  | x :: ks, k, 0, h => rfl
  | x :: ks, k, t + 1, h => by
    have := markL_at ks (k + 2) t (by simpa using h)
    rw [markL, List.getElem?_cons_succ, this, show k + 2 + 2 * t = k + 2 * (t + 1) by omega]
theorem markL_get (ks : List LinkD) (k : Nat) (t : Nat) (h : t < ks.length) (h' : t < (markL k ks).length) : (markL k ks)[t] = (mt (k + 2 * t), ((k + 2 * t + 1 : Nat) : Int)) := by
  have := markL_at ks k t h
  rw [List.getElem?_eq_getElem h'] at this
  exact Option.some.inj this

set_option maxRecDepth 100000 in
set_option maxHeartbeats 3200000 in
theorem heldLinkS_any (A : Option Addr) (n c : Nat) (ks : List LinkD) (k : Nat) (w : World) (hr : RdL w w.heap.size A (markL k ks)) (hl : ks.length = n) (h0 : 1 ≤ k) (h1 : k + 2 * n ≤ 1099511627776) :
    Calls Tryz.prog 47 #[.slice A n c, .int .i64 k] w fun e w' => e = .returned (.int .i64 ((k + 2 * n : Nat) : Int)) ∧ Below w.heap.size w w' := by
  have HL := Lib.hid hl
  have HR := Lib.hid hr
  clear hl hr
  go_enter Tryz.func47, Tryz.ntmps47
  go_wp2_with fail
  go_loopw [1, 5] (fun m i wr => ∃ t : Nat, t ≤ n ∧ i = .int .i64 t ∧ m = .int .i64 ((k + 2 * t : Nat) : Int) ∧ Below w.heap.size w wr) (fun _ i _ => n - (intOf i).toNat)
  case atStart => exact ⟨0, Nat.zero_le _, rfl, rfl, Below.refl _ _⟩
  case round =>
    obtain ⟨t, ht, rfl, rfl, hb⟩ := hrel
    by_cases hlt : t < n
    · have hlt' : t < ks.length := by rw [HL.out]; exact hlt
      have hlm : t < (markL k ks).length := by rw [markL_len]; exact hlt'
      have hbs := hb.size
      obtain ⟨b, o, rfl, hB, hc0, hc1⟩ := (HR.out.below (Nat.le_refl _) hb).at_ hlm
      rw [markL_get ks k t hlt' hlm] at hc0 hc1
      simp only at hc0 hc1
      have hB2 : b < wr.heap.size := by omega
      have HM := Lib.hid (fun W => mark_text (k + 2 * t) W (by omega) (by omega))
      have HB := Lib.hid hb
      have HQ2 := Lib.hid (show ((k + 2 * (t + 1) : Nat) : Int) = ((k + 2 * t : Nat) : Int) + 1 + 1 by omega)
      rw [show ((k + 2 * t + 1 : Nat) : Int) = ((k + 2 * t : Nat) : Int) + 1 by omega] at hc1
      have ht0 : (0 : Int) ≤ (t : Int) := by omega
      have ht1 : (t : Int) < (n : Int) := by omega
      have q1 : k + 2 * t + 2 ≤ 1099511627776 := by omega
      generalize k + 2 * t = kt at *
      generalize mt kt = y at *
      have e1 : ((kt : Int) + 1 != (kt : Int) + 1) = false := by simp
      clear hb
      go_wp2_with fail
      go_region_with ((go_at_call 78; refine (HM.out _).mono ?_; rintro e w' ⟨rfl, hb⟩; have hcc : w'.cell? ⟨b, o + t * 2, none⟩ = some (.string y) := (hb.cell (p := ⟨b, o + t * 2, none⟩) hB2).trans hc0; have hcd : w'.cell? ⟨b, o + t * 2 + 1, none⟩ = some (.int .i64 ((kt : Int) + 1)) := (hb.cell (p := ⟨b, o + t * 2 + 1, none⟩) hB2).trans hc1))
      all_goals
        have HBB := Lib.hid (HB.out.trans ((((Below.refl wr.heap.size wr).drew.trans (show Below wr.heap.size wr.drew _ from hb))).mono hbs))
        clear hb hc0 hc1
        go_wp2_with fail
        refine ⟨⟨t + 1, by omega, by go_num, ?_, HBB.out⟩, by simp [intOf]; omega⟩
        rw [HQ2.out]
    · obtain rfl : n = t := by omega
      go_wp2_with fail
      go_ret
      exact ⟨rfl, hb⟩
end Go.Proofs.YtfkdfabbpebljaaGreat.DOk
