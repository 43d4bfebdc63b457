/- Texts that lay in modules of their own: DoBridge, DoImpl, DoAt. -/
import Derived.Test.YtfkdfabbpebljaaGreatOpOk
import Derived.Test.YtfkdfabbpebljaaGreatKitH
import Derived.Test.YtfkdfabbpebljaaGreatKitE
import Derived.Test.YtfkdfabbpebljaaGreatKitF
import Derived.Test.YtfkdfabbpebljaaGreatKitC
import Derived.Test.YtfkdfabbpebljaaGreatCopyDisk
import Derived.Deep.RegionWith
import Derived.Deep.Cut
import Derived.IntWalk
import Derived.StillTailTactics
namespace Go.Proofs.YtfkdfabbpebljaaGreat.DOk
open Go.RowKit Go.Proofs.YtfkdfabbpebljaaGreat.Bytes Go.Proofs.YtfkdfabbpebljaaGreat.Rows_ Go.Proofs.YtfkdfabbpebljaaGreat.Made Go.Maps
set_option linter.unusedVariables false
def opQ (k : Int) (name to_ : ByteArray) (n : Nat) : Bool := OpOk.opB k (madeB nb 16 name.data.toList) (madeB nb 16 to_.data.toList) name.toList.isEmpty to_.toList.isEmpty n
theorem opQ_rng {k : Int} {name to_ : ByteArray} {n : Nat} (h : opQ k name to_ n = true) : (1 ≤ k ∧ k ≤ 6) ∧ n ≤ 400000 := by
  unfold opQ OpOk.opB at h
  simp only [Bool.and_eq_true, decide_eq_true_eq] at h
  exact ⟨⟨h.1.1.1.1.1, h.1.1.1.1.2⟩, h.1.2⟩
theorem has_find {room fuse next : Int} {fs : List FileD} {ks : List LinkD} {ts : List TurnD} (h : OkS room fuse next fs ks ts) (name : ByteArray) :
    has (dirM ks ts) (kS name) = decide (0 < findD (dirAt ks ts) name.toList) := by
  have hS := (okS_parts h).1
  rw [Bool.eq_iff_iff, hS.2.1, decide_eq_true_eq]
  exact (find_pos _ _ hS.2.2).symm
theorem code_in {fuse next : Int} {nf nt : Nat} {k : Int} {ex same : Bool} (h : codeD fuse next nf nt k ex same = 0) (hk : k = 2 ∨ k = 3) : ex = true := by
  unfold codeD at h
  cases ex
  · exfalso
    rcases hk with rfl | rfl <;> (split at h <;> simp_all)
  · rfl
theorem file_in {room fuse next : Int} {fs gs : List FileD} {ks : List LinkD} {ts : List TurnD} (h : OkS room fuse next fs ks ts) (hg : gs.map keyF = fs.map keyF) (name : ByteArray) (hx : decide (0 < findD (dirAt ks ts) name.toList) = true) :
    (dirM ks ts).atKey (kS name) (vI 0) = vI (findD (dirAt ks ts) name.toList) ∧ ∃ (i : Nat) (hi : i < gs.length), gs[i].id = findD (dirAt ks ts) name.toList ∧ ∀ j (hj : j < gs.length), j < i → gs[j].id ≠ findD (dirAt ks ts) name.toList := by
  have hp := okS_parts h
  have hin : InN (dirAt ks ts) name.toList := (find_pos _ _ hp.1.2.2).1 (of_decide_eq_true hx)
  refine ⟨Val.find hp.2.1 (s := name) hin, ?_⟩
  obtain ⟨i, hi, e1, e2⟩ := file_of h hin
  obtain ⟨hl, hs⟩ := same_of_keys hg
  exact ⟨i, by omega, (hs i hi (by omega)).1.trans e1, fun j hj hji => by rw [(hs j (by omega) hj).1]; exact e2 j (by omega) hji⟩
/-- four cells of a block -/
def Box4 (w : World) (b : Nat) (x0 x1 x2 x3 : Value) : Prop := w.cell? ⟨b, 0, none⟩ = some x0 ∧ w.cell? ⟨b, 1, none⟩ = some x1 ∧ w.cell? ⟨b, 2, none⟩ = some x2 ∧ w.cell? ⟨b, 3, none⟩ = some x3
theorem Box4.below {w w' : World} {B b : Nat} {x0 x1 x2 x3 : Value} (h : Box4 w b x0 x1 x2 x3) (hb : Below B w w') (hlt : b < B) : Box4 w' b x0 x1 x2 x3 :=
  ⟨(hb.cell (p := ⟨b, 0, none⟩) hlt).trans h.1, (hb.cell (p := ⟨b, 1, none⟩) hlt).trans h.2.1, (hb.cell (p := ⟨b, 2, none⟩) hlt).trans h.2.2.1, (hb.cell (p := ⟨b, 3, none⟩) hlt).trans h.2.2.2⟩
theorem Box4.new (w : World) (x0 x1 x2 x3 : Value) (t : TypeId) : Box4 (w.alloc (.cells #[x0, x1, x2, x3] t)) w.heap.size x0 x1 x2 x3 := by
  refine ⟨?_, ?_, ?_, ?_⟩ <;> (rw [World.cell?_alloc_at _ _ _ _ rfl]; rfl)
end Go.Proofs.YtfkdfabbpebljaaGreat.DOk
namespace Go.Proofs.YtfkdfabbpebljaaGreat.DOk
open Go.RowKit Go.Proofs.YtfkdfabbpebljaaGreat.Bytes Go.Proofs.YtfkdfabbpebljaaGreat.Rows_ Go.Maps
set_option linter.unusedVariables false

set_option maxRecDepth 100000 in
set_option maxHeartbeats 12000000 in
theorem impl_DiskDo_any (room fuse next : Int) (F : Option Addr) (nf cf : Nat) (K : Option Addr) (nk ck : Nat) (T : Option Addr) (nt ct : Nat) (fs : List FileD) (ks : List LinkD) (ts : List TurnD) (k : Int) (name to_ : ByteArray) (A : Option Addr) (n c : Nat) (ys : List Int) (w : World)
    (hf : RdF w w.heap.size F fs) (hfl : fs.length = nf) (hfn : nf ≤ 2000000) (hFA : F = none → nf = 0 ∧ cf = 0) (hrb : RdB w w.heap.size fs) (hba_ : ∀ f ∈ fs, f.A = none → f.n = 0 ∧ f.c = 0) (hfid : ∀ x ∈ fs, (Lit.int .i64 x.id).wf = true) (hu : usedD fs ≤ 1099511627776)
    (hk : RdL w w.heap.size K ks) (hkl : ks.length = nk) (hkn : nk ≤ 2000000) (hKA : K = none → nk = 0 ∧ ck = 0) (hks : ∀ x ∈ ks, x.1.size ≤ maxLen ∧ (Lit.int .i64 x.2).wf = true) (ht : RdT w w.heap.size T ts) (htl : ts.length = nt) (htn : nt ≤ 2000000) (hTA : T = none → nt = 0 ∧ ct = 0) (hts : ∀ x ∈ ts, x.name.size ≤ maxLen ∧ x.to_.size ≤ maxLen ∧ (Lit.int .i64 x.id).wf = true)
    (h1 : name.size ≤ maxLen) (h2 : to_.size ≤ maxLen) (hr : Rd w w.heap.size A ys) (hl : ys.length = n) (hA : A = none → n = 0 ∧ c = 0) (hnc : n ≤ c) (hn : n ≤ 1048576) :
    Calls Tryz.prog 9 #[.agg #[.int .i64 room, .int .i64 fuse, .int .i64 next, .slice F nf cf, .slice K nk ck, .slice T nt ct], .agg #[.int .i64 k, .string name, .string to_, .slice A n c]] w (AnsDisk (DoD (OkS room fuse next fs ks ts ∧ opQ k name to_ n = true) room fuse next fs ks ts k name to_ ys n) w) := by
  obtain ⟨W1, hW1⟩ : ∃ W, W = w.alloc (.cells #[.int .i64 room, .int .i64 fuse, .int .i64 next, .slice F nf cf, .slice K nk ck, .slice T nt ct] 36) := ⟨_, rfl⟩
  obtain ⟨W2, hW2⟩ : ∃ W, W = W1.alloc (.cells #[.int .i64 k, .string name, .string to_, .slice A n c] 40) := ⟨_, rfl⟩
  obtain ⟨W3, hW3⟩ : ∃ W, W = W2.alloc (.cells #[.int .i64 0, .int .i64 0, .int .i64 0, .slice none 0 0, .slice none 0 0, .slice none 0 0] 36) := ⟨_, rfl⟩
  have z1 : W1.heap.size = w.heap.size + 1 := by rw [hW1]; simp
  have z2 : W2.heap.size = w.heap.size + 2 := by rw [hW2]; simp; omega
  have z3 : W3.heap.size = w.heap.size + 3 := by rw [hW3]; simp; omega
  have b1 : Below w.heap.size w W1 := by rw [hW1]; exact (Below.refl _ _).alloc (Nat.le_refl _) _
  have b2 : Below W1.heap.size W1 W2 := by rw [hW2]; exact (Below.refl _ _).alloc (Nat.le_refl _) _
  have b3 : Below W2.heap.size W2 W3 := by rw [hW3]; exact (Below.refl _ _).alloc (Nat.le_refl _) _
  have HB0 := Lib.hid ((b1.trans (b2.mono (by omega))).trans (b3.mono (by omega)) : Below w.heap.size w W3)
  have HX0 := Lib.hid (show BoxW W3 w.heap.size #[.int .i64 room, .int .i64 fuse, .int .i64 next, .slice F nf cf, .slice K nk ck, .slice T nt ct] from
    (BoxW.below (by rw [hW1]; exact BoxW.new w _) b2 (by omega)).below b3 (by omega))
  have HP0 := Lib.hid (show Box4 W3 (w.heap.size + 1) (.int .i64 k) (.string name) (.string to_) (.slice A n c) from by
    rw [← z1]; exact Box4.below (by rw [hW2]; exact Box4.new W1 _ _ _ _ _) b3 (by omega))
  have HY0 := Lib.hid (show BoxW W3 (w.heap.size + 1 + 1) #[.int .i64 0, .int .i64 0, .int .i64 0, .slice none 0 0, .slice none 0 0, .slice none 0 0] from by
    show BoxW W3 (w.heap.size + 2) _
    rw [← z2, hW3]; exact BoxW.new W2 _)
  have HW1 := Lib.hid hW1.symm
  have HW2 := Lib.hid hW2.symm
  have HW3 := Lib.hid hW3.symm
  have HCopy := Lib.hid (fun W (h : Below w.heap.size w W) => copyDisk_any room fuse next F nf cf K nk ck T nt ct fs ks ts W ((hf.below (Nat.le_refl _) h).more h.size) hfl (by omega) hFA ((hrb.below (Nat.le_refl _) h).more h.size) hba_ (fun f hf => Nat.le_trans (n_used hf) hu) ((hk.below (Nat.le_refl _) h).more h.size) hkl (by omega) hKA ((ht.below (Nat.le_refl _) h).more h.size) htl (by omega) hTA)
  have HOk := Lib.hid (fun W (h : Below w.heap.size w W) => implOk_any room fuse next F nf cf K nk ck T nt ct fs ks ts W ((hf.below (Nat.le_refl _) h).more h.size) hfl hfn hfid hu ((hk.below (Nat.le_refl _) h).more h.size) hkl hkn hks ((ht.below (Nat.le_refl _) h).more h.size) htl htn hts)
  have HDir := Lib.hid (fun W (h : Below w.heap.size w W) => directoryOf_any K nk ck T nt ct ks ts W ((hk.below (Nat.le_refl _) h).more h.size) hkl (by omega) hks ((ht.below (Nat.le_refl _) h).more h.size) htl (by omega) hts)
  have HOp := Lib.hid (fun W => show Calls Tryz.prog 33 #[.agg #[.int .i64 k, .string name, .string to_, .slice A n c]] W fun e w' => e = .returned (.bool (opQ k name to_ n)) ∧ Below W.heap.size W w' from OpOk.impl_any k name to_ A n c W (by omega) h1 h2)
  have HRef := Lib.hid (fun (hk6 : 1 ≤ k ∧ k ≤ 6) (b : Nat) W (h : OwnM W b (nk + nt) (dirM ks ts)) => refusal_any room fuse next F nf cf K nk ck T nt ct k hk6 name to_ A n c b (nk + nt) (dirM ks ts) W h h1 hfn htn)
  have HEx := Lib.hid (fun (hk6 : 1 ≤ k ∧ k ≤ 6) (hP : OkS room fuse next fs ks ts) (f' : Int) (b mb : Nat) (F1 : Option Addr) (cf1 : Nat) (K1 : Option Addr) (ck1 : Nat) (T1 : Option Addr) (ct1 : Nat) (gs : List FileD) W (hb : Below w.heap.size w W)
      (hx : BoxW W b #[.int .i64 room, .int .i64 f', .int .i64 next, .slice F1 nf cf1, .slice K1 nk ck1, .slice T1 nt ct1]) (ho : OwnD W (w.heap.size + 3) F1 nf cf1 gs K1 nk ck1 ks T1 nt ct1 ts) (hbb : w.heap.size + 3 ≤ b) (hm : OwnM W mb (nk + nt) (dirM ks ts)) (hg : gs.map keyF = fs.map keyF)
      (hz : k = 2 ∨ k = 3 → decide (0 < findD (dirAt ks ts) name.toList) = true) =>
    exec_any k hk6 b (w.heap.size + 3) (w.heap.size + 3) room f' next F1 nf cf1 K1 nk ck1 T1 nt ct1 gs ks ts W hx ho hbb (Nat.le_refl _) (by have := hx.lt; omega) (by have := hP.2.1; omega) (by have := hP.2.2.2.1; omega) (by have := hP.1; unfold NumI at this; omega) mb (nk + nt) (dirM ks ts) (dirAt ks ts) (findD (dirAt ks ts) name.toList) hm
      (okS_parts hP).1 (okS_parts hP).2.1 (okS_ris hP) (fun x hx => by obtain ⟨f, hf', e⟩ := List.mem_map.1 ((okS_parts hP).2.2.1 x hx); rw [← e]; exact hfid f hf') (by have := World.ownsMap.size_le hm; have ha := hP.2.2.1; have hb' := hP.2.2.2.1; rw [hkl] at ha; rw [htl] at hb'; omega)
      (keys_mem hg (P := fun f => (Lit.int .i64 f.id).wf = true) (fun f g e h => by show (Lit.int .i64 g.id).wf = true; rw [key_id e]; exact h) hfid) name to_ h1 A n c ys ((hr.below (Nat.le_refl _) hb).more hb.size) hl hA hnc hn
      (by rw [keys_used hg]; exact hP.2.2.2.2.1) (by have := hP.1; unfold NumI at this; omega) (fun f hf' => by have h1 := n_used hf'; rw [keys_used hg] at h1; exact Nat.le_trans h1 hu) (fun h => file_in hP hg name (hz h)))
  have HFL := Lib.hid hfl
  have HTL := Lib.hid htl
  clear hf hfl hrb hba_ hfid hu hk hkl hks ht htl hts hr hl hA hFA hKA hTA hW1 hW2 hW3 b1 b2 b3 hnc
  go_enter Tryz.func9, Tryz.ntmps9
  go_upto_region 1 with fail
  rw [HW1.out, HW2.out, HW3.out]
  have x0 := HX0.out.cell 0
  have x1 := HX0.out.cell 1
  have x2 := HX0.out.cell 2
  have x3 := HX0.out.cell 3
  have x4 := HX0.out.cell 4
  have x5 := HX0.out.cell 5
  go_wp2_with fail
  clear x0 x1 x2 x3 x4 x5
  refine (HOk.out _ HB0.out).mono ?_
  rintro e v3 ⟨b1, rfl, hv1, hb3⟩
  replace hv1 := hv1.trans (ok_iff room fuse next fs ks ts).symm
  have HY3 := Lib.hid (HY0.out.below hb3 (by omega))
  have HX3 := Lib.hid (HX0.out.below hb3 (by omega))
  have HP3 := Lib.hid (HP0.out.below hb3 (by omega))
  have HB3 := Lib.hid (HB0.out.trans (hb3.mono (by omega)))
  have hz3 : w.heap.size + 2 < v3.heap.size := HY3.out.lt
  clear hb3
  cases b1
  · have HP := Lib.hid (show ¬ (OkS room fuse next fs ks ts ∧ opQ k name to_ n = true) from fun h => by have := hv1.2 h.1; simp at this)
    have HB := HB3
    clear hv1
    have y0 := HY3.out.cell 0
    have f0 := HY3.out.free 0
    have y1 := HY3.out.cell 1
    have f1 := HY3.out.free 1
    have y2 := HY3.out.cell 2
    have f2 := HY3.out.free 2
    have y3 := HY3.out.cell 3
    have f3 := HY3.out.free 3
    have y4 := HY3.out.cell 4
    have f4 := HY3.out.free 4
    have y5 := HY3.out.cell 5
    have f5 := HY3.out.free 5
    go_wp2_with fail
    refine bodyPost_ret (v := .tuple #[.agg #[.int .i64 0, .int .i64 0, .int .i64 0, .slice none 0 0, .slice none 0 0, .slice none 0 0], .int .i64 1]) (by simp [results, Tryz.results9, go_sem, y0, y1, y2, y3, y4, y5]) rfl ⟨0, 0, 0, none, 0, 0, [], none, 0, 0, [], none, 0, 0, [], _, rfl, ownD_nil _ _, .inr (.inr ⟨HP.out, rfl, rfl, rfl, rfl, rfl, rfl, rfl⟩), ?_⟩
    exact below_set6 HB.out (by omega) _ _ _ _ _ _
  · have hq := hv1.1 rfl
    have HQ := Lib.hid hq
    have p0 := HP3.out.1
    have p1 := HP3.out.2.1
    have p2 := HP3.out.2.2.1
    have p3 := HP3.out.2.2.2
    clear hv1 hq
    go_wp2_with fail
    refine (HOp.out _).mono ?_
    rintro e v4 ⟨rfl, hb4⟩
    have HY4 := Lib.hid (HY3.out.below hb4 (by omega))
    have HX4 := Lib.hid (HX3.out.below hb4 (by omega))
    have HP4 := Lib.hid (HP3.out.below hb4 (by omega))
    have HB4 := Lib.hid (HB3.out.trans (hb4.mono (by omega)))
    have hz4 : w.heap.size + 2 < v4.heap.size := HY4.out.lt
    clear hb4 p0 p1 p2 p3
    obtain ⟨ob, hob⟩ : ∃ b, b = opQ k name to_ n := ⟨_, rfl⟩
    have HOB := Lib.hid hob
    rw [← hob]
    clear hob
    cases ob
    · have HP := Lib.hid (show ¬ (OkS room fuse next fs ks ts ∧ opQ k name to_ n = true) from fun h => by have := HOB.out.trans h.2; simp at this)
      have HB := HB4
      have y0 := HY4.out.cell 0
      have f0 := HY4.out.free 0
      have y1 := HY4.out.cell 1
      have f1 := HY4.out.free 1
      have y2 := HY4.out.cell 2
      have f2 := HY4.out.free 2
      have y3 := HY4.out.cell 3
      have f3 := HY4.out.free 3
      have y4 := HY4.out.cell 4
      have f4 := HY4.out.free 4
      have y5 := HY4.out.cell 5
      have f5 := HY4.out.free 5
      go_wp2_with fail
      refine bodyPost_ret (v := .tuple #[.agg #[.int .i64 0, .int .i64 0, .int .i64 0, .slice none 0 0, .slice none 0 0, .slice none 0 0], .int .i64 1]) (by simp [results, Tryz.results9, go_sem, y0, y1, y2, y3, y4, y5]) rfl ⟨0, 0, 0, none, 0, 0, [], none, 0, 0, [], none, 0, 0, [], _, rfl, ownD_nil _ _, .inr (.inr ⟨HP.out, rfl, rfl, rfl, rfl, rfl, rfl, rfl⟩), ?_⟩
      exact below_set6 HB.out (by omega) _ _ _ _ _ _
    · have HP := Lib.hid (show OkS room fuse next fs ks ts ∧ opQ k name to_ n = true from ⟨HQ.out, HOB.out.symm⟩)
      have hk6 := (opQ_rng HP.out.2).1
      have x0 := HX4.out.cell 0
      have x1 := HX4.out.cell 1
      have x2 := HX4.out.cell 2
      have x3 := HX4.out.cell 3
      have x4 := HX4.out.cell 4
      have x5 := HX4.out.cell 5
      go_wp2_with fail
      refine (HCopy.out _ HB4.out).mono ?_
      rintro e v5 ⟨F1, cf1, K1, ck1, T1, ct1, gs, rfl, ho1, hg1, hb5⟩
      have HG1 := Lib.hid hg1
      have hz5 : v4.heap.size ≤ v5.heap.size := hb5.size
      obtain ⟨V, hV⟩ : ∃ V, V = v5.alloc (.cells #[.int .i64 room, .int .i64 fuse, .int .i64 next, .slice F1 nf cf1, .slice K1 nk ck1, .slice T1 nt ct1] 36) := ⟨_, rfl⟩
      have hbV : Below v5.heap.size v5 V := by rw [hV]; exact (Below.refl _ _).alloc (Nat.le_refl _) _
      have HO6 := Lib.hid ((ho1.more (base' := w.heap.size + 3) (by omega)).below (Nat.le_refl _) hbV)
      have HY6 := Lib.hid ((HY4.out.below hb5 (by omega)).below hbV (by omega))
      have HX6 := Lib.hid ((HX4.out.below hb5 (by omega)).below hbV (by omega))
      have HP6 := Lib.hid ((HP4.out.below hb5 (by omega)).below hbV (by omega))
      have HB6 := Lib.hid ((HB4.out.trans (hb5.mono (by omega))).trans (hbV.mono (by omega)))
      have HN6 := Lib.hid (show BoxW V v5.heap.size #[.int .i64 room, .int .i64 fuse, .int .i64 next, .slice F1 nf cf1, .slice K1 nk ck1, .slice T1 nt ct1] by rw [hV]; exact BoxW.new v5 _)
      have hzV : v5.heap.size < V.heap.size := HN6.out.lt
      have HL6 := Lib.hid (show ∀ i, SD F1 nf cf1 gs K1 nk ck1 T1 nt ct1 i → i ≠ v5.heap.size from fun i hi => by have := (ho1.lt i hi).2; omega)
      have HV := Lib.hid hV.symm
      clear hg1 ho1 hb5 hbV hV x0 x1 x2 x3 x4 x5
      go_upto_region 4 with fail
      rw [HV.out]
      have x0 := HX6.out.cell 0
      have x1 := HX6.out.cell 1
      have x2 := HX6.out.cell 2
      have x3 := HX6.out.cell 3
      have x4 := HX6.out.cell 4
      have x5 := HX6.out.cell 5
      go_wp2_with fail
      refine (HDir.out _ HB6.out).mono ?_
      rintro e v7 ⟨rfl, hm7, hb7⟩
      have HM7 := Lib.hid hm7
      have HY7 := Lib.hid (HY6.out.below hb7 (by omega))
      have HX7 := Lib.hid (HX6.out.below hb7 (by omega))
      have HP7 := Lib.hid (HP6.out.below hb7 (by omega))
      have HN7 := Lib.hid (HN6.out.below hb7 (by omega))
      have HO7 := Lib.hid (HO6.out.below (Nat.le_refl _) hb7)
      have HB7 := Lib.hid (HB6.out.trans (hb7.mono (by omega)))
      have hz7 : V.heap.size < v7.heap.size := hm7.lt
      clear hm7 hb7 x0 x1 x2 x3 x4 x5
      have x0 := HX7.out.cell 0
      have x1 := HX7.out.cell 1
      have x2 := HX7.out.cell 2
      have x3 := HX7.out.cell 3
      have x4 := HX7.out.cell 4
      have x5 := HX7.out.cell 5
      have p0 := HP7.out.1
      have p1 := HP7.out.2.1
      have p2 := HP7.out.2.2.1
      have p3 := HP7.out.2.2.2
      go_wp2_with fail
      refine (HRef.out hk6 _ _ HM7.out).mono ?_
      rintro e v8 ⟨rfl, hb8⟩
      have HM8 := Lib.hid (HM7.out.below hb8 (Nat.le_refl _))
      have HY8 := Lib.hid (HY7.out.below hb8 (by omega))
      have HP8 := Lib.hid (HP7.out.below hb8 (by omega))
      have HN8 := Lib.hid (HN7.out.below hb8 (by omega))
      have HO8 := Lib.hid (HO7.out.below (Nat.le_refl _) hb8)
      have HB8 := Lib.hid (HB7.out.trans (hb8.mono (by omega)))
      have hz8 : v7.heap.size ≤ v8.heap.size := hb8.size
      clear hb8 x0 x1 x2 x3 x4 x5 p0 p1 p2 p3
      obtain ⟨cd, hcd⟩ : ∃ z, z = codeD fuse next nf nt k (has (dirM ks ts) (kS name)) (to_.toList == name.toList) := ⟨_, rfl⟩
      rw [← hcd]
      rw [has_find HQ.out name] at hcd
      have HCD := Lib.hid (show codeD fuse next fs.length ts.length k (decide (0 < findD (dirAt ks ts) name.toList)) (to_.toList == name.toList) = cd from by rw [HFL.out, HTL.out]; exact hcd.symm)
      clear hcd
      by_cases hc0 : cd = 0
      · subst hc0
        generalize hmm : V.heap.size = m8 at *
        have hm8 : v5.heap.size < m8 := by omega
        have hz9 : w.heap.size + 2 < v5.heap.size := by omega
        by_cases hf0 : 0 < fuse
        · have hs1 : IntKind.i64.wrap (fuse - 1) = fuse - 1 := IntWalk.i64_in _ (by have := HQ.out.1; unfold NumI at this; omega)
          have hfd : decide (fuse > 0) = true := decide_eq_true hf0
          have hm : m8 ≠ v5.heap.size := by omega
          have HNW := Lib.hid (HN8.out.set1 (.int .i64 (fuse - 1)))
          have HOW := Lib.hid (HO8.out.set (j := 1) (v := .int .i64 (fuse - 1)) HL6.out)
          have HMW := Lib.hid (show OwnM (v8.setCell ⟨v5.heap.size, 1, none⟩ (.int .i64 (fuse - 1))) m8 (nk + nt) (dirM ks ts) from World.ownsMap.kept HM8.out (Go.Lib.grownBy_setCell _ _ _ _) (fun e => by injection e with e; exact hm e))
          have HYW := Lib.hid (BoxW.other (b' := v5.heap.size) (j := 1) (v := .int .i64 (fuse - 1)) HY8.out (by omega))
          have HBW := Lib.hid (HB8.out.setCell (p := ⟨v5.heap.size, 1, none⟩) (by show w.heap.size ≤ v5.heap.size; omega) (.int .i64 (fuse - 1)))
          have hzW : (v8.setCell ⟨v5.heap.size, 1, none⟩ (.int .i64 (fuse - 1))).heap.size = v8.heap.size := by simp
          have HZ := Lib.hid (fun (h : k = 2 ∨ k = 3) => code_in HCD.out h)
          have HE := Lib.hid (HEx.out hk6 HQ.out (fuse - 1) v5.heap.size m8 F1 cf1 K1 ck1 T1 ct1 gs (v8.setCell ⟨v5.heap.size, 1, none⟩ (.int .i64 (fuse - 1))) HBW.out HNW.out HOW.out (by omega) HMW.out HG1.out HZ.out)
          have x0 := HN8.out.cell 0
          have x1 := HN8.out.cell 1
          have x2 := HN8.out.cell 2
          have x3 := HN8.out.cell 3
          have x4 := HN8.out.cell 4
          have x5 := HN8.out.cell 5
          have g1 := HN8.out.free 1
          have p0 := HP8.out.1
          have p1 := HP8.out.2.1
          have p2 := HP8.out.2.2.1
          have p3 := HP8.out.2.2.2
          have hne1 : w.heap.size + 1 ≠ v5.heap.size := by omega
          go_wp2_with fail
          refine HE.out.mono ?_
          rintro e v9 ⟨rfl, hb9, F2, nf2, cf2, gs2, K2, nk2, ck2, T2, nt2, ct2, hk9, hn9, ho9⟩
          have HK9 := Lib.hid (hk9.trans (doneF_keys k room next _ _ ys n HG1.out))
          have HN9 := Lib.hid hn9
          have HO9 := Lib.hid ho9
          have HY9 := Lib.hid (HYW.out.below hb9 (by omega))
          have HB9 := Lib.hid (HBW.out.trans (hb9.mono (by omega)))
          clear hk9 hn9 ho9 hb9 x0 x1 x2 x3 x4 x5 p0 p1 p2 p3 HE HZ
          rw [keys_used HG1.out]
          generalize hdc : doneC k room (usedD fs) n = dc at *
          generalize hdx : doneX k next = dx at *
          have HDC := Lib.hid hdc
          have HDX := Lib.hid hdx
          clear hdc hdx
          have x0 := HN9.out.cell 0
          have x1 := HN9.out.cell 1
          have x2 := HN9.out.cell 2
          have x3 := HN9.out.cell 3
          have x4 := HN9.out.cell 4
          have x5 := HN9.out.cell 5
          have y0 := HY9.out.cell 0
          have f0 := HY9.out.free 0
          have y1 := HY9.out.cell 1
          have f1 := HY9.out.free 1
          have y2 := HY9.out.cell 2
          have f2 := HY9.out.free 2
          have y3 := HY9.out.cell 3
          have f3 := HY9.out.free 3
          have y4 := HY9.out.cell 4
          have f4 := HY9.out.free 4
          have y5 := HY9.out.cell 5
          have f5 := HY9.out.free 5
          go_wp2_with fail
          refine bodyPost_ret (v := .tuple #[.agg #[.int .i64 room, .int .i64 (fuse - 1), .int .i64 dx, .slice F2 nf2 cf2, .slice K2 nk2 ck2, .slice T2 nt2 ct2], .int .i64 dc]) (by simp [results, Tryz.results9, go_sem, y0, y1, y2, y3, y4, y5]) rfl ⟨room, (fuse - 1), dx, F2, nf2, cf2, gs2, K2, nk2, ck2, _, T2, nt2, ct2, _, _, rfl, ?_, .inr (.inl ⟨HP.out, HCD.out, by rw [HDC.out], rfl, (if_pos hf0).symm, HDX.out.symm, HK9.out, rfl, rfl⟩), ?_⟩
          · exact OwnD.more (OwnD.set6 HO9.out (fun i hi => by have := (HO9.out.lt i hi).1; omega) _ _ _ _ _ _) (by omega)
          · exact below_set6 HB9.out (by omega) _ _ _ _ _ _
        · have hfd : decide (fuse > 0) = false := decide_eq_false (by omega)
          have HNW := HN8
          have HOW := HO8
          have HMW := HM8
          have HYW := HY8
          have HBW := HB8
          have HZ := Lib.hid (fun (h : k = 2 ∨ k = 3) => code_in HCD.out h)
          have HE := Lib.hid (HEx.out hk6 HQ.out fuse v5.heap.size m8 F1 cf1 K1 ck1 T1 ct1 gs v8 HBW.out HNW.out HOW.out (by omega) HMW.out HG1.out HZ.out)
          have x0 := HN8.out.cell 0
          have x1 := HN8.out.cell 1
          have x2 := HN8.out.cell 2
          have x3 := HN8.out.cell 3
          have x4 := HN8.out.cell 4
          have x5 := HN8.out.cell 5
          have p0 := HP8.out.1
          have p1 := HP8.out.2.1
          have p2 := HP8.out.2.2.1
          have p3 := HP8.out.2.2.2
          go_wp2_with fail
          refine HE.out.mono ?_
          rintro e v9 ⟨rfl, hb9, F2, nf2, cf2, gs2, K2, nk2, ck2, T2, nt2, ct2, hk9, hn9, ho9⟩
          have HK9 := Lib.hid (hk9.trans (doneF_keys k room next _ _ ys n HG1.out))
          have HN9 := Lib.hid hn9
          have HO9 := Lib.hid ho9
          have HY9 := Lib.hid (HYW.out.below hb9 (by omega))
          have HB9 := Lib.hid (HBW.out.trans (hb9.mono (by omega)))
          clear hk9 hn9 ho9 hb9 x0 x1 x2 x3 x4 x5 p0 p1 p2 p3 HE HZ
          rw [keys_used HG1.out]
          generalize hdc : doneC k room (usedD fs) n = dc at *
          generalize hdx : doneX k next = dx at *
          have HDC := Lib.hid hdc
          have HDX := Lib.hid hdx
          clear hdc hdx
          have x0 := HN9.out.cell 0
          have x1 := HN9.out.cell 1
          have x2 := HN9.out.cell 2
          have x3 := HN9.out.cell 3
          have x4 := HN9.out.cell 4
          have x5 := HN9.out.cell 5
          have y0 := HY9.out.cell 0
          have f0 := HY9.out.free 0
          have y1 := HY9.out.cell 1
          have f1 := HY9.out.free 1
          have y2 := HY9.out.cell 2
          have f2 := HY9.out.free 2
          have y3 := HY9.out.cell 3
          have f3 := HY9.out.free 3
          have y4 := HY9.out.cell 4
          have f4 := HY9.out.free 4
          have y5 := HY9.out.cell 5
          have f5 := HY9.out.free 5
          go_wp2_with fail
          refine bodyPost_ret (v := .tuple #[.agg #[.int .i64 room, .int .i64 fuse, .int .i64 dx, .slice F2 nf2 cf2, .slice K2 nk2 ck2, .slice T2 nt2 ct2], .int .i64 dc]) (by simp [results, Tryz.results9, go_sem, y0, y1, y2, y3, y4, y5]) rfl ⟨room, fuse, dx, F2, nf2, cf2, gs2, K2, nk2, ck2, _, T2, nt2, ct2, _, _, rfl, ?_, .inr (.inl ⟨HP.out, HCD.out, by rw [HDC.out], rfl, (if_neg (Int.not_lt.2 hf0)).symm, HDX.out.symm, HK9.out, rfl, rfl⟩), ?_⟩
          · exact OwnD.more (OwnD.set6 HO9.out (fun i hi => by have := (HO9.out.lt i hi).1; omega) _ _ _ _ _ _) (by omega)
          · exact below_set6 HB9.out (by omega) _ _ _ _ _ _
      · have hcb : (cd != 0) = true := by simp [hc0]
        have x0 := HN8.out.cell 0
        have x1 := HN8.out.cell 1
        have x2 := HN8.out.cell 2
        have x3 := HN8.out.cell 3
        have x4 := HN8.out.cell 4
        have x5 := HN8.out.cell 5
        have y0 := HY8.out.cell 0
        have f0 := HY8.out.free 0
        have y1 := HY8.out.cell 1
        have f1 := HY8.out.free 1
        have y2 := HY8.out.cell 2
        have f2 := HY8.out.free 2
        have y3 := HY8.out.cell 3
        have f3 := HY8.out.free 3
        have y4 := HY8.out.cell 4
        have f4 := HY8.out.free 4
        have y5 := HY8.out.cell 5
        have f5 := HY8.out.free 5
        go_wp2_with fail
        refine bodyPost_ret (v := .tuple #[.agg #[.int .i64 room, .int .i64 fuse, .int .i64 next, .slice F1 nf cf1, .slice K1 nk ck1, .slice T1 nt ct1], .int .i64 cd]) (by simp [results, Tryz.results9, go_sem, y0, y1, y2, y3, y4, y5]) rfl ⟨room, fuse, next, F1, nf, cf1, gs, K1, nk, ck1, ks, T1, nt, ct1, ts, _, rfl, ?_, .inl ⟨HP.out, by rw [HCD.out]; exact hc0, by rw [HCD.out], rfl, rfl, rfl, HG1.out, rfl, rfl⟩, ?_⟩
        · exact OwnD.more (OwnD.set6 HO8.out (fun i hi => by have := (HO8.out.lt i hi).1; omega) _ _ _ _ _ _) (by omega)
        · exact below_set6 HB8.out (by omega) _ _ _ _ _ _
end Go.Proofs.YtfkdfabbpebljaaGreat.DOk
namespace Go.Proofs.YtfkdfabbpebljaaGreat.DOk
open Go.RowKit Go.Proofs.YtfkdfabbpebljaaGreat.Bytes Go.Proofs.YtfkdfabbpebljaaGreat.Rows_ Go.Maps
set_option linter.unusedVariables false
set_option maxRecDepth 100000 in
set_option maxHeartbeats 1600000 in
theorem l02At_some (room fuse next : Int) (F : Option Addr) (nf cf : Nat) (K : Option Addr) (nk ck : Nat) (T : Option Addr) (nt ct : Nat) (fs : List FileD) (id : Int) (w : World)
    (hf : RdF w w.heap.size F fs) (hfl : fs.length = nf) (hfn : nf ≤ 2000) :
    Calls Tryz.prog 23 #[.agg #[.int .i64 room, .int .i64 fuse, .int .i64 next, .slice F nf cf, .slice K nk ck, .slice T nt ct], .int .i64 id] w fun e w' => (∃ z : Int, e = .returned (.int .i64 z)) ∧ Below w.heap.size w w' := by
  have HB0 := Lib.hid ((Below.refl w.heap.size w).alloc (Nat.le_refl _) (.cells #[.int .i64 room, .int .i64 fuse, .int .i64 next, .slice F nf cf, .slice K nk ck, .slice T nt ct] 36))
  have HF := Lib.hid hf
  have HFL := Lib.hid hfl
  clear hf hfl
  go_enter Tryz.func23, Tryz.ntmps23
  go_wp2_with fail
  go_loopw [10] (fun i wr => ∃ k : Nat, k ≤ nf ∧ i = .int .i64 (k : Nat) ∧ Below w.heap.size w wr) (fun i _ => nf - (intOf i).toNat)
  case atStart => exact ⟨0, Nat.zero_le _, rfl, HB0.out⟩
  case round =>
    obtain ⟨k, hk, rfl, hb⟩ := hrel
    by_cases hlt : k < nf
    · have hlt' : k < fs.length := by have := HFL.out; omega
      obtain ⟨b, o, rfl, hB, hc0, hc1, hc2⟩ := (HF.out.below (Nat.le_refl _) hb).at_ hlt'
      have HB := Lib.hid hb
      have hz : w.heap.size ≤ wr.heap.size := hb.size
      clear hb
      by_cases hki : fs[k].id = id
      · have HID := Lib.hid hki
        clear hki
        generalize fs[k].A = x1 at *
        generalize fs[k].n = x2 at *
        generalize fs[k].c = x3 at *
        generalize fs[k].safe = x4 at *
        rw [HID.out] at hc0
        have he : (id == id) = true := by simp
        go_wp2_with fail
        go_ret
        exact ⟨⟨_, rfl⟩, HB.out.alloc hz _⟩
      · have HID := Lib.hid (show (fs[k].id == id) = false by simpa using hki)
        clear hki
        generalize fs[k].id = x0 at *
        generalize fs[k].A = x1 at *
        generalize fs[k].n = x2 at *
        generalize fs[k].c = x3 at *
        generalize fs[k].safe = x4 at *
        have he := HID.out
        go_wp2_with fail
        exact ⟨⟨k + 1, by omega, by go_num, HB.out.alloc hz _⟩, by simp [intOf]; omega⟩
    · have HB := Lib.hid hb
      clear hb
      go_wp2_with fail
      go_ret
      exact ⟨⟨_, rfl⟩, HB.out⟩
end Go.Proofs.YtfkdfabbpebljaaGreat.DOk
