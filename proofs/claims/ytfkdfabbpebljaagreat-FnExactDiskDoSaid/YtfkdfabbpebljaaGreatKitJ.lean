/- Texts that lay in modules of their own: DoCodeX, DoCodeA, DoSpecLem. -/
import Derived.Test.YtfkdfabbpebljaaGreatDoCodeS
import Derived.Deep.QuietTactic
import Derived.BigQuiet
import Derived.Test.YtfkdfabbpebljaaGreatDoCodeM
import Derived.Test.YtfkdfabbpebljaaGreatKitI
import Derived.Test.YtfkdfabbpebljaaGreatKitF
import Derived.Test.YtfkdfabbpebljaaGreatCopySpec
import Derived.Test.YtfkdfabbpebljaaGreatKitE
namespace Go.Proofs.YtfkdfabbpebljaaGreat.DOk
open Go.RowKit Go.Proofs.YtfkdfabbpebljaaGreat.Bytes Go.Proofs.YtfkdfabbpebljaaGreat.Rows_ Go.Maps Go.WideMaps
set_option linter.unusedVariables false
set_option linter.unusedSimpArgs false

theorem bl_drewN {B : Nat} {a w : World} (h : Below B a w) (n : Nat) : Below B a (w.drewN n) := h.trans ⟨rfl, rfl, rfl, Nat.le_refl _, fun _ _ => rfl⟩
set_option maxRecDepth 100000 in
set_option maxHeartbeats 6400000 in
theorem l02Code_six (room fuse next : Int) (F : Option Addr) (nf cf : Nat) (K : Option Addr) (nk ck : Nat) (T : Option Addr) (nt ct : Nat) (fs : List FileD) (ks : List LinkD) (ts : List TurnD) (name to_ : ByteArray) (A : Option Addr) (n c : Nat) (w : World)
    (hf : RdF w w.heap.size F fs) (hfl : fs.length = nf) (hu : usedD fs ≤ 1099511627776)
    (hk : RdL w w.heap.size K ks) (hkl : ks.length = nk) (hKA : K = none → nk = 0 ∧ ck = 0) (hks : ∀ x ∈ ks, x.1.size ≤ maxLen)
    (ht : RdT w w.heap.size T ts) (htl : ts.length = nt) (hts : ∀ x ∈ ts, x.name.size ≤ maxLen ∧ x.to_.size ≤ maxLen) (hP : OkS room fuse next fs ks ts) :
    Calls Tryz.prog 22 #[.agg #[.int .i64 room, .int .i64 fuse, .int .i64 next, .slice F nf cf, .slice K nk ck, .slice T nt ct], .agg #[.int .i64 6, .string name, .string to_, .slice A n c]] w fun e w' =>
      e = .returned (.int .i64 (codeD fuse next nf nt 6 (decide (0 < findD (dirAt ks ts) name.toList)) (to_.toList == name.toList))) ∧ Below w.heap.size w w' := by
  obtain ⟨W, hW⟩ : ∃ W, W = (w.alloc (.cells #[.int .i64 room, .int .i64 fuse, .int .i64 next, .slice F nf cf, .slice K nk ck, .slice T nt ct] 36)).alloc (.cells #[.int .i64 6, .string name, .string to_, .slice A n c] 40) := ⟨_, rfl⟩
  have hb0 : Below w.heap.size w W := by rw [hW]; exact ((Below.refl w.heap.size w).alloc (Nat.le_refl _) _).alloc (by simp) _
  have hx0 : BoxW W w.heap.size #[.int .i64 room, .int .i64 fuse, .int .i64 next, .slice F nf cf, .slice K nk ck, .slice T nt ct] := by
    unfold BoxW; rw [hW, Below.heap_alloc _ _ _ (by simp)]; exact heap_alloc_new w _
  have hy0 : BoxO W (w.heap.size + 1) #[.int .i64 6, .string name, .string to_, .slice A n c] := by
    have := heap_alloc_new (w.alloc (.cells #[.int .i64 room, .int .i64 fuse, .int .i64 next, .slice F nf cf, .slice K nk ck, .slice T nt ct] 36)) (.cells #[.int .i64 6, .string name, .string to_, .slice A n c] 40)
    unfold BoxO; rw [hW]; simpa using this
  have hwW : w.heap.size + 1 < W.heap.size := hy0.lt
  have h10 : nf ≤ 10 := by rw [← hfl]; exact hP.2.1
  have h30 : nt ≤ 30 := by rw [← htl]; exact hP.2.2.2.1
  have hnx : next ≤ 1000000 := by have := hP.1; unfold NumI at this; omega
  have HB := Lib.hid hb0
  have HX := Lib.hid hx0
  have HY := Lib.hid hy0
  have HV := Lib.hid hW.symm
  have HDir := Lib.hid (fun V (h : Below w.heap.size w V) => spec_DiskDir_any room fuse next F nf cf K nk ck T nt ct fs ks ts V ((hf.below (Nat.le_refl _) h).more h.size) hfl hu ((hk.below (Nat.le_refl _) h).more h.size) hkl hKA hks ((ht.below (Nat.le_refl _) h).more h.size) htl hts)
  have HFj := Lib.hid (show ∀ (v1 : World) A1 c1, OwnL v1 W.heap.size A1 (dirAt ks ts).length c1 (dirAt ks ts) → (dirAt ks ts).length ≤ 40 → Below W.heap.size W v1 → Calls Tryz.prog 24 #[.slice A1 (dirAt ks ts).length c1, .string name] v1 (fun e w' => e = .returned (.int .i64 (findD (dirAt ks ts) name.toList)) ∧ Below W.heap.size W w') from fun v1 A1 c1 ho hl hb => (l02Find_any A1 (dirAt ks ts).length c1 (dirAt ks ts) name v1 ho.rd rfl (by omega)).mono (by rintro e w' ⟨rfl, h2⟩; exact ⟨rfl, hb.trans (h2.mono hb.size)⟩))
  have HDj := Lib.hid (show ∀ (V : World), Below w.heap.size w V → Calls Tryz.prog 25 #[.agg #[.int .i64 room, .int .i64 fuse, .int .i64 next, .slice F nf cf, .slice K nk ck, .slice T nt ct]] V (fun e w' => ∃ A1 c1, e = .returned (.slice A1 (dirAt ks ts).length c1) ∧ OwnL w' V.heap.size A1 (dirAt ks ts).length c1 (dirAt ks ts) ∧ (dirAt ks ts).length ≤ 40 ∧ Below V.heap.size V w') from fun V h => (HDir.out V h).mono (by
    rintro e w' ⟨⟨_, A1, c1, he, ho, hl⟩ | ⟨hN, _⟩, hb⟩
    · exact ⟨A1, c1, he, ho, hl, hb⟩
    · exact absurd hP hN))
  clear HDir
  have HP := Lib.hid hP
  clear hf hfl hu hk hkl hKA hks ht htl hts hP hW hb0 hx0 hy0
  generalize findD (dirAt ks ts) name.toList = z at *
  by_cases hfz : fuse = 0
  · subst hfz
    have x1 := HX.out.cell 1
    go_enter Tryz.func22, Tryz.ntmps22
    go_upto_region 1 with fail
    rw [HV.out]
    go_wp2_with fail
    go_ret
    exact ⟨ret_i (by simp [codeD]), HB.out⟩
  · have e0 : (fuse == 0) = false := by simp; omega
    have x0 : W.cell? ⟨w.heap.size, 0, none⟩ = some (.int .i64 room) := HX.out.cell 0
    have x1 : W.cell? ⟨w.heap.size, 1, none⟩ = some (.int .i64 fuse) := HX.out.cell 1
    have x2 : W.cell? ⟨w.heap.size, 2, none⟩ = some (.int .i64 next) := HX.out.cell 2
    have x3 : W.cell? ⟨w.heap.size, 3, none⟩ = some (.slice F nf cf) := HX.out.cell 3
    have x4 : W.cell? ⟨w.heap.size, 4, none⟩ = some (.slice K nk ck) := HX.out.cell 4
    have x5 : W.cell? ⟨w.heap.size, 5, none⟩ = some (.slice T nt ct) := HX.out.cell 5
    have y0 : W.cell? ⟨w.heap.size + 1, 0, none⟩ = some (.int .i64 6) := HY.out.cell 0
    have y1 : W.cell? ⟨w.heap.size + 1, 1, none⟩ = some (.string name) := HY.out.cell 1
    have y2 : W.cell? ⟨w.heap.size + 1, 2, none⟩ = some (.string to_) := HY.out.cell 2
    go_enter Tryz.func22, Tryz.ntmps22
    go_upto_region 1 with fail
    rw [HV.out]
    go_upto_region 3 with fail
    go_quiet (fail)
    go_wp2_with fail
    all_goals (first | (exfalso; omega) | (go_ret; exact ⟨ret_i (by unfold codeD; simp_all), bl_drewN HB.out nq⟩))
end Go.Proofs.YtfkdfabbpebljaaGreat.DOk
namespace Go.Proofs.YtfkdfabbpebljaaGreat.DOk
open Go.RowKit Go.Proofs.YtfkdfabbpebljaaGreat.Bytes Go.Proofs.YtfkdfabbpebljaaGreat.Rows_
set_option linter.unusedVariables false
theorem l02Code_any (k : Int) (hk_ : 1 ≤ k ∧ k ≤ 6) (room fuse next : Int) (F : Option Addr) (nf cf : Nat) (K : Option Addr) (nk ck : Nat) (T : Option Addr) (nt ct : Nat) (fs : List FileD) (ks : List LinkD) (ts : List TurnD) (name to_ : ByteArray) (A : Option Addr) (n c : Nat) (w : World)
    (hf : RdF w w.heap.size F fs) (hfl : fs.length = nf) (hu : usedD fs ≤ 1099511627776)
    (hk : RdL w w.heap.size K ks) (hkl : ks.length = nk) (hKA : K = none → nk = 0 ∧ ck = 0) (hks : ∀ x ∈ ks, x.1.size ≤ maxLen)
    (ht : RdT w w.heap.size T ts) (htl : ts.length = nt) (hts : ∀ x ∈ ts, x.name.size ≤ maxLen ∧ x.to_.size ≤ maxLen) (hP : OkS room fuse next fs ks ts) :
    Calls Tryz.prog 22 #[.agg #[.int .i64 room, .int .i64 fuse, .int .i64 next, .slice F nf cf, .slice K nk ck, .slice T nt ct], .agg #[.int .i64 k, .string name, .string to_, .slice A n c]] w fun e w' =>
      e = .returned (.int .i64 (codeD fuse next nf nt k (decide (0 < findD (dirAt ks ts) name.toList)) (to_.toList == name.toList))) ∧ Below w.heap.size w w' := by
  have h : k = 1 ∨ (k = 2 ∨ k = 3 ∨ k = 4 ∨ k = 5) ∨ k = 6 := by omega
  rcases h with h | h | rfl
  · exact l02Code_one k h room fuse next F nf cf K nk ck T nt ct fs ks ts name to_ A n c w hf hfl hu hk hkl hKA hks ht htl hts hP
  · exact l02Code_mid k h room fuse next F nf cf K nk ck T nt ct fs ks ts name to_ A n c w hf hfl hu hk hkl hKA hks ht htl hts hP
  · exact l02Code_six room fuse next F nf cf K nk ck T nt ct fs ks ts name to_ A n c w hf hfl hu hk hkl hKA hks ht htl hts hP
end Go.Proofs.YtfkdfabbpebljaaGreat.DOk
namespace Go.Proofs.YtfkdfabbpebljaaGreat.DOk
open Go.RowKit Go.Proofs.YtfkdfabbpebljaaGreat.Bytes Go.Proofs.YtfkdfabbpebljaaGreat.Rows_ Go.Maps
set_option linter.unusedVariables false
theorem Box4.far {w : World} {b b' j : Nat} {x0 x1 x2 x3 v : Value} (h : Box4 w b x0 x1 x2 x3) (hne : b ≠ b') : Box4 (w.setCell ⟨b', j, none⟩ v) b x0 x1 x2 x3 :=
  ⟨(World.cell?_setCell_other _ _ _ _ (by intro e; injection e with e; exact hne e.symm)).trans h.1, (World.cell?_setCell_other _ _ _ _ (by intro e; injection e with e; exact hne e.symm)).trans h.2.1, (World.cell?_setCell_other _ _ _ _ (by intro e; injection e with e; exact hne e.symm)).trans h.2.2.1, (World.cell?_setCell_other _ _ _ _ (by intro e; injection e with e; exact hne e.symm)).trans h.2.2.2⟩
theorem Box4.only {S : Nat → Prop} {w w' : World} {b : Nat} {x0 x1 x2 x3 : Value} (h : Box4 w b x0 x1 x2 x3) (on : Only S w w') (hn : ¬ S b) : Box4 w' b x0 x1 x2 x3 :=
  ⟨on.cell h.1 hn, on.cell h.2.1 hn, on.cell h.2.2.1 hn, on.cell h.2.2.2 hn⟩
theorem dirOk_any (room fuse next : Int) (F : Option Addr) (nf cf : Nat) (K : Option Addr) (nk ck : Nat) (T : Option Addr) (nt ct : Nat) (fs : List FileD) (ks : List LinkD) (ts : List TurnD) (hP : OkS room fuse next fs ks ts) (w : World)
    (hf : RdF w w.heap.size F fs) (hfl : fs.length = nf) (hu : usedD fs ≤ 1099511627776)
    (hk : RdL w w.heap.size K ks) (hkl : ks.length = nk) (hKA : K = none → nk = 0 ∧ ck = 0) (hks : ∀ x ∈ ks, x.1.size ≤ maxLen)
    (ht : RdT w w.heap.size T ts) (htl : ts.length = nt) (hts : ∀ x ∈ ts, x.name.size ≤ maxLen ∧ x.to_.size ≤ maxLen) :
    Calls Tryz.prog 25 #[.agg #[.int .i64 room, .int .i64 fuse, .int .i64 next, .slice F nf cf, .slice K nk ck, .slice T nt ct]] w fun e w' =>
      (∃ A' c', e = .returned (.slice A' (dirAt ks ts).length c') ∧ OwnL w' w.heap.size A' (dirAt ks ts).length c' (dirAt ks ts)) ∧ (dirAt ks ts).length ≤ 40 ∧ Below w.heap.size w w' :=
  (spec_DiskDir_any room fuse next F nf cf K nk ck T nt ct fs ks ts w hf hfl hu hk hkl hKA hks ht htl hts).mono (by
    rintro e w' ⟨⟨_, A', c', he, ho, hl⟩ | ⟨hN, _⟩, hb⟩
    · exact ⟨⟨A', c', he, ho⟩, hl, hb⟩
    · exact absurd hP hN)
end Go.Proofs.YtfkdfabbpebljaaGreat.DOk
