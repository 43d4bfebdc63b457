/- The code with which an operation on a good disk is refused, in the model. -/
import Derived.Test.YtfkdfabbpebljaaGreatDoCode
import Derived.Deep.RegionWith
import Derived.Deep.Cut
import Derived.Test.YtfkdfabbpebljaaGreatKitE
import Derived.Deep.RegionLaw
namespace Go.Proofs.YtfkdfabbpebljaaGreat.DOk
open Go.RowKit Go.Proofs.YtfkdfabbpebljaaGreat.Bytes Go.Proofs.YtfkdfabbpebljaaGreat.Rows_ Go.Maps Go.WideMaps
set_option linter.unusedVariables false
set_option linter.unusedSimpArgs false
def codeD3 (kind : Int) (ex : Bool) : Bool := decide (kind ≠ 6) && (decide (kind = 1) == ex)
theorem c3_1t : codeD3 1 true = true := by decide
theorem c3_1f : codeD3 1 false = false := by decide
theorem c3_2t : codeD3 2 true = false := by decide
theorem c3_2f : codeD3 2 false = true := by decide
theorem c3_3t : codeD3 3 true = false := by decide
theorem c3_3f : codeD3 3 false = true := by decide
theorem c3_4t : codeD3 4 true = false := by decide
theorem c3_4f : codeD3 4 false = true := by decide
theorem c3_5t : codeD3 5 true = false := by decide
theorem c3_5f : codeD3 5 false = true := by decide
theorem c3_6t : codeD3 6 true = false := by decide
theorem c3_6f : codeD3 6 false = false := by decide
def BoxO (w : World) (b : Nat) (cs : Array Value) : Prop := w.heap[b]? = some (.cells cs 40 (0, 0))
theorem BoxO.lt {w : World} {b : Nat} {cs : Array Value} (h : BoxO w b cs) : b < w.heap.size := (Array.getElem?_eq_some_iff.1 h).1
theorem BoxO.cell {w : World} {b : Nat} {cs : Array Value} (h : BoxO w b cs) (j : Nat) : w.cell? ⟨b, j, none⟩ = cs[j]? := by unfold BoxO at h; simp [World.cell?, h]
theorem BoxO.free {w : World} {b : Nat} {cs : Array Value} (h : BoxO w b cs) (j : Nat) : w.frozen? ⟨b, j, none⟩ = false := by unfold BoxO at h; simp [World.frozen?, h]
theorem BoxO.below {w w' : World} {b B : Nat} {cs : Array Value} (h : BoxO w b cs) (hb : Below B w w') (hB : b < B) : BoxO w' b cs := by unfold BoxO at h ⊢; rw [hb.block b hB]; exact h

set_option maxRecDepth 100000 in
set_option maxHeartbeats 6400000 in
theorem l02Code_one (k : Int) (hk_ : k = 1) (room fuse next : Int) (F : Option Addr) (nf cf : Nat) (K : Option Addr) (nk ck : Nat) (T : Option Addr) (nt ct : Nat) (fs : List FileD) (ks : List LinkD) (ts : List TurnD) (name to_ : ByteArray) (A : Option Addr) (n c : Nat) (w : World)
    (hf : RdF w w.heap.size F fs) (hfl : fs.length = nf) (hu : usedD fs ≤ 1099511627776)
    (hk : RdL w w.heap.size K ks) (hkl : ks.length = nk) (hKA : K = none → nk = 0 ∧ ck = 0) (hks : ∀ x ∈ ks, x.1.size ≤ maxLen)
    (ht : RdT w w.heap.size T ts) (htl : ts.length = nt) (hts : ∀ x ∈ ts, x.name.size ≤ maxLen ∧ x.to_.size ≤ maxLen) (hP : OkS room fuse next fs ks ts) :
    Calls Tryz.prog 22 #[.agg #[.int .i64 room, .int .i64 fuse, .int .i64 next, .slice F nf cf, .slice K nk ck, .slice T nt ct], .agg #[.int .i64 k, .string name, .string to_, .slice A n c]] w fun e w' =>
      e = .returned (.int .i64 (codeD fuse next nf nt k (decide (0 < findD (dirAt ks ts) name.toList)) (to_.toList == name.toList))) ∧ Below w.heap.size w w' := by
  obtain ⟨W, hW⟩ : ∃ W, W = (w.alloc (.cells #[.int .i64 room, .int .i64 fuse, .int .i64 next, .slice F nf cf, .slice K nk ck, .slice T nt ct] 36)).alloc (.cells #[.int .i64 k, .string name, .string to_, .slice A n c] 40) := ⟨_, rfl⟩
  have hb0 : Below w.heap.size w W := by rw [hW]; exact ((Below.refl w.heap.size w).alloc (Nat.le_refl _) _).alloc (by simp) _
  have hx0 : BoxW W w.heap.size #[.int .i64 room, .int .i64 fuse, .int .i64 next, .slice F nf cf, .slice K nk ck, .slice T nt ct] := by
    unfold BoxW; rw [hW, Below.heap_alloc _ _ _ (by simp)]; exact heap_alloc_new w _
  have hy0 : BoxO W (w.heap.size + 1) #[.int .i64 k, .string name, .string to_, .slice A n c] := by
    have := heap_alloc_new (w.alloc (.cells #[.int .i64 room, .int .i64 fuse, .int .i64 next, .slice F nf cf, .slice K nk ck, .slice T nt ct] 36)) (.cells #[.int .i64 k, .string name, .string to_, .slice A n c] 40)
    unfold BoxO; rw [hW]; simpa using this
  have hwW : w.heap.size + 1 < W.heap.size := hy0.lt
  have h10 : nf ≤ 10 := by rw [← hfl]; exact hP.2.1
  have h30 : nt ≤ 30 := by rw [← htl]; exact hP.2.2.2.1
  have hnx : next ≤ 1000000 := by have := hP.1; unfold NumI at this; omega
  have HB := Lib.hid hb0
  have HX := Lib.hid hx0
  have HY := Lib.hid hy0
  have HV := Lib.hid hW.symm
  have HDir := Lib.hid (fun V (h : Below w.heap.size w V) => spec_DiskDir_any room fuse next F nf cf K nk ck T nt ct fs ks ts V ((hf.below (Nat.le_refl _) h).more h.size) hfl hu ((hk.below (Nat.le_refl _) h).more h.size) hkl hKA hks ((ht.below (Nat.le_refl _) h).more h.size) htl hts)
  have HFj := Lib.hid (show ∀ (v1 : World) A1 c1, OwnL v1 W.heap.size A1 (dirAt ks ts).length c1 (dirAt ks ts) → (dirAt ks ts).length ≤ 40 → Below W.heap.size W v1 → Calls Tryz.prog 24 #[.slice A1 (dirAt ks ts).length c1, .string name] v1 (fun e w' => e = .returned (.int .i64 (findD (dirAt ks ts) name.toList)) ∧ Below W.heap.size W w') from fun v1 A1 c1 ho hl hb => (l02Find_any A1 (dirAt ks ts).length c1 (dirAt ks ts) name v1 ho.rd rfl (by omega)).mono (by rintro e w' ⟨rfl, h2⟩; exact ⟨rfl, hb.trans (h2.mono hb.size)⟩))
  have HDj := Lib.hid (show ∀ (V : World), Below w.heap.size w V → Calls Tryz.prog 25 #[.agg #[.int .i64 room, .int .i64 fuse, .int .i64 next, .slice F nf cf, .slice K nk ck, .slice T nt ct]] V (fun e w' => ∃ A1 c1, e = .returned (.slice A1 (dirAt ks ts).length c1) ∧ OwnL w' V.heap.size A1 (dirAt ks ts).length c1 (dirAt ks ts) ∧ (dirAt ks ts).length ≤ 40 ∧ Below V.heap.size V w') from fun V h => (HDir.out V h).mono (by
    rintro e w' ⟨⟨_, A1, c1, he, ho, hl⟩ | ⟨hN, _⟩, hb⟩
    · exact ⟨A1, c1, he, ho, hl, hb⟩
    · exact absurd hP hN))
  clear HDir
  have HP := Lib.hid hP
  clear hf hfl hu hk hkl hKA hks ht htl hts hP hW hb0 hx0 hy0
  generalize findD (dirAt ks ts) name.toList = z at *
  have e1 : (k == 1) = true := by simp; omega
  have e6 : (k != 6) = true := by simp; omega
  have HK_ := Lib.hid hk_
  clear hk_
  skip
  by_cases hfz : fuse = 0
  · subst hfz
    have x1 := HX.out.cell 1
    go_enter Tryz.func22, Tryz.ntmps22
    go_upto_region 1 with fail
    rw [HV.out]
    go_wp2_with fail
    go_ret
    exact ⟨ret_i (by simp [codeD]), HB.out⟩
  · have e0 : (fuse == 0) = false := by simp; omega
    have x0 : W.cell? ⟨w.heap.size, 0, none⟩ = some (.int .i64 room) := HX.out.cell 0
    have x1 : W.cell? ⟨w.heap.size, 1, none⟩ = some (.int .i64 fuse) := HX.out.cell 1
    have x2 : W.cell? ⟨w.heap.size, 2, none⟩ = some (.int .i64 next) := HX.out.cell 2
    have x3 : W.cell? ⟨w.heap.size, 3, none⟩ = some (.slice F nf cf) := HX.out.cell 3
    have x4 : W.cell? ⟨w.heap.size, 4, none⟩ = some (.slice K nk ck) := HX.out.cell 4
    have x5 : W.cell? ⟨w.heap.size, 5, none⟩ = some (.slice T nt ct) := HX.out.cell 5
    have y0 : W.cell? ⟨w.heap.size + 1, 0, none⟩ = some (.int .i64 k) := HY.out.cell 0
    have y1 : W.cell? ⟨w.heap.size + 1, 1, none⟩ = some (.string name) := HY.out.cell 1
    have y2 : W.cell? ⟨w.heap.size + 1, 2, none⟩ = some (.string to_) := HY.out.cell 2
    go_enter Tryz.func22, Tryz.ntmps22
    go_upto_region 1 with fail
    rw [HV.out]
    go_upto_region 3 with fail
    go_cut [23] (fun s wx => s = .bool (codeD3 k (decide (0 < z))) ∧ Below W.heap.size W wx)
    case first =>
      go_region_law (first
        | (go_at_call 25; refine (HDj.out _ ?_).mono ?_; exact ⟨HB.out.os, HB.out.tape, HB.out.output, HB.out.size, HB.out.block⟩; rintro e v1 ⟨A1, c1, rfl, ho1, hl1, hb1'⟩; have hb1 : Below W.heap.size W v1 := undrew (W := W) hb1'; have y1' := (hb1.cell (p := ⟨w.heap.size + 1, 1, none⟩) hwW).trans y1; have y0' := (hb1.cell (p := ⟨w.heap.size + 1, 0, none⟩) hwW).trans y0; have HO1 := Lib.hid ho1; have HB1 := Lib.hid hb1; clear hb1' ho1 hb1)
        | (go_at_call 24; refine (HFj.out _ _ _ HO1.out hl1 HB1.out).mono ?_; rintro e v2 ⟨rfl, hb2⟩; have y0'' := (hb2.cell (p := ⟨w.heap.size + 1, 0, none⟩) hwW).trans y0; have HB2 := Lib.hid hb2; clear hb2)
        | (go_simp; go_at_call 25; refine (HDj.out _ ?_).mono ?_; exact ⟨HB.out.os, HB.out.tape, HB.out.output, HB.out.size, HB.out.block⟩; rintro e v1 ⟨A1, c1, rfl, ho1, hl1, hb1'⟩; have hb1 : Below W.heap.size W v1 := undrew (W := W) hb1'; have y1' := (hb1.cell (p := ⟨w.heap.size + 1, 1, none⟩) hwW).trans y1; have y0' := (hb1.cell (p := ⟨w.heap.size + 1, 0, none⟩) hwW).trans y0; have HO1 := Lib.hid ho1; have HB1 := Lib.hid hb1; clear hb1' ho1 hb1)
        | (go_simp; go_at_call 24; refine (HFj.out _ _ _ HO1.out hl1 HB1.out).mono ?_; rintro e v2 ⟨rfl, hb2⟩; have y0'' := (hb2.cell (p := ⟨w.heap.size + 1, 0, none⟩) hwW).trans y0; have HB2 := Lib.hid hb2; clear hb2)
        | fail)
      all_goals
        go_wp2_with fail
        go_meet
        case rel => exact ⟨by unfold codeD3; have h1 := HK_.out; first | (subst h1; simp; done) | (rcases h1 with rfl | rfl | rfl | rfl <;> simp <;> done) | (simp; done), HB2.out⟩
    case rest =>
      obtain ⟨rfl, hxc⟩ := hcut
      have HXc := Lib.hid (HX.out.below hxc (by omega))
      have HYc := Lib.hid (HY.out.below hxc hwW)
      have HBc := Lib.hid (HB.out.trans (hxc.mono (by omega)))
      clear hxc x0 x1 x2 x3 x4 x5 y0 y1 y2 e1 e6
      have h1 := HK_.out
      clear HK_
      have x2 : wc.cell? ⟨w.heap.size, 2, none⟩ = some (.int .i64 next) := HXc.out.cell 2
      have x3 : wc.cell? ⟨w.heap.size, 3, none⟩ = some (.slice F nf cf) := HXc.out.cell 3
      have x5 : wc.cell? ⟨w.heap.size, 5, none⟩ = some (.slice T nt ct) := HXc.out.cell 5
      have y0 : wc.cell? ⟨w.heap.size + 1, 0, none⟩ = some (.int .i64 k) := HYc.out.cell 0
      have y1 : wc.cell? ⟨w.heap.size + 1, 1, none⟩ = some (.string name) := HYc.out.cell 1
      have y2 : wc.cell? ⟨w.heap.size + 1, 2, none⟩ = some (.string to_) := HYc.out.cell 2
      clear HDj HFj HB HX HY HP
      subst h1
      all_goals
        cases hz : decide (0 < z)
        all_goals
          simp only [c3_1t, c3_1f, c3_2t, c3_2f, c3_3t, c3_3f, c3_4t, c3_4f, c3_5t, c3_5f, c3_6t, c3_6f]
          cases heq : (to_.toList == name.toList)
          all_goals
            go_wp2_with fail
            all_goals (first | (exfalso; omega) | (go_ret; exact ⟨ret_i (by rw [hz]; unfold codeD; simp_all <;> omega), HBc.out⟩))
end Go.Proofs.YtfkdfabbpebljaaGreat.DOk
