/- Words and lemmas, merged (once: GrBoxC, GrSmall, GrFillS, GrFillP) -/
import Derived.Test.YthlpchojlddnbaaKiF
import Derived.Deep.RegionHeld3
import Derived.Deep.DrawnRows
import Derived.Test.YthlpchojlddnbaaKiP
import Derived.Test.YthlpchojlddnbaaGrB
import Derived.Test.YthlpchojlddnbaaGrOk
namespace Go.Proofs.Ythlpchojlddnbaa.Gr
open Go.RowKit Go.Proofs.Ythlpchojlddnbaa.Bytes Go.Proofs.Ythlpchojlddnbaa.Rows_ Go.Proofs.Ythlpchojlddnbaa.RowK
set_option linter.unusedVariables false
def BoxC (w : World) (b : Nat) (cs : Array Value) : Prop := w.heap[b]? = some (.cells cs 37 (0, 0))
theorem BoxC.lt {w : World} {b : Nat} {cs : Array Value} (h : BoxC w b cs) : b < w.heap.size := (Array.getElem?_eq_some_iff.1 h).1
theorem BoxC.cell {w : World} {b : Nat} {cs : Array Value} (h : BoxC w b cs) (j : Nat) : w.cell? ⟨b, j, none⟩ = cs[j]? := by unfold BoxC at h; simp [World.cell?, h]
theorem BoxC.below {w w' : World} {b B : Nat} {cs : Array Value} (h : BoxC w b cs) (hb : Below B w w') (hB : b < B) : BoxC w' b cs := by unfold BoxC at h ⊢; rw [hb.block b hB]; exact h
theorem BoxC.only {S : Nat → Prop} {w w' : World} {b : Nat} {cs : Array Value} (h : BoxC w b cs) (on : Only S w w') (hn : ¬ S b) : BoxC w' b cs := by
  have hl := h.lt
  unfold BoxC at h ⊢; rw [on.block b hl hn]; exact h
theorem BoxC.new (w : World) (cs : Array Value) : BoxC (w.alloc (.cells cs 37)) w.heap.size cs := heap_alloc_new w _
theorem of_smallB {x : Int} (h : smallB x = true) : -100000 ≤ x ∧ x ≤ 100000 := of_decide_eq_true h

end Go.Proofs.Ythlpchojlddnbaa.Gr
namespace Go.Proofs.Ythlpchojlddnbaa.Gr
open Go.RowKit Go.Proofs.Ythlpchojlddnbaa.Bytes Go.Proofs.Ythlpchojlddnbaa.Rows_ Go.Proofs.Ythlpchojlddnbaa.RowK
set_option linter.unusedVariables false
set_option maxRecDepth 100000 in
theorem l07Small_any (x : Int) (w : World) : Calls Try.prog 38 #[.int .i64 x] w fun e w' => e = .returned (.bool (smallB x)) ∧ w = w' := by
  by_cases h1 : -100000 ≤ x
  · have HE := Lib.hid (show smallB x = decide (x ≤ 100000) by unfold smallB; simp [h1])
    go_enter Try.func38, Try.ntmps38
    go_wp2_with fail
    go_ret
    exact ⟨ret_bool HE.out.symm, rfl⟩
  · have HE := Lib.hid (show smallB x = false by unfold smallB; simp [h1])
    go_enter Try.func38, Try.ntmps38
    go_wp2_with fail
    go_ret
    exact ⟨ret_bool HE.out.symm, rfl⟩

end Go.Proofs.Ythlpchojlddnbaa.Gr
namespace Go.Proofs.Ythlpchojlddnbaa.Gr
open Go.RowKit Go.Proofs.Ythlpchojlddnbaa.Bytes Go.Proofs.Ythlpchojlddnbaa.Rows_ Go.Proofs.Ythlpchojlddnbaa.RowK
set_option linter.unusedVariables false
def stepF (cs : List CellD) (W : Nat) (x y w h : Int) (z : CellD) (k : Nat) : List CellD :=
  (List.range cs.length).map fun i => if decide (i < k) && inF W x y w h i then z else cs.getD i blankC
theorem stepF_len (cs : List CellD) (W : Nat) (x y w h : Int) (z : CellD) (k : Nat) : (stepF cs W x y w h z k).length = cs.length := by simp [stepF]
theorem stepF_get {cs : List CellD} {W : Nat} {x y w h : Int} {z : CellD} {k i : Nat} (hi : i < cs.length) : (stepF cs W x y w h z k)[i]? = some (if decide (i < k) && inF W x y w h i then z else cs[i]) := by
  simp [stepF, hi, List.getD]
theorem stepF_ext {cs ds : List CellD} {W : Nat} {x y w h : Int} {z : CellD} {k : Nat} (hl : ds.length = cs.length) (hg : ∀ i (hi : i < cs.length), ds[i]? = some (if decide (i < k) && inF W x y w h i then z else cs[i])) : ds = stepF cs W x y w h z k := by
  apply List.ext_getElem?
  intro i
  by_cases hi : i < cs.length
  · rw [hg i hi, stepF_get hi]
  · rw [List.getElem?_eq_none (by omega), List.getElem?_eq_none (by rw [stepF_len]; omega)]
theorem stepF_zero {cs : List CellD} {W : Nat} {x y w h : Int} {z : CellD} : stepF cs W x y w h z 0 = cs := by
  refine (stepF_ext rfl fun i hi => ?_).symm
  rw [List.getElem?_eq_getElem hi]; simp
theorem stepF_out {cs : List CellD} {W : Nat} {x y w h : Int} {z : CellD} {k : Nat} (hf : inF W x y w h k = false) : stepF cs W x y w h z k = stepF cs W x y w h z (k + 1) := by
  refine stepF_ext (stepF_len _ _ _ _ _ _ _ _) fun i hi => ?_
  rw [stepF_get hi]
  refine congrArg some (iteb ?_ _ _)
  by_cases e : i = k
  · subst e; rw [hf]; simp
  · rw [show decide (i < k) = decide (i < k + 1) from decide_eq_decide.2 (by omega)]
theorem stepF_in {cs : List CellD} {W : Nat} {x y w h : Int} {z : CellD} {k : Nat} (hk : k < cs.length) (hf : inF W x y w h k = true) : (stepF cs W x y w h z k).set k z = stepF cs W x y w h z (k + 1) := by
  refine stepF_ext (by rw [List.length_set, stepF_len]) fun i hi => ?_
  rw [List.getElem?_set]
  by_cases e : k = i
  · subst e; rw [if_pos rfl, if_pos (by rw [stepF_len]; exact hk), hf]; simp
  · rw [if_neg e, stepF_get hi]
    refine congrArg some (iteb ?_ _ _)
    rw [show decide (i < k) = decide (i < k + 1) from decide_eq_decide.2 (by omega)]
theorem stepF_end {cs : List CellD} {W H : Nat} {x y w h : Int} {z : CellD} {n : Nat} (hl : cs.length = n) (hW : 1 ≤ W) (hn : n = W * H) : stepF cs W x y w h z n = mixL cs W x y w h z H := by
  refine mixL_ext (stepF_len _ _ _ _ _ _ _ _) fun i hi => ?_
  rw [stepF_get hi]
  refine congrArg some (iteb ?_ _ _)
  have h1 : i / W < H := by rw [Nat.div_lt_iff_lt_mul (by omega), Nat.mul_comm]; omega
  rw [show decide (i < n) = true from decide_eq_true (by omega), show decide (i / W < H) = true from decide_eq_true h1]
theorem inF_t {W : Nat} {x y w h : Int} {k : Nat} (h1 : x ≤ ((k % W : Nat) : Int)) (h2 : ((k % W : Nat) : Int) < x + w) (h3 : y ≤ ((k / W : Nat) : Int)) (h4 : ((k / W : Nat) : Int) < y + h) : inF W x y w h k = true := decide_eq_true ⟨h1, h2, h3, h4⟩
theorem inF_f {W : Nat} {x y w h : Int} {k : Nat} (hn : ¬ (x ≤ ((k % W : Nat) : Int) ∧ ((k % W : Nat) : Int) < x + w ∧ y ≤ ((k / W : Nat) : Int) ∧ ((k / W : Nat) : Int) < y + h)) : inF W x y w h k = false := decide_eq_false hn
set_option maxRecDepth 100000 in
set_option maxHeartbeats 6400000 in
theorem spec_GridFill_yes (W H : Nat) (b o n c : Nat) (cs : List CellD) (x y ww wh : Int) (z0 z1 z2 : Int) (z3 z4 z5 : Bool) (w : World) (hr : RdC w w.heap.size (some ⟨b, o, none⟩) cs) (hl : cs.length = n) (hn : n ≤ 1048576) (ho : okG (W : Int) (H : Int) cs = true) (hz : (Rune.showB z0 && Attr.okA z1 z2) = true) (s1 : smallB x = true) (s2 : smallB y = true) (s3 : smallB ww = true) (s4 : smallB wh = true) (hW1 : 1 ≤ W) (hW : W ≤ 120) (hH1 : 1 ≤ H) (hH : H ≤ 120) (hWH : n = W * H) :
    Calls Try.prog 11 #[.agg #[.int .i64 (W : Int), .int .i64 (H : Int), .slice (some ⟨b, o, none⟩) n c], .int .i64 x, .int .i64 y, .int .i64 ww, .int .i64 wh, .agg #[.int .i64 z0, .int .i64 z1, .int .i64 z2, .bool z3, .bool z4, .bool z5]] w (AnsT w ((W : Int), (H : Int), mixL cs W x y ww wh ⟨z0, z1, z2, z3, z4, z5⟩ H)) := by
  have hb0 := Lib.hid ((((Below.refl w.heap.size w).alloc (Nat.le_refl _) (.cells #[.int .i64 (W : Int), .int .i64 (H : Int), .slice (some ⟨b, o, none⟩) n c] 32)).alloc (by simp) (.cells #[.int .i64 z0, .int .i64 z1, .int .i64 z2, .bool z3, .bool z4, .bool z5] 37)).alloc (by simp; omega) (.cells #[.int .i64 0, .int .i64 0, .slice none 0 0] 32))
  have HK := Lib.hid (spec_GridOk_any (W : Int) (H : Int) (some ⟨b, o, none⟩) n c cs _ ((hr.below (Nat.le_refl _) hb0.out).more (by simp; omega)) hl (by omega))
  have X0 := Lib.hid (((BoxG.new w #[.int .i64 (W : Int), .int .i64 (H : Int), .slice (some ⟨b, o, none⟩) n c]).below ((Below.refl _ _).alloc (Nat.le_refl _) (.cells #[.int .i64 z0, .int .i64 z1, .int .i64 z2, .bool z3, .bool z4, .bool z5] 37)) (by simp)).below ((Below.refl _ _).alloc (Nat.le_refl _) (.cells #[.int .i64 0, .int .i64 0, .slice none 0 0] 32)) (by simp; omega))
  have xc := (BoxC.new (w.alloc (.cells #[.int .i64 (W : Int), .int .i64 (H : Int), .slice (some ⟨b, o, none⟩) n c] 32)) #[.int .i64 z0, .int .i64 z1, .int .i64 z2, .bool z3, .bool z4, .bool z5]).below ((Below.refl _ _).alloc (Nat.le_refl _) (.cells #[.int .i64 0, .int .i64 0, .slice none 0 0] 32)) (by simp)
  simp only [World.size_alloc] at xc
  have XC := Lib.hid xc
  have x1 := BoxG.new ((w.alloc (.cells #[.int .i64 (W : Int), .int .i64 (H : Int), .slice (some ⟨b, o, none⟩) n c] 32)).alloc (.cells #[.int .i64 z0, .int .i64 z1, .int .i64 z2, .bool z3, .bool z4, .bool z5] 37)) #[.int .i64 0, .int .i64 0, .slice none 0 0]
  simp only [World.size_alloc] at x1
  have X1 := Lib.hid x1
  have HO := Lib.hid ho
  have HZ := Lib.hid hz
  have S1 := Lib.hid s1
  have S2 := Lib.hid s2
  have S3 := Lib.hid s3
  have S4 := Lib.hid s4
  have HR := Lib.hid hr
  have HL := Lib.hid hl
  have HCP := Lib.hid (fun V (h : Below w.heap.size w V) => l07Copy_any (W : Int) (H : Int) (some ⟨b, o, none⟩) n c cs V (fun h => by cases h) ((HR.out.below (Nat.le_refl _) h).more h.size) HL.out (by omega))
  have k1 := of_smallB s1
  have k2 := of_smallB s2
  have k3 := of_smallB s3
  have k4 := of_smallB s4
  have HEND := Lib.hid (stepF_end (cs := cs) (W := W) (H := H) (x := x) (y := y) (w := ww) (h := wh) (z := ⟨z0, z1, z2, z3, z4, z5⟩) (n := n) HL.out hW1 hWH)
  have hn0 : 0 < n := by rw [hWH]; exact Nat.mul_pos hW1 hH1
  clear hWH ho hz hr hl x1 xc s1 s2 s3 s4
  go_enter Try.func11, Try.ntmps11
  go_wp2_with fail
  refine HK.out.mono ?_
  rintro e v1 ⟨rfl, hb1⟩
  rw [HO.out]
  have x0 := X0.out.below hb1 (by simp; omega)
  have xc := XC.out.below hb1 (by simp)
  have X1a := Lib.hid (X1.out.below hb1 (by simp))
  have X0a := Lib.hid x0
  have XCa := Lib.hid xc
  have HB1 := Lib.hid (hb0.out.trans (hb1.mono (by simp; omega)))
  have q0 := x0.cell 0
  have q0' := x0.cell 1
  have q0'' := x0.cell 2
  have c0 := xc.cell 0
  have c1 := xc.cell 1
  have c2 := xc.cell 2
  have c3_ := xc.cell 3
  have c4 := xc.cell 4
  have c5 := xc.cell 5
  have hz1 : w.heap.size + 2 < v1.heap.size := by have := hb1.size; simp at this; omega
  clear hb1 x0 xc X0 X1 XC
  go_wp2_with fail
  refine (spec_CellOk_any z0 z1 z2 z3 z4 z5 _).mono ?_
  rintro e v2 ⟨rfl, hb2⟩
  rw [HZ.out]
  clear q0 q0' q0'' c0 c1 c2 c3_ c4 c5
  have x0 := X0a.out.below hb2 (by omega)
  have xc := XCa.out.below hb2 (by omega)
  have X1b := Lib.hid (X1a.out.below hb2 (by omega))
  have X0b := Lib.hid x0
  have XCb := Lib.hid xc
  have HB2 := Lib.hid (HB1.out.trans (hb2.mono (by omega)))
  have q0 := x0.cell 0
  have q0' := x0.cell 1
  have q0'' := x0.cell 2
  have hz2 : w.heap.size + 2 < v2.heap.size := by have := hb2.size; omega
  clear hb2 x0 xc X0a X1a XCa
  go_wp2_with fail
  (with_reducible refine (l07Small_any x _).mono ?_)
  rintro e v ⟨rfl, rfl⟩
  rw [S1.out]
  go_wp2_with fail
  (with_reducible refine (l07Small_any y _).mono ?_)
  rintro e v ⟨rfl, rfl⟩
  rw [S2.out]
  go_wp2_with fail
  (with_reducible refine (l07Small_any ww _).mono ?_)
  rintro e v ⟨rfl, rfl⟩
  rw [S3.out]
  go_wp2_with fail
  (with_reducible refine (l07Small_any wh _).mono ?_)
  rintro e v ⟨rfl, rfl⟩
  rw [S4.out]
  go_wp2_with fail
  refine (HCP.out _ HB2.out).mono ?_
  rintro e v3 ⟨A3, c3, rfl, ho3, hb3⟩
  obtain ⟨g, rfl⟩ := ho3.addr (by omega)
  have hcap := ho3.cap
  clear q0 q0' q0''
  have hg := ho3.blk g rfl
  have HB3 := Lib.hid (HB2.out.trans (hb3.mono (by omega)))
  have hz3 : w.heap.size + 2 < v3.heap.size := by have := hb3.size; omega
  have hal := (Below.refl v3.heap.size v3).alloc (Nat.le_refl _) (.cells #[.int .i64 (W : Int), .int .i64 (H : Int), .slice (some ⟨g, 0, none⟩) n c3] 32)
  have X1c := Lib.hid ((X1b.out.below hb3 (by omega)).below hal (by omega))
  have X0c := Lib.hid ((X0b.out.below hb3 (by omega)).below hal (by omega))
  have XCc := Lib.hid ((XCb.out.below hb3 (by omega)).below hal (by omega))
  have X9 := Lib.hid (BoxG.new v3 #[.int .i64 (W : Int), .int .i64 (H : Int), .slice (some ⟨g, 0, none⟩) n c3])
  have HO3 := Lib.hid ((ho3.below (Nat.le_refl _) hal).more (base' := w.heap.size + 3) (by omega))
  have HB3a := Lib.hid (HB3.out.trans (hal.mono (by omega)))
  have hgw : w.heap.size + 3 ≤ g := by omega
  have hgn9 : g ≠ v3.heap.size := by omega
  have HG9 := Lib.hid (show g < v3.heap.size from hg.2)
  clear hal hb3 ho3 X1b X0b XCb HB3 hg
  go_wp2_with fail
  go_loopw [51] (fun s wr => ∃ k : Nat, k ≤ n ∧ s = .int .i64 (k : Int) ∧ BoxG wr w.heap.size #[.int .i64 (W : Int), .int .i64 (H : Int), .slice (some ⟨b, o, none⟩) n c] ∧ BoxC wr (w.heap.size + 1) #[.int .i64 z0, .int .i64 z1, .int .i64 z2, .bool z3, .bool z4, .bool z5] ∧ BoxG wr (w.heap.size + 2) #[.int .i64 0, .int .i64 0, .slice none 0 0] ∧ BoxG wr v3.heap.size #[.int .i64 (W : Int), .int .i64 (H : Int), .slice (some ⟨g, 0, none⟩) n c3] ∧ OwnC wr (w.heap.size + 3) (some ⟨g, 0, none⟩) n c3 (stepF cs W x y ww wh ⟨z0, z1, z2, z3, z4, z5⟩ k) ∧ Below w.heap.size w wr) (fun s _ => n - (intOf s).toNat)
  case atStart => exact ⟨0, Nat.zero_le _, rfl, X0c.out, XCc.out, X1c.out, X9.out, by rw [stepF_zero]; exact HO3.out, HB3a.out⟩
  case round =>
    clear X0c X1c XCc X9 HO3 HB3a
    obtain ⟨k, hkn, rfl, xa, xc, x1, x9, ho, hb⟩ := hrel
    by_cases hlt : k < n
    · have la := xa.lt
      have l9 := x9.lt
      have lc := xc.lt
      have a0 : wr.cell? ⟨w.heap.size, 0, none⟩ = some (.int .i64 (W : Int)) := xa.cell 0
      have q9 : wr.cell? ⟨v3.heap.size, 2, none⟩ = some (.slice (some ⟨g, 0, none⟩) n c3) := x9.cell 2
      have m0 : wr.cell? ⟨w.heap.size + 1, 0, none⟩ = some (.int .i64 z0) := xc.cell 0
      have m1 : wr.cell? ⟨w.heap.size + 1, 1, none⟩ = some (.int .i64 z1) := xc.cell 1
      have m2 : wr.cell? ⟨w.heap.size + 1, 2, none⟩ = some (.int .i64 z2) := xc.cell 2
      have m3 : wr.cell? ⟨w.heap.size + 1, 3, none⟩ = some (.bool z3) := xc.cell 3
      have m4 : wr.cell? ⟨w.heap.size + 1, 4, none⟩ = some (.bool z4) := xc.cell 4
      have m5 : wr.cell? ⟨w.heap.size + 1, 5, none⟩ = some (.bool z5) := xc.cell 5
      obtain ⟨mx, hmx⟩ : ∃ m, m = k % W := ⟨_, rfl⟩
      obtain ⟨my, hmy⟩ : ∃ m, m = k / W := ⟨_, rfl⟩
      have E1 := Lib.hid (show Int.tmod (k : Int) (W : Int) = (mx : Int) by rw [hmx]; rfl)
      have E2 := Lib.hid (show Int.tdiv (k : Int) (W : Int) = (my : Int) by rw [hmy]; rfl)
      have hmxb : mx < 120 := by rw [hmx]; exact Nat.lt_of_lt_of_le (Nat.mod_lt _ hW1) hW
      have hmyb : my ≤ 1048576 := by rw [hmy]; exact Nat.le_trans (Nat.div_le_self _ _) (by omega)
      have HIF := Lib.hid (fun (h : ¬ (x ≤ (mx : Int) ∧ (mx : Int) < x + ww ∧ y ≤ (my : Int) ∧ (my : Int) < y + wh)) => inF_f (W := W) (x := x) (y := y) (w := ww) (h := wh) (k := k) (by rw [← hmx, ← hmy]; exact h))
      have HIT := Lib.hid (fun (h1 : x ≤ (mx : Int)) (h2 : (mx : Int) < x + ww) (h3 : y ≤ (my : Int)) (h4 : (my : Int) < y + wh) => inF_t (W := W) (x := x) (y := y) (w := ww) (h := wh) (k := k) (by rw [← hmx]; exact h1) (by rw [← hmx]; exact h2) (by rw [← hmy]; exact h3) (by rw [← hmy]; exact h4))
      have XA := Lib.hid xa
      have XC := Lib.hid xc
      have XB := Lib.hid x1
      have X9 := Lib.hid x9
      have HOw := Lib.hid ho
      have HBw := Lib.hid hb
      clear xa xc x1 x9 ho hb hmx hmy
      have hW0 : (W : Int) ≠ 0 := by omega
      have e1 := E1.out
      have e2 := E2.out
      by_cases b1 : x ≤ (mx : Int)
      · by_cases b2 : (mx : Int) < x + ww
        · by_cases b3 : y ≤ (my : Int)
          · by_cases b4 : (my : Int) < y + wh
            · have hll : (stepF cs W x y ww wh ⟨z0, z1, z2, z3, z4, z5⟩ k).length = n := by rw [stepF_len]; exact HL.out
              have HN := Lib.hid (stepF_in (cs := cs) (z := ⟨z0, z1, z2, z3, z4, z5⟩) (by rw [HL.out]; exact hlt) (HIT.out b1 b2 b3 b4))
              have HON := Lib.hid (show OwnC ((((((wr.setCell ⟨g, k * 6, none⟩ (.int .i64 z0)).setCell ⟨g, k * 6 + 1, none⟩ (.int .i64 z1)).setCell ⟨g, k * 6 + 2, none⟩ (.int .i64 z2)).setCell ⟨g, k * 6 + 3, none⟩ (.bool z3)).setCell ⟨g, k * 6 + 4, none⟩ (.bool z4)).setCell ⟨g, k * 6 + 5, none⟩ (.bool z5)) (w.heap.size + 3) (some ⟨g, 0, none⟩) n c3 (stepF cs W x y ww wh ⟨z0, z1, z2, z3, z4, z5⟩ (k + 1)) by
                have h := own_setC HOw.out k (by rw [hll]; exact hlt) ⟨z0, z1, z2, z3, z4, z5⟩
                rw [HN.out] at h
                exact h)
              obtain ⟨u0, hu0⟩ := own_there HOw.out (k * 6) (by omega)
              obtain ⟨u1, hu1⟩ := own_there HOw.out (k * 6 + 1) (by omega)
              obtain ⟨u2, hu2⟩ := own_there HOw.out (k * 6 + 2) (by omega)
              obtain ⟨u3, hu3⟩ := own_there HOw.out (k * 6 + 3) (by omega)
              obtain ⟨u4, hu4⟩ := own_there HOw.out (k * 6 + 4) (by omega)
              obtain ⟨u5, hu5⟩ := own_there HOw.out (k * 6 + 5) (by omega)
              have f0 := World.ownsRow.frozenAt (h := HOw.out) (k * 6)
              have f1 := World.ownsRow.frozenAt (h := HOw.out) (k * 6 + 1)
              have f2 := World.ownsRow.frozenAt (h := HOw.out) (k * 6 + 2)
              have f3 := World.ownsRow.frozenAt (h := HOw.out) (k * 6 + 3)
              have f4 := World.ownsRow.frozenAt (h := HOw.out) (k * 6 + 4)
              have f5 := World.ownsRow.frozenAt (h := HOw.out) (k * 6 + 5)
              have XA2 := Lib.hid (XA.out.only6 (g := g) (by omega) (k * 6) (k * 6 + 1) (k * 6 + 2) (k * 6 + 3) (k * 6 + 4) (k * 6 + 5) (.int .i64 z0) (.int .i64 z1) (.int .i64 z2) (.bool z3) (.bool z4) (.bool z5))
              have XB2 := Lib.hid (XB.out.only6 (g := g) (by omega) (k * 6) (k * 6 + 1) (k * 6 + 2) (k * 6 + 3) (k * 6 + 4) (k * 6 + 5) (.int .i64 z0) (.int .i64 z1) (.int .i64 z2) (.bool z3) (.bool z4) (.bool z5))
              have X92 := Lib.hid (X9.out.only6 (g := g) (by omega) (k * 6) (k * 6 + 1) (k * 6 + 2) (k * 6 + 3) (k * 6 + 4) (k * 6 + 5) (.int .i64 z0) (.int .i64 z1) (.int .i64 z2) (.bool z3) (.bool z4) (.bool z5))
              have XC2 := Lib.hid (XC.out.only (only6b _ g (k * 6) (k * 6 + 1) (k * 6 + 2) (k * 6 + 3) (k * 6 + 4) (k * 6 + 5) (.int .i64 z0) (.int .i64 z1) (.int .i64 z2) (.bool z3) (.bool z4) (.bool z5)) (show ¬ (w.heap.size + 1 = g) by omega))
              have HB2 := Lib.hid (below6 HBw.out (show w.heap.size ≤ g by omega) (k * 6) (k * 6 + 1) (k * 6 + 2) (k * 6 + 3) (k * 6 + 4) (k * 6 + 5) (.int .i64 z0) (.int .i64 z1) (.int .i64 z2) (.bool z3) (.bool z4) (.bool z5))
              have i0 : (0 : Int) ≤ (k : Int) := by omega
              have i1 : (k : Int) < (n : Int) := by omega
              go_wp2_with fail
              exact ⟨⟨k + 1, by omega, by go_num, XA2.out, XC2.out, XB2.out, X92.out, HON.out, HB2.out⟩, by simp [intOf]; omega⟩
            · have HN := Lib.hid (stepF_out (cs := cs) (z := ⟨z0, z1, z2, z3, z4, z5⟩) (HIF.out (by omega)))
              go_wp2_with fail
              exact ⟨⟨k + 1, by omega, by go_num, XA.out, XC.out, XB.out, X9.out, by rw [← HN.out]; exact HOw.out, HBw.out⟩, by simp [intOf]; omega⟩
          · have HN := Lib.hid (stepF_out (cs := cs) (z := ⟨z0, z1, z2, z3, z4, z5⟩) (HIF.out (by omega)))
            go_wp2_with fail
            exact ⟨⟨k + 1, by omega, by go_num, XA.out, XC.out, XB.out, X9.out, by rw [← HN.out]; exact HOw.out, HBw.out⟩, by simp [intOf]; omega⟩
        · have HN := Lib.hid (stepF_out (cs := cs) (z := ⟨z0, z1, z2, z3, z4, z5⟩) (HIF.out (by omega)))
          go_wp2_with fail
          exact ⟨⟨k + 1, by omega, by go_num, XA.out, XC.out, XB.out, X9.out, by rw [← HN.out]; exact HOw.out, HBw.out⟩, by simp [intOf]; omega⟩
      · have HN := Lib.hid (stepF_out (cs := cs) (z := ⟨z0, z1, z2, z3, z4, z5⟩) (HIF.out (by omega)))
        go_wp2_with fail
        exact ⟨⟨k + 1, by omega, by go_num, XA.out, XC.out, XB.out, X9.out, by rw [← HN.out]; exact HOw.out, HBw.out⟩, by simp [intOf]; omega⟩
    · obtain rfl : n = k := by omega
      have HOw := Lib.hid (show OwnC wr (w.heap.size + 3) (some ⟨g, 0, none⟩) n c3 (mixL cs W x y ww wh ⟨z0, z1, z2, z3, z4, z5⟩ H) by rw [← HEND.out]; exact ho)
      have HBw := Lib.hid hb
      have a0 : wr.cell? ⟨w.heap.size, 0, none⟩ = some (.int .i64 (W : Int)) := xa.cell 0
      have q0 := x9.cell 0
      have q0' := x9.cell 1
      have q0'' := x9.cell 2
      have p0 := x1.cell 0
      have p1 := x1.cell 1
      have p2 := x1.cell 2
      have g0 := x1.free 0
      have g1 := x1.free 1
      have g2 := x1.free 2
      clear x1 x9 xc xa ho hb
      go_wp2_with fail
      refine bodyPost_ret (v := .agg #[.int .i64 (W : Int), .int .i64 (H : Int), .slice (some ⟨g, 0, none⟩) n c3]) (by simp [results, Try.results11, go_sem, p0, p1, p2]) rfl (ansT (by rw [mixL_len]; exact HL.out) ?_ ?_)
      · exact (((HOw.out.setBox (w.heap.size + 2) 0 _ (by omega)).setBox (w.heap.size + 2) 1 _ (by omega)).setBox (w.heap.size + 2) 2 _ (by omega)).more (by omega)
      · exact ((HBw.out.setCell (by simp; omega) _).setCell (by simp; omega) _).setCell (by simp; omega) _

end Go.Proofs.Ythlpchojlddnbaa.Gr
namespace Go.Proofs.Ythlpchojlddnbaa.Gr
open Go.RowKit Go.Proofs.Ythlpchojlddnbaa.Bytes Go.Proofs.Ythlpchojlddnbaa.Rows_ Go.Proofs.Ythlpchojlddnbaa.RowK
set_option linter.unusedVariables false
theorem fillT_no {gw gh x y w h : Int} {cs : List CellD} {z : CellD} (hg : goodF gw gh cs x y w h z = false) : fillT gw gh cs x y w h z = zeroT := by unfold fillT; rw [hg]; rfl
theorem fillT_yes {W H : Nat} {x y w h : Int} {cs : List CellD} {z : CellD} (hg : goodF (W : Int) (H : Int) cs x y w h z = true) : fillT (W : Int) (H : Int) cs x y w h z = ((W : Int), (H : Int), mixL cs W x y w h z H) := by unfold fillT; rw [hg]; rfl
theorem fillT_len {gw gh x y w h : Int} {cs : List CellD} {z : CellD} {n : Nat} (hl : cs.length = n) (hn : n ≤ 1048576) : (fillT gw gh cs x y w h z).2.2.length ≤ 1048576 := by
  cases hg : goodF gw gh cs x y w h z
  · rw [fillT_no hg]; simp [zeroT]
  · unfold fillT; rw [hg]
    show (mixL cs _ _ _ _ _ _ _).length ≤ 1048576
    rw [mixL_len]; omega
theorem goodF_t {gw gh x y w h : Int} {cs : List CellD} {z : CellD} (hg : goodF gw gh cs x y w h z = true) : okG gw gh cs = true ∧ okC z = true ∧ smallB x = true ∧ smallB y = true ∧ smallB w = true ∧ smallB h = true := by
  unfold goodF at hg
  simp only [Bool.and_eq_true] at hg
  exact hg

set_option maxRecDepth 100000 in
set_option maxHeartbeats 6400000 in
theorem spec_GridFill_no (gw gh : Int) (A : Option Addr) (n c : Nat) (cs : List CellD) (x y ww wh : Int) (z0 z1 z2 : Int) (z3 z4 z5 : Bool) (w : World) (hr : RdC w w.heap.size A cs) (hl : cs.length = n) (hn : n ≤ 1048576) (hno : goodF gw gh cs x y ww wh ⟨z0, z1, z2, z3, z4, z5⟩ = false) :
    Calls Try.prog 11 #[.agg #[.int .i64 gw, .int .i64 gh, .slice A n c], .int .i64 x, .int .i64 y, .int .i64 ww, .int .i64 wh, .agg #[.int .i64 z0, .int .i64 z1, .int .i64 z2, .bool z3, .bool z4, .bool z5]] w (AnsT w zeroT) := by
  have hb0 := Lib.hid ((((Below.refl w.heap.size w).alloc (Nat.le_refl _) (.cells #[.int .i64 gw, .int .i64 gh, .slice A n c] 32)).alloc (by simp) (.cells #[.int .i64 z0, .int .i64 z1, .int .i64 z2, .bool z3, .bool z4, .bool z5] 37)).alloc (by simp; omega) (.cells #[.int .i64 0, .int .i64 0, .slice none 0 0] 32))
  have HK := Lib.hid (spec_GridOk_any gw gh A n c cs _ ((hr.below (Nat.le_refl _) hb0.out).more (by simp; omega)) hl (by omega))
  have xc := (BoxC.new (w.alloc (.cells #[.int .i64 gw, .int .i64 gh, .slice A n c] 32)) #[.int .i64 z0, .int .i64 z1, .int .i64 z2, .bool z3, .bool z4, .bool z5]).below ((Below.refl _ _).alloc (Nat.le_refl _) (.cells #[.int .i64 0, .int .i64 0, .slice none 0 0] 32)) (by simp)
  simp only [World.size_alloc] at xc
  have XC := Lib.hid xc
  have x1 := BoxG.new ((w.alloc (.cells #[.int .i64 gw, .int .i64 gh, .slice A n c] 32)).alloc (.cells #[.int .i64 z0, .int .i64 z1, .int .i64 z2, .bool z3, .bool z4, .bool z5] 37)) #[.int .i64 0, .int .i64 0, .slice none 0 0]
  simp only [World.size_alloc] at x1
  have X1 := Lib.hid x1
  unfold goodF at hno
  clear hr hl x1 xc
  cases ho : okG gw gh cs
  · have HO := Lib.hid ho
    clear ho hno
    go_enter Try.func11, Try.ntmps11
    go_wp2_with fail
    refine HK.out.mono ?_
    rintro e v1 ⟨rfl, hb1⟩
    rw [HO.out]
    have xc := XC.out.below hb1 (by simp)
    have X1a := Lib.hid (X1.out.below hb1 (by simp))
    have HB1 := Lib.hid (hb0.out.trans (hb1.mono (by simp; omega)))
    have hz1 : w.heap.size + 2 < v1.heap.size := by have := hb1.size; simp at this; omega
    clear hb1 X1 XC
    have p0 := X1a.out.cell 0
    have p1 := X1a.out.cell 1
    have p2 := X1a.out.cell 2
    have g0 := X1a.out.free 0
    have g1 := X1a.out.free 1
    have g2 := X1a.out.free 2
    go_wp2_with fail
    refine bodyPost_ret (v := .agg #[.int .i64 0, .int .i64 0, .slice none 0 0]) (by simp [results, Try.results11, go_sem, p0, p1, p2]) rfl (ansZero ?_)
    exact ((HB1.out.setCell (by simp; omega) _).setCell (by simp; omega) _).setCell (by simp; omega) _
  · rw [ho, Bool.true_and] at hno
    have HO := Lib.hid ho
    clear ho
    cases hz : (Rune.showB z0 && Attr.okA z1 z2)
    · have HZ := Lib.hid hz
      clear hz hno
      go_enter Try.func11, Try.ntmps11
      go_wp2_with fail
      refine HK.out.mono ?_
      rintro e v1 ⟨rfl, hb1⟩
      rw [HO.out]
      have xc := XC.out.below hb1 (by simp)
      have X1a := Lib.hid (X1.out.below hb1 (by simp))
      have HB1 := Lib.hid (hb0.out.trans (hb1.mono (by simp; omega)))
      have hz1 : w.heap.size + 2 < v1.heap.size := by have := hb1.size; simp at this; omega
      clear hb1 X1 XC
      have c0_ := xc.cell 0
      have c1_ := xc.cell 1
      have c2_ := xc.cell 2
      have c3_ := xc.cell 3
      have c4_ := xc.cell 4
      have c5_ := xc.cell 5
      clear xc
      go_wp2_with fail
      refine (spec_CellOk_any z0 z1 z2 z3 z4 z5 _).mono ?_
      rintro e v2 ⟨rfl, hb2⟩
      rw [HZ.out]
      clear c0_ c1_ c2_ c3_ c4_ c5_
      have X1b := Lib.hid (X1a.out.below hb2 (by omega))
      have HB2 := Lib.hid (HB1.out.trans (hb2.mono (by omega)))
      have hz2 : w.heap.size + 2 < v2.heap.size := by have := hb2.size; omega
      clear hb2 X1a
      have p0 := X1b.out.cell 0
      have p1 := X1b.out.cell 1
      have p2 := X1b.out.cell 2
      have g0 := X1b.out.free 0
      have g1 := X1b.out.free 1
      have g2 := X1b.out.free 2
      go_wp2_with fail
      refine bodyPost_ret (v := .agg #[.int .i64 0, .int .i64 0, .slice none 0 0]) (by simp [results, Try.results11, go_sem, p0, p1, p2]) rfl (ansZero ?_)
      exact ((HB2.out.setCell (by simp; omega) _).setCell (by simp; omega) _).setCell (by simp; omega) _
    · rw [show okC ⟨z0, z1, z2, z3, z4, z5⟩ = true from hz, Bool.true_and] at hno
      have HZ := Lib.hid hz
      clear hz
      cases s1 : smallB x
      · have S1 := Lib.hid s1
        clear s1 hno
        go_enter Try.func11, Try.ntmps11
        go_wp2_with fail
        refine HK.out.mono ?_
        rintro e v1 ⟨rfl, hb1⟩
        rw [HO.out]
        have xc := XC.out.below hb1 (by simp)
        have X1a := Lib.hid (X1.out.below hb1 (by simp))
        have HB1 := Lib.hid (hb0.out.trans (hb1.mono (by simp; omega)))
        have hz1 : w.heap.size + 2 < v1.heap.size := by have := hb1.size; simp at this; omega
        clear hb1 X1 XC
        have c0_ := xc.cell 0
        have c1_ := xc.cell 1
        have c2_ := xc.cell 2
        have c3_ := xc.cell 3
        have c4_ := xc.cell 4
        have c5_ := xc.cell 5
        clear xc
        go_wp2_with fail
        refine (spec_CellOk_any z0 z1 z2 z3 z4 z5 _).mono ?_
        rintro e v2 ⟨rfl, hb2⟩
        rw [HZ.out]
        clear c0_ c1_ c2_ c3_ c4_ c5_
        have X1b := Lib.hid (X1a.out.below hb2 (by omega))
        have HB2 := Lib.hid (HB1.out.trans (hb2.mono (by omega)))
        have hz2 : w.heap.size + 2 < v2.heap.size := by have := hb2.size; omega
        clear hb2 X1a
        go_wp2_with fail
        (with_reducible refine (l07Small_any x _).mono ?_)
        rintro e v ⟨rfl, rfl⟩
        rw [S1.out]
        have p0 := X1b.out.cell 0
        have p1 := X1b.out.cell 1
        have p2 := X1b.out.cell 2
        have g0 := X1b.out.free 0
        have g1 := X1b.out.free 1
        have g2 := X1b.out.free 2
        go_wp2_with fail
        refine bodyPost_ret (v := .agg #[.int .i64 0, .int .i64 0, .slice none 0 0]) (by simp [results, Try.results11, go_sem, p0, p1, p2]) rfl (ansZero ?_)
        exact ((HB2.out.setCell (by simp; omega) _).setCell (by simp; omega) _).setCell (by simp; omega) _
      · rw [s1, Bool.true_and] at hno
        have S1 := Lib.hid s1
        clear s1
        cases s2 : smallB y
        · have S2 := Lib.hid s2
          clear s2 hno
          go_enter Try.func11, Try.ntmps11
          go_wp2_with fail
          refine HK.out.mono ?_
          rintro e v1 ⟨rfl, hb1⟩
          rw [HO.out]
          have xc := XC.out.below hb1 (by simp)
          have X1a := Lib.hid (X1.out.below hb1 (by simp))
          have HB1 := Lib.hid (hb0.out.trans (hb1.mono (by simp; omega)))
          have hz1 : w.heap.size + 2 < v1.heap.size := by have := hb1.size; simp at this; omega
          clear hb1 X1 XC
          have c0_ := xc.cell 0
          have c1_ := xc.cell 1
          have c2_ := xc.cell 2
          have c3_ := xc.cell 3
          have c4_ := xc.cell 4
          have c5_ := xc.cell 5
          clear xc
          go_wp2_with fail
          refine (spec_CellOk_any z0 z1 z2 z3 z4 z5 _).mono ?_
          rintro e v2 ⟨rfl, hb2⟩
          rw [HZ.out]
          clear c0_ c1_ c2_ c3_ c4_ c5_
          have X1b := Lib.hid (X1a.out.below hb2 (by omega))
          have HB2 := Lib.hid (HB1.out.trans (hb2.mono (by omega)))
          have hz2 : w.heap.size + 2 < v2.heap.size := by have := hb2.size; omega
          clear hb2 X1a
          go_wp2_with fail
          (with_reducible refine (l07Small_any x _).mono ?_)
          rintro e v ⟨rfl, rfl⟩
          rw [S1.out]
          go_wp2_with fail
          (with_reducible refine (l07Small_any y _).mono ?_)
          rintro e v ⟨rfl, rfl⟩
          rw [S2.out]
          have p0 := X1b.out.cell 0
          have p1 := X1b.out.cell 1
          have p2 := X1b.out.cell 2
          have g0 := X1b.out.free 0
          have g1 := X1b.out.free 1
          have g2 := X1b.out.free 2
          go_wp2_with fail
          refine bodyPost_ret (v := .agg #[.int .i64 0, .int .i64 0, .slice none 0 0]) (by simp [results, Try.results11, go_sem, p0, p1, p2]) rfl (ansZero ?_)
          exact ((HB2.out.setCell (by simp; omega) _).setCell (by simp; omega) _).setCell (by simp; omega) _
        · rw [s2, Bool.true_and] at hno
          have S2 := Lib.hid s2
          clear s2
          cases s3 : smallB ww
          · have S3 := Lib.hid s3
            clear s3 hno
            go_enter Try.func11, Try.ntmps11
            go_wp2_with fail
            refine HK.out.mono ?_
            rintro e v1 ⟨rfl, hb1⟩
            rw [HO.out]
            have xc := XC.out.below hb1 (by simp)
            have X1a := Lib.hid (X1.out.below hb1 (by simp))
            have HB1 := Lib.hid (hb0.out.trans (hb1.mono (by simp; omega)))
            have hz1 : w.heap.size + 2 < v1.heap.size := by have := hb1.size; simp at this; omega
            clear hb1 X1 XC
            have c0_ := xc.cell 0
            have c1_ := xc.cell 1
            have c2_ := xc.cell 2
            have c3_ := xc.cell 3
            have c4_ := xc.cell 4
            have c5_ := xc.cell 5
            clear xc
            go_wp2_with fail
            refine (spec_CellOk_any z0 z1 z2 z3 z4 z5 _).mono ?_
            rintro e v2 ⟨rfl, hb2⟩
            rw [HZ.out]
            clear c0_ c1_ c2_ c3_ c4_ c5_
            have X1b := Lib.hid (X1a.out.below hb2 (by omega))
            have HB2 := Lib.hid (HB1.out.trans (hb2.mono (by omega)))
            have hz2 : w.heap.size + 2 < v2.heap.size := by have := hb2.size; omega
            clear hb2 X1a
            go_wp2_with fail
            (with_reducible refine (l07Small_any x _).mono ?_)
            rintro e v ⟨rfl, rfl⟩
            rw [S1.out]
            go_wp2_with fail
            (with_reducible refine (l07Small_any y _).mono ?_)
            rintro e v ⟨rfl, rfl⟩
            rw [S2.out]
            go_wp2_with fail
            (with_reducible refine (l07Small_any ww _).mono ?_)
            rintro e v ⟨rfl, rfl⟩
            rw [S3.out]
            have p0 := X1b.out.cell 0
            have p1 := X1b.out.cell 1
            have p2 := X1b.out.cell 2
            have g0 := X1b.out.free 0
            have g1 := X1b.out.free 1
            have g2 := X1b.out.free 2
            go_wp2_with fail
            refine bodyPost_ret (v := .agg #[.int .i64 0, .int .i64 0, .slice none 0 0]) (by simp [results, Try.results11, go_sem, p0, p1, p2]) rfl (ansZero ?_)
            exact ((HB2.out.setCell (by simp; omega) _).setCell (by simp; omega) _).setCell (by simp; omega) _
          · rw [s3, Bool.true_and] at hno
            have S3 := Lib.hid s3
            clear s3
            cases s4 : smallB wh
            · have S4 := Lib.hid s4
              clear s4 hno
              go_enter Try.func11, Try.ntmps11
              go_wp2_with fail
              refine HK.out.mono ?_
              rintro e v1 ⟨rfl, hb1⟩
              rw [HO.out]
              have xc := XC.out.below hb1 (by simp)
              have X1a := Lib.hid (X1.out.below hb1 (by simp))
              have HB1 := Lib.hid (hb0.out.trans (hb1.mono (by simp; omega)))
              have hz1 : w.heap.size + 2 < v1.heap.size := by have := hb1.size; simp at this; omega
              clear hb1 X1 XC
              have c0_ := xc.cell 0
              have c1_ := xc.cell 1
              have c2_ := xc.cell 2
              have c3_ := xc.cell 3
              have c4_ := xc.cell 4
              have c5_ := xc.cell 5
              clear xc
              go_wp2_with fail
              refine (spec_CellOk_any z0 z1 z2 z3 z4 z5 _).mono ?_
              rintro e v2 ⟨rfl, hb2⟩
              rw [HZ.out]
              clear c0_ c1_ c2_ c3_ c4_ c5_
              have X1b := Lib.hid (X1a.out.below hb2 (by omega))
              have HB2 := Lib.hid (HB1.out.trans (hb2.mono (by omega)))
              have hz2 : w.heap.size + 2 < v2.heap.size := by have := hb2.size; omega
              clear hb2 X1a
              go_wp2_with fail
              (with_reducible refine (l07Small_any x _).mono ?_)
              rintro e v ⟨rfl, rfl⟩
              rw [S1.out]
              go_wp2_with fail
              (with_reducible refine (l07Small_any y _).mono ?_)
              rintro e v ⟨rfl, rfl⟩
              rw [S2.out]
              go_wp2_with fail
              (with_reducible refine (l07Small_any ww _).mono ?_)
              rintro e v ⟨rfl, rfl⟩
              rw [S3.out]
              go_wp2_with fail
              (with_reducible refine (l07Small_any wh _).mono ?_)
              rintro e v ⟨rfl, rfl⟩
              rw [S4.out]
              have p0 := X1b.out.cell 0
              have p1 := X1b.out.cell 1
              have p2 := X1b.out.cell 2
              have g0 := X1b.out.free 0
              have g1 := X1b.out.free 1
              have g2 := X1b.out.free 2
              go_wp2_with fail
              refine bodyPost_ret (v := .agg #[.int .i64 0, .int .i64 0, .slice none 0 0]) (by simp [results, Try.results11, go_sem, p0, p1, p2]) rfl (ansZero ?_)
              exact ((HB2.out.setCell (by simp; omega) _).setCell (by simp; omega) _).setCell (by simp; omega) _
            · rw [s4] at hno
              cases hno

theorem spec_GridFill_own (gw gh : Int) {A : Option Addr} {n c : Nat} {cs : List CellD} (x y ww wh : Int) (z0 z1 z2 : Int) (z3 z4 z5 : Bool) {W : World} {B : Nat} (h : OwnC W B A n c cs) (hn : n ≤ 1048576) :
    Calls Try.prog 11 #[.agg #[.int .i64 gw, .int .i64 gh, .slice A n c], .int .i64 x, .int .i64 y, .int .i64 ww, .int .i64 wh, .agg #[.int .i64 z0, .int .i64 z1, .int .i64 z2, .bool z3, .bool z4, .bool z5]] W (AnsT W (fillT gw gh cs x y ww wh ⟨z0, z1, z2, z3, z4, z5⟩)) := by
  cases hg : goodF gw gh cs x y ww wh ⟨z0, z1, z2, z3, z4, z5⟩
  · rw [fillT_no hg]
    exact spec_GridFill_no gw gh A n c cs x y ww wh z0 z1 z2 z3 z4 z5 W h.rd h.len hn hg
  · obtain ⟨h1, hz, s1, s2, s3, s4⟩ := goodF_t hg
    obtain ⟨Wn, Hn, rfl, rfl, w1, w2, w3, w4, w5, hl⟩ := sides h1
    have hlen := h.len
    have hpos : 0 < Wn * Hn := Nat.mul_pos w1 w3
    obtain ⟨g, rfl⟩ := h.addr (by omega)
    rw [fillT_yes hg]
    exact spec_GridFill_yes Wn Hn g 0 n c cs x y ww wh z0 z1 z2 z3 z4 z5 W h.rd h.len hn h1 hz s1 s2 s3 s4 w1 w2 w3 w4 (by omega)
end Go.Proofs.Ythlpchojlddnbaa.Gr

