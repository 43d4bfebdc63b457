/- GridFill over a grid of the call's own: the grid that both answer. -/
import Derived.Test.YtknopmbjbokpaaaGrFillS
import Derived.Test.YtknopmbjbokpaaaGrShiftO
namespace Go.Proofs.Ytknopmbjbokpaaa.Gr
open Go.RowKit Go.Proofs.Ytknopmbjbokpaaa.Bytes Go.Proofs.Ytknopmbjbokpaaa.Rows_ Go.Proofs.Ytknopmbjbokpaaa.RowK
set_option linter.unusedVariables false
theorem fillT_no {gw gh x y w h : Int} {cs : List CellD} {z : CellD} (hg : goodF gw gh cs x y w h z = false) : fillT gw gh cs x y w h z = zeroT := by unfold fillT; rw [hg]; rfl
theorem fillT_yes {W H : Nat} {x y w h : Int} {cs : List CellD} {z : CellD} (hg : goodF (W : Int) (H : Int) cs x y w h z = true) : fillT (W : Int) (H : Int) cs x y w h z = ((W : Int), (H : Int), mixL cs W x y w h z H) := by unfold fillT; rw [hg]; rfl
theorem fillT_len {gw gh x y w h : Int} {cs : List CellD} {z : CellD} {n : Nat} (hl : cs.length = n) (hn : n ≤ 1048576) : (fillT gw gh cs x y w h z).2.2.length ≤ 1048576 := by
  cases hg : goodF gw gh cs x y w h z
  · rw [fillT_no hg]; simp [zeroT]
  · unfold fillT; rw [hg]
    show (mixL cs _ _ _ _ _ _ _).length ≤ 1048576
    rw [mixL_len]; omega
theorem goodF_t {gw gh x y w h : Int} {cs : List CellD} {z : CellD} (hg : goodF gw gh cs x y w h z = true) : okG gw gh cs = true ∧ okC z = true ∧ smallB x = true ∧ smallB y = true ∧ smallB w = true ∧ smallB h = true := by
  unfold goodF at hg
  simp only [Bool.and_eq_true] at hg
  exact hg

set_option maxRecDepth 100000 in
set_option maxHeartbeats 6400000 in
theorem impl_GridFill_no (gw gh : Int) (A : Option Addr) (n c : Nat) (cs : List CellD) (x y ww wh : Int) (z0 z1 z2 : Int) (z3 z4 z5 : Bool) (w : World) (hr : RdC w w.heap.size A cs) (hl : cs.length = n) (hn : n ≤ 1048576) (hno : goodF gw gh cs x y ww wh ⟨z0, z1, z2, z3, z4, z5⟩ = false) :
    Calls Try.prog 36 #[.agg #[.int .i64 gw, .int .i64 gh, .slice A n c], .int .i64 x, .int .i64 y, .int .i64 ww, .int .i64 wh, .agg #[.int .i64 z0, .int .i64 z1, .int .i64 z2, .bool z3, .bool z4, .bool z5]] w (AnsT w zeroT) := by
  have hb0 := Lib.hid ((((Below.refl w.heap.size w).alloc (Nat.le_refl _) (.cells #[.int .i64 gw, .int .i64 gh, .slice A n c] 25)).alloc (by simp) (.cells #[.int .i64 z0, .int .i64 z1, .int .i64 z2, .bool z3, .bool z4, .bool z5] 37)).alloc (by simp; omega) (.cells #[.int .i64 0, .int .i64 0, .slice none 0 0] 25))
  have HK := Lib.hid (impl_GridOk_any gw gh A n c cs _ ((hr.below (Nat.le_refl _) hb0.out).more (by simp; omega)) hl (by omega))
  have xc := (BoxC.new (w.alloc (.cells #[.int .i64 gw, .int .i64 gh, .slice A n c] 25)) #[.int .i64 z0, .int .i64 z1, .int .i64 z2, .bool z3, .bool z4, .bool z5]).below ((Below.refl _ _).alloc (Nat.le_refl _) (.cells #[.int .i64 0, .int .i64 0, .slice none 0 0] 25)) (by simp)
  simp only [World.size_alloc] at xc
  have XC := Lib.hid xc
  have x1 := BoxG.new ((w.alloc (.cells #[.int .i64 gw, .int .i64 gh, .slice A n c] 25)).alloc (.cells #[.int .i64 z0, .int .i64 z1, .int .i64 z2, .bool z3, .bool z4, .bool z5] 37)) #[.int .i64 0, .int .i64 0, .slice none 0 0]
  simp only [World.size_alloc] at x1
  have X1 := Lib.hid x1
  unfold goodF at hno
  clear hr hl x1 xc
  cases ho : okG gw gh cs
  · have HO := Lib.hid ho
    clear ho hno
    go_enter Try.func36, Try.ntmps36
    go_wp2_with fail
    refine HK.out.mono ?_
    rintro e v1 ⟨rfl, hb1⟩
    rw [HO.out]
    have xc := XC.out.below hb1 (by simp)
    have X1a := Lib.hid (X1.out.below hb1 (by simp))
    have HB1 := Lib.hid (hb0.out.trans (hb1.mono (by simp; omega)))
    have hz1 : w.heap.size + 2 < v1.heap.size := by have := hb1.size; simp at this; omega
    clear hb1 X1 XC
    have p0 := X1a.out.cell 0
    have p1 := X1a.out.cell 1
    have p2 := X1a.out.cell 2
    have g0 := X1a.out.free 0
    have g1 := X1a.out.free 1
    have g2 := X1a.out.free 2
    go_wp2_with fail
    refine bodyPost_ret (v := .agg #[.int .i64 0, .int .i64 0, .slice none 0 0]) (by simp [results, Try.results36, go_sem, p0, p1, p2]) rfl (ansZero ?_)
    exact ((HB1.out.setCell (by simp; omega) _).setCell (by simp; omega) _).setCell (by simp; omega) _
  · rw [ho, Bool.true_and] at hno
    have HO := Lib.hid ho
    clear ho
    cases hz : (Rune.showB z0 && Attr.okA z1 z2)
    · have HZ := Lib.hid hz
      clear hz hno
      go_enter Try.func36, Try.ntmps36
      go_wp2_with fail
      refine HK.out.mono ?_
      rintro e v1 ⟨rfl, hb1⟩
      rw [HO.out]
      have xc := XC.out.below hb1 (by simp)
      have X1a := Lib.hid (X1.out.below hb1 (by simp))
      have HB1 := Lib.hid (hb0.out.trans (hb1.mono (by simp; omega)))
      have hz1 : w.heap.size + 2 < v1.heap.size := by have := hb1.size; simp at this; omega
      clear hb1 X1 XC
      have c0_ := xc.cell 0
      have c1_ := xc.cell 1
      have c2_ := xc.cell 2
      have c3_ := xc.cell 3
      have c4_ := xc.cell 4
      have c5_ := xc.cell 5
      clear xc
      go_wp2_with fail
      refine (impl_CellOk_any z0 z1 z2 z3 z4 z5 _).mono ?_
      rintro e v2 ⟨rfl, hb2⟩
      rw [HZ.out]
      clear c0_ c1_ c2_ c3_ c4_ c5_
      have X1b := Lib.hid (X1a.out.below hb2 (by omega))
      have HB2 := Lib.hid (HB1.out.trans (hb2.mono (by omega)))
      have hz2 : w.heap.size + 2 < v2.heap.size := by have := hb2.size; omega
      clear hb2 X1a
      have p0 := X1b.out.cell 0
      have p1 := X1b.out.cell 1
      have p2 := X1b.out.cell 2
      have g0 := X1b.out.free 0
      have g1 := X1b.out.free 1
      have g2 := X1b.out.free 2
      go_wp2_with fail
      refine bodyPost_ret (v := .agg #[.int .i64 0, .int .i64 0, .slice none 0 0]) (by simp [results, Try.results36, go_sem, p0, p1, p2]) rfl (ansZero ?_)
      exact ((HB2.out.setCell (by simp; omega) _).setCell (by simp; omega) _).setCell (by simp; omega) _
    · rw [show okC ⟨z0, z1, z2, z3, z4, z5⟩ = true from hz, Bool.true_and] at hno
      have HZ := Lib.hid hz
      clear hz
      cases s1 : smallB x
      · have S1 := Lib.hid s1
        clear s1 hno
        go_enter Try.func36, Try.ntmps36
        go_wp2_with fail
        refine HK.out.mono ?_
        rintro e v1 ⟨rfl, hb1⟩
        rw [HO.out]
        have xc := XC.out.below hb1 (by simp)
        have X1a := Lib.hid (X1.out.below hb1 (by simp))
        have HB1 := Lib.hid (hb0.out.trans (hb1.mono (by simp; omega)))
        have hz1 : w.heap.size + 2 < v1.heap.size := by have := hb1.size; simp at this; omega
        clear hb1 X1 XC
        have c0_ := xc.cell 0
        have c1_ := xc.cell 1
        have c2_ := xc.cell 2
        have c3_ := xc.cell 3
        have c4_ := xc.cell 4
        have c5_ := xc.cell 5
        clear xc
        go_wp2_with fail
        refine (impl_CellOk_any z0 z1 z2 z3 z4 z5 _).mono ?_
        rintro e v2 ⟨rfl, hb2⟩
        rw [HZ.out]
        clear c0_ c1_ c2_ c3_ c4_ c5_
        have X1b := Lib.hid (X1a.out.below hb2 (by omega))
        have HB2 := Lib.hid (HB1.out.trans (hb2.mono (by omega)))
        have hz2 : w.heap.size + 2 < v2.heap.size := by have := hb2.size; omega
        clear hb2 X1a
        go_wp2_with fail
        (with_reducible refine (isReach_any x _).mono ?_)
        rintro e v ⟨rfl, rfl⟩
        rw [S1.out]
        have p0 := X1b.out.cell 0
        have p1 := X1b.out.cell 1
        have p2 := X1b.out.cell 2
        have g0 := X1b.out.free 0
        have g1 := X1b.out.free 1
        have g2 := X1b.out.free 2
        go_wp2_with fail
        refine bodyPost_ret (v := .agg #[.int .i64 0, .int .i64 0, .slice none 0 0]) (by simp [results, Try.results36, go_sem, p0, p1, p2]) rfl (ansZero ?_)
        exact ((HB2.out.setCell (by simp; omega) _).setCell (by simp; omega) _).setCell (by simp; omega) _
      · rw [s1, Bool.true_and] at hno
        have S1 := Lib.hid s1
        clear s1
        cases s2 : smallB y
        · have S2 := Lib.hid s2
          clear s2 hno
          go_enter Try.func36, Try.ntmps36
          go_wp2_with fail
          refine HK.out.mono ?_
          rintro e v1 ⟨rfl, hb1⟩
          rw [HO.out]
          have xc := XC.out.below hb1 (by simp)
          have X1a := Lib.hid (X1.out.below hb1 (by simp))
          have HB1 := Lib.hid (hb0.out.trans (hb1.mono (by simp; omega)))
          have hz1 : w.heap.size + 2 < v1.heap.size := by have := hb1.size; simp at this; omega
          clear hb1 X1 XC
          have c0_ := xc.cell 0
          have c1_ := xc.cell 1
          have c2_ := xc.cell 2
          have c3_ := xc.cell 3
          have c4_ := xc.cell 4
          have c5_ := xc.cell 5
          clear xc
          go_wp2_with fail
          refine (impl_CellOk_any z0 z1 z2 z3 z4 z5 _).mono ?_
          rintro e v2 ⟨rfl, hb2⟩
          rw [HZ.out]
          clear c0_ c1_ c2_ c3_ c4_ c5_
          have X1b := Lib.hid (X1a.out.below hb2 (by omega))
          have HB2 := Lib.hid (HB1.out.trans (hb2.mono (by omega)))
          have hz2 : w.heap.size + 2 < v2.heap.size := by have := hb2.size; omega
          clear hb2 X1a
          go_wp2_with fail
          (with_reducible refine (isReach_any x _).mono ?_)
          rintro e v ⟨rfl, rfl⟩
          rw [S1.out]
          go_wp2_with fail
          (with_reducible refine (isReach_any y _).mono ?_)
          rintro e v ⟨rfl, rfl⟩
          rw [S2.out]
          have p0 := X1b.out.cell 0
          have p1 := X1b.out.cell 1
          have p2 := X1b.out.cell 2
          have g0 := X1b.out.free 0
          have g1 := X1b.out.free 1
          have g2 := X1b.out.free 2
          go_wp2_with fail
          refine bodyPost_ret (v := .agg #[.int .i64 0, .int .i64 0, .slice none 0 0]) (by simp [results, Try.results36, go_sem, p0, p1, p2]) rfl (ansZero ?_)
          exact ((HB2.out.setCell (by simp; omega) _).setCell (by simp; omega) _).setCell (by simp; omega) _
        · rw [s2, Bool.true_and] at hno
          have S2 := Lib.hid s2
          clear s2
          cases s3 : smallB ww
          · have S3 := Lib.hid s3
            clear s3 hno
            go_enter Try.func36, Try.ntmps36
            go_wp2_with fail
            refine HK.out.mono ?_
            rintro e v1 ⟨rfl, hb1⟩
            rw [HO.out]
            have xc := XC.out.below hb1 (by simp)
            have X1a := Lib.hid (X1.out.below hb1 (by simp))
            have HB1 := Lib.hid (hb0.out.trans (hb1.mono (by simp; omega)))
            have hz1 : w.heap.size + 2 < v1.heap.size := by have := hb1.size; simp at this; omega
            clear hb1 X1 XC
            have c0_ := xc.cell 0
            have c1_ := xc.cell 1
            have c2_ := xc.cell 2
            have c3_ := xc.cell 3
            have c4_ := xc.cell 4
            have c5_ := xc.cell 5
            clear xc
            go_wp2_with fail
            refine (impl_CellOk_any z0 z1 z2 z3 z4 z5 _).mono ?_
            rintro e v2 ⟨rfl, hb2⟩
            rw [HZ.out]
            clear c0_ c1_ c2_ c3_ c4_ c5_
            have X1b := Lib.hid (X1a.out.below hb2 (by omega))
            have HB2 := Lib.hid (HB1.out.trans (hb2.mono (by omega)))
            have hz2 : w.heap.size + 2 < v2.heap.size := by have := hb2.size; omega
            clear hb2 X1a
            go_wp2_with fail
            (with_reducible refine (isReach_any x _).mono ?_)
            rintro e v ⟨rfl, rfl⟩
            rw [S1.out]
            go_wp2_with fail
            (with_reducible refine (isReach_any y _).mono ?_)
            rintro e v ⟨rfl, rfl⟩
            rw [S2.out]
            go_wp2_with fail
            (with_reducible refine (isReach_any ww _).mono ?_)
            rintro e v ⟨rfl, rfl⟩
            rw [S3.out]
            have p0 := X1b.out.cell 0
            have p1 := X1b.out.cell 1
            have p2 := X1b.out.cell 2
            have g0 := X1b.out.free 0
            have g1 := X1b.out.free 1
            have g2 := X1b.out.free 2
            go_wp2_with fail
            refine bodyPost_ret (v := .agg #[.int .i64 0, .int .i64 0, .slice none 0 0]) (by simp [results, Try.results36, go_sem, p0, p1, p2]) rfl (ansZero ?_)
            exact ((HB2.out.setCell (by simp; omega) _).setCell (by simp; omega) _).setCell (by simp; omega) _
          · rw [s3, Bool.true_and] at hno
            have S3 := Lib.hid s3
            clear s3
            cases s4 : smallB wh
            · have S4 := Lib.hid s4
              clear s4 hno
              go_enter Try.func36, Try.ntmps36
              go_wp2_with fail
              refine HK.out.mono ?_
              rintro e v1 ⟨rfl, hb1⟩
              rw [HO.out]
              have xc := XC.out.below hb1 (by simp)
              have X1a := Lib.hid (X1.out.below hb1 (by simp))
              have HB1 := Lib.hid (hb0.out.trans (hb1.mono (by simp; omega)))
              have hz1 : w.heap.size + 2 < v1.heap.size := by have := hb1.size; simp at this; omega
              clear hb1 X1 XC
              have c0_ := xc.cell 0
              have c1_ := xc.cell 1
              have c2_ := xc.cell 2
              have c3_ := xc.cell 3
              have c4_ := xc.cell 4
              have c5_ := xc.cell 5
              clear xc
              go_wp2_with fail
              refine (impl_CellOk_any z0 z1 z2 z3 z4 z5 _).mono ?_
              rintro e v2 ⟨rfl, hb2⟩
              rw [HZ.out]
              clear c0_ c1_ c2_ c3_ c4_ c5_
              have X1b := Lib.hid (X1a.out.below hb2 (by omega))
              have HB2 := Lib.hid (HB1.out.trans (hb2.mono (by omega)))
              have hz2 : w.heap.size + 2 < v2.heap.size := by have := hb2.size; omega
              clear hb2 X1a
              go_wp2_with fail
              (with_reducible refine (isReach_any x _).mono ?_)
              rintro e v ⟨rfl, rfl⟩
              rw [S1.out]
              go_wp2_with fail
              (with_reducible refine (isReach_any y _).mono ?_)
              rintro e v ⟨rfl, rfl⟩
              rw [S2.out]
              go_wp2_with fail
              (with_reducible refine (isReach_any ww _).mono ?_)
              rintro e v ⟨rfl, rfl⟩
              rw [S3.out]
              go_wp2_with fail
              (with_reducible refine (isReach_any wh _).mono ?_)
              rintro e v ⟨rfl, rfl⟩
              rw [S4.out]
              have p0 := X1b.out.cell 0
              have p1 := X1b.out.cell 1
              have p2 := X1b.out.cell 2
              have g0 := X1b.out.free 0
              have g1 := X1b.out.free 1
              have g2 := X1b.out.free 2
              go_wp2_with fail
              refine bodyPost_ret (v := .agg #[.int .i64 0, .int .i64 0, .slice none 0 0]) (by simp [results, Try.results36, go_sem, p0, p1, p2]) rfl (ansZero ?_)
              exact ((HB2.out.setCell (by simp; omega) _).setCell (by simp; omega) _).setCell (by simp; omega) _
            · rw [s4] at hno
              cases hno

theorem impl_GridFill_own (gw gh : Int) {A : Option Addr} {n c : Nat} {cs : List CellD} (x y ww wh : Int) (z0 z1 z2 : Int) (z3 z4 z5 : Bool) {W : World} {B : Nat} (h : OwnC W B A n c cs) (hn : n ≤ 1048576) :
    Calls Try.prog 36 #[.agg #[.int .i64 gw, .int .i64 gh, .slice A n c], .int .i64 x, .int .i64 y, .int .i64 ww, .int .i64 wh, .agg #[.int .i64 z0, .int .i64 z1, .int .i64 z2, .bool z3, .bool z4, .bool z5]] W (AnsT W (fillT gw gh cs x y ww wh ⟨z0, z1, z2, z3, z4, z5⟩)) := by
  cases hg : goodF gw gh cs x y ww wh ⟨z0, z1, z2, z3, z4, z5⟩
  · rw [fillT_no hg]
    exact impl_GridFill_no gw gh A n c cs x y ww wh z0 z1 z2 z3 z4 z5 W h.rd h.len hn hg
  · obtain ⟨h1, hz, s1, s2, s3, s4⟩ := goodF_t hg
    obtain ⟨Wn, Hn, rfl, rfl, w1, w2, w3, w4, w5, hl⟩ := sides h1
    have hlen := h.len
    have hpos : 0 < Wn * Hn := Nat.mul_pos w1 w3
    obtain ⟨g, rfl⟩ := h.addr (by omega)
    rw [fillT_yes hg]
    exact impl_GridFill_yes Wn Hn g 0 n c cs x y ww wh z0 z1 z2 z3 z4 z5 W h.rd h.len hn h1 hz s1 s2 s3 s4 w1 w2 w3 w4 (by omega)

set_option maxRecDepth 100000 in
set_option maxHeartbeats 6400000 in
theorem spec_GridFill_no (gw gh : Int) (A : Option Addr) (n c : Nat) (cs : List CellD) (x y ww wh : Int) (z0 z1 z2 : Int) (z3 z4 z5 : Bool) (w : World) (hr : RdC w w.heap.size A cs) (hl : cs.length = n) (hn : n ≤ 1048576) (hno : goodF gw gh cs x y ww wh ⟨z0, z1, z2, z3, z4, z5⟩ = false) :
    Calls Try.prog 35 #[.agg #[.int .i64 gw, .int .i64 gh, .slice A n c], .int .i64 x, .int .i64 y, .int .i64 ww, .int .i64 wh, .agg #[.int .i64 z0, .int .i64 z1, .int .i64 z2, .bool z3, .bool z4, .bool z5]] w (AnsT w zeroT) := by
  have hb0 := Lib.hid ((((Below.refl w.heap.size w).alloc (Nat.le_refl _) (.cells #[.int .i64 gw, .int .i64 gh, .slice A n c] 25)).alloc (by simp) (.cells #[.int .i64 z0, .int .i64 z1, .int .i64 z2, .bool z3, .bool z4, .bool z5] 37)).alloc (by simp; omega) (.cells #[.int .i64 0, .int .i64 0, .slice none 0 0] 25))
  have HK := Lib.hid (spec_GridOk_any gw gh A n c cs _ ((hr.below (Nat.le_refl _) hb0.out).more (by simp; omega)) hl (by omega))
  have xc := (BoxC.new (w.alloc (.cells #[.int .i64 gw, .int .i64 gh, .slice A n c] 25)) #[.int .i64 z0, .int .i64 z1, .int .i64 z2, .bool z3, .bool z4, .bool z5]).below ((Below.refl _ _).alloc (Nat.le_refl _) (.cells #[.int .i64 0, .int .i64 0, .slice none 0 0] 25)) (by simp)
  simp only [World.size_alloc] at xc
  have XC := Lib.hid xc
  have x1 := BoxG.new ((w.alloc (.cells #[.int .i64 gw, .int .i64 gh, .slice A n c] 25)).alloc (.cells #[.int .i64 z0, .int .i64 z1, .int .i64 z2, .bool z3, .bool z4, .bool z5] 37)) #[.int .i64 0, .int .i64 0, .slice none 0 0]
  simp only [World.size_alloc] at x1
  have X1 := Lib.hid x1
  unfold goodF at hno
  clear hr hl x1 xc
  cases ho : okG gw gh cs
  · have HO := Lib.hid ho
    clear ho hno
    go_enter Try.func35, Try.ntmps35
    go_wp2_with fail
    refine HK.out.mono ?_
    rintro e v1 ⟨rfl, hb1⟩
    rw [HO.out]
    have xc := XC.out.below hb1 (by simp)
    have X1a := Lib.hid (X1.out.below hb1 (by simp))
    have HB1 := Lib.hid (hb0.out.trans (hb1.mono (by simp; omega)))
    have hz1 : w.heap.size + 2 < v1.heap.size := by have := hb1.size; simp at this; omega
    clear hb1 X1 XC
    have p0 := X1a.out.cell 0
    have p1 := X1a.out.cell 1
    have p2 := X1a.out.cell 2
    have g0 := X1a.out.free 0
    have g1 := X1a.out.free 1
    have g2 := X1a.out.free 2
    go_wp2_with fail
    refine bodyPost_ret (v := .agg #[.int .i64 0, .int .i64 0, .slice none 0 0]) (by simp [results, Try.results35, go_sem, p0, p1, p2]) rfl (ansZero ?_)
    exact ((HB1.out.setCell (by simp; omega) _).setCell (by simp; omega) _).setCell (by simp; omega) _
  · rw [ho, Bool.true_and] at hno
    have HO := Lib.hid ho
    clear ho
    cases hz : (Rune.showB z0 && Attr.okA z1 z2)
    · have HZ := Lib.hid hz
      clear hz hno
      go_enter Try.func35, Try.ntmps35
      go_wp2_with fail
      refine HK.out.mono ?_
      rintro e v1 ⟨rfl, hb1⟩
      rw [HO.out]
      have xc := XC.out.below hb1 (by simp)
      have X1a := Lib.hid (X1.out.below hb1 (by simp))
      have HB1 := Lib.hid (hb0.out.trans (hb1.mono (by simp; omega)))
      have hz1 : w.heap.size + 2 < v1.heap.size := by have := hb1.size; simp at this; omega
      clear hb1 X1 XC
      have c0_ := xc.cell 0
      have c1_ := xc.cell 1
      have c2_ := xc.cell 2
      have c3_ := xc.cell 3
      have c4_ := xc.cell 4
      have c5_ := xc.cell 5
      clear xc
      go_wp2_with fail
      refine (spec_CellOk_any z0 z1 z2 z3 z4 z5 _).mono ?_
      rintro e v2 ⟨rfl, hb2⟩
      rw [HZ.out]
      clear c0_ c1_ c2_ c3_ c4_ c5_
      have X1b := Lib.hid (X1a.out.below hb2 (by omega))
      have HB2 := Lib.hid (HB1.out.trans (hb2.mono (by omega)))
      have hz2 : w.heap.size + 2 < v2.heap.size := by have := hb2.size; omega
      clear hb2 X1a
      have p0 := X1b.out.cell 0
      have p1 := X1b.out.cell 1
      have p2 := X1b.out.cell 2
      have g0 := X1b.out.free 0
      have g1 := X1b.out.free 1
      have g2 := X1b.out.free 2
      go_wp2_with fail
      refine bodyPost_ret (v := .agg #[.int .i64 0, .int .i64 0, .slice none 0 0]) (by simp [results, Try.results35, go_sem, p0, p1, p2]) rfl (ansZero ?_)
      exact ((HB2.out.setCell (by simp; omega) _).setCell (by simp; omega) _).setCell (by simp; omega) _
    · rw [show okC ⟨z0, z1, z2, z3, z4, z5⟩ = true from hz, Bool.true_and] at hno
      have HZ := Lib.hid hz
      clear hz
      cases s1 : smallB x
      · have S1 := Lib.hid s1
        clear s1 hno
        go_enter Try.func35, Try.ntmps35
        go_wp2_with fail
        refine HK.out.mono ?_
        rintro e v1 ⟨rfl, hb1⟩
        rw [HO.out]
        have xc := XC.out.below hb1 (by simp)
        have X1a := Lib.hid (X1.out.below hb1 (by simp))
        have HB1 := Lib.hid (hb0.out.trans (hb1.mono (by simp; omega)))
        have hz1 : w.heap.size + 2 < v1.heap.size := by have := hb1.size; simp at this; omega
        clear hb1 X1 XC
        have c0_ := xc.cell 0
        have c1_ := xc.cell 1
        have c2_ := xc.cell 2
        have c3_ := xc.cell 3
        have c4_ := xc.cell 4
        have c5_ := xc.cell 5
        clear xc
        go_wp2_with fail
        refine (spec_CellOk_any z0 z1 z2 z3 z4 z5 _).mono ?_
        rintro e v2 ⟨rfl, hb2⟩
        rw [HZ.out]
        clear c0_ c1_ c2_ c3_ c4_ c5_
        have X1b := Lib.hid (X1a.out.below hb2 (by omega))
        have HB2 := Lib.hid (HB1.out.trans (hb2.mono (by omega)))
        have hz2 : w.heap.size + 2 < v2.heap.size := by have := hb2.size; omega
        clear hb2 X1a
        go_wp2_with fail
        (with_reducible refine (l07Small_any x _).mono ?_)
        rintro e v ⟨rfl, rfl⟩
        rw [S1.out]
        have p0 := X1b.out.cell 0
        have p1 := X1b.out.cell 1
        have p2 := X1b.out.cell 2
        have g0 := X1b.out.free 0
        have g1 := X1b.out.free 1
        have g2 := X1b.out.free 2
        go_wp2_with fail
        refine bodyPost_ret (v := .agg #[.int .i64 0, .int .i64 0, .slice none 0 0]) (by simp [results, Try.results35, go_sem, p0, p1, p2]) rfl (ansZero ?_)
        exact ((HB2.out.setCell (by simp; omega) _).setCell (by simp; omega) _).setCell (by simp; omega) _
      · rw [s1, Bool.true_and] at hno
        have S1 := Lib.hid s1
        clear s1
        cases s2 : smallB y
        · have S2 := Lib.hid s2
          clear s2 hno
          go_enter Try.func35, Try.ntmps35
          go_wp2_with fail
          refine HK.out.mono ?_
          rintro e v1 ⟨rfl, hb1⟩
          rw [HO.out]
          have xc := XC.out.below hb1 (by simp)
          have X1a := Lib.hid (X1.out.below hb1 (by simp))
          have HB1 := Lib.hid (hb0.out.trans (hb1.mono (by simp; omega)))
          have hz1 : w.heap.size + 2 < v1.heap.size := by have := hb1.size; simp at this; omega
          clear hb1 X1 XC
          have c0_ := xc.cell 0
          have c1_ := xc.cell 1
          have c2_ := xc.cell 2
          have c3_ := xc.cell 3
          have c4_ := xc.cell 4
          have c5_ := xc.cell 5
          clear xc
          go_wp2_with fail
          refine (spec_CellOk_any z0 z1 z2 z3 z4 z5 _).mono ?_
          rintro e v2 ⟨rfl, hb2⟩
          rw [HZ.out]
          clear c0_ c1_ c2_ c3_ c4_ c5_
          have X1b := Lib.hid (X1a.out.below hb2 (by omega))
          have HB2 := Lib.hid (HB1.out.trans (hb2.mono (by omega)))
          have hz2 : w.heap.size + 2 < v2.heap.size := by have := hb2.size; omega
          clear hb2 X1a
          go_wp2_with fail
          (with_reducible refine (l07Small_any x _).mono ?_)
          rintro e v ⟨rfl, rfl⟩
          rw [S1.out]
          go_wp2_with fail
          (with_reducible refine (l07Small_any y _).mono ?_)
          rintro e v ⟨rfl, rfl⟩
          rw [S2.out]
          have p0 := X1b.out.cell 0
          have p1 := X1b.out.cell 1
          have p2 := X1b.out.cell 2
          have g0 := X1b.out.free 0
          have g1 := X1b.out.free 1
          have g2 := X1b.out.free 2
          go_wp2_with fail
          refine bodyPost_ret (v := .agg #[.int .i64 0, .int .i64 0, .slice none 0 0]) (by simp [results, Try.results35, go_sem, p0, p1, p2]) rfl (ansZero ?_)
          exact ((HB2.out.setCell (by simp; omega) _).setCell (by simp; omega) _).setCell (by simp; omega) _
        · rw [s2, Bool.true_and] at hno
          have S2 := Lib.hid s2
          clear s2
          cases s3 : smallB ww
          · have S3 := Lib.hid s3
            clear s3 hno
            go_enter Try.func35, Try.ntmps35
            go_wp2_with fail
            refine HK.out.mono ?_
            rintro e v1 ⟨rfl, hb1⟩
            rw [HO.out]
            have xc := XC.out.below hb1 (by simp)
            have X1a := Lib.hid (X1.out.below hb1 (by simp))
            have HB1 := Lib.hid (hb0.out.trans (hb1.mono (by simp; omega)))
            have hz1 : w.heap.size + 2 < v1.heap.size := by have := hb1.size; simp at this; omega
            clear hb1 X1 XC
            have c0_ := xc.cell 0
            have c1_ := xc.cell 1
            have c2_ := xc.cell 2
            have c3_ := xc.cell 3
            have c4_ := xc.cell 4
            have c5_ := xc.cell 5
            clear xc
            go_wp2_with fail
            refine (spec_CellOk_any z0 z1 z2 z3 z4 z5 _).mono ?_
            rintro e v2 ⟨rfl, hb2⟩
            rw [HZ.out]
            clear c0_ c1_ c2_ c3_ c4_ c5_
            have X1b := Lib.hid (X1a.out.below hb2 (by omega))
            have HB2 := Lib.hid (HB1.out.trans (hb2.mono (by omega)))
            have hz2 : w.heap.size + 2 < v2.heap.size := by have := hb2.size; omega
            clear hb2 X1a
            go_wp2_with fail
            (with_reducible refine (l07Small_any x _).mono ?_)
            rintro e v ⟨rfl, rfl⟩
            rw [S1.out]
            go_wp2_with fail
            (with_reducible refine (l07Small_any y _).mono ?_)
            rintro e v ⟨rfl, rfl⟩
            rw [S2.out]
            go_wp2_with fail
            (with_reducible refine (l07Small_any ww _).mono ?_)
            rintro e v ⟨rfl, rfl⟩
            rw [S3.out]
            have p0 := X1b.out.cell 0
            have p1 := X1b.out.cell 1
            have p2 := X1b.out.cell 2
            have g0 := X1b.out.free 0
            have g1 := X1b.out.free 1
            have g2 := X1b.out.free 2
            go_wp2_with fail
            refine bodyPost_ret (v := .agg #[.int .i64 0, .int .i64 0, .slice none 0 0]) (by simp [results, Try.results35, go_sem, p0, p1, p2]) rfl (ansZero ?_)
            exact ((HB2.out.setCell (by simp; omega) _).setCell (by simp; omega) _).setCell (by simp; omega) _
          · rw [s3, Bool.true_and] at hno
            have S3 := Lib.hid s3
            clear s3
            cases s4 : smallB wh
            · have S4 := Lib.hid s4
              clear s4 hno
              go_enter Try.func35, Try.ntmps35
              go_wp2_with fail
              refine HK.out.mono ?_
              rintro e v1 ⟨rfl, hb1⟩
              rw [HO.out]
              have xc := XC.out.below hb1 (by simp)
              have X1a := Lib.hid (X1.out.below hb1 (by simp))
              have HB1 := Lib.hid (hb0.out.trans (hb1.mono (by simp; omega)))
              have hz1 : w.heap.size + 2 < v1.heap.size := by have := hb1.size; simp at this; omega
              clear hb1 X1 XC
              have c0_ := xc.cell 0
              have c1_ := xc.cell 1
              have c2_ := xc.cell 2
              have c3_ := xc.cell 3
              have c4_ := xc.cell 4
              have c5_ := xc.cell 5
              clear xc
              go_wp2_with fail
              refine (spec_CellOk_any z0 z1 z2 z3 z4 z5 _).mono ?_
              rintro e v2 ⟨rfl, hb2⟩
              rw [HZ.out]
              clear c0_ c1_ c2_ c3_ c4_ c5_
              have X1b := Lib.hid (X1a.out.below hb2 (by omega))
              have HB2 := Lib.hid (HB1.out.trans (hb2.mono (by omega)))
              have hz2 : w.heap.size + 2 < v2.heap.size := by have := hb2.size; omega
              clear hb2 X1a
              go_wp2_with fail
              (with_reducible refine (l07Small_any x _).mono ?_)
              rintro e v ⟨rfl, rfl⟩
              rw [S1.out]
              go_wp2_with fail
              (with_reducible refine (l07Small_any y _).mono ?_)
              rintro e v ⟨rfl, rfl⟩
              rw [S2.out]
              go_wp2_with fail
              (with_reducible refine (l07Small_any ww _).mono ?_)
              rintro e v ⟨rfl, rfl⟩
              rw [S3.out]
              go_wp2_with fail
              (with_reducible refine (l07Small_any wh _).mono ?_)
              rintro e v ⟨rfl, rfl⟩
              rw [S4.out]
              have p0 := X1b.out.cell 0
              have p1 := X1b.out.cell 1
              have p2 := X1b.out.cell 2
              have g0 := X1b.out.free 0
              have g1 := X1b.out.free 1
              have g2 := X1b.out.free 2
              go_wp2_with fail
              refine bodyPost_ret (v := .agg #[.int .i64 0, .int .i64 0, .slice none 0 0]) (by simp [results, Try.results35, go_sem, p0, p1, p2]) rfl (ansZero ?_)
              exact ((HB2.out.setCell (by simp; omega) _).setCell (by simp; omega) _).setCell (by simp; omega) _
            · rw [s4] at hno
              cases hno

theorem spec_GridFill_own (gw gh : Int) {A : Option Addr} {n c : Nat} {cs : List CellD} (x y ww wh : Int) (z0 z1 z2 : Int) (z3 z4 z5 : Bool) {W : World} {B : Nat} (h : OwnC W B A n c cs) (hn : n ≤ 1048576) :
    Calls Try.prog 35 #[.agg #[.int .i64 gw, .int .i64 gh, .slice A n c], .int .i64 x, .int .i64 y, .int .i64 ww, .int .i64 wh, .agg #[.int .i64 z0, .int .i64 z1, .int .i64 z2, .bool z3, .bool z4, .bool z5]] W (AnsT W (fillT gw gh cs x y ww wh ⟨z0, z1, z2, z3, z4, z5⟩)) := by
  cases hg : goodF gw gh cs x y ww wh ⟨z0, z1, z2, z3, z4, z5⟩
  · rw [fillT_no hg]
    exact spec_GridFill_no gw gh A n c cs x y ww wh z0 z1 z2 z3 z4 z5 W h.rd h.len hn hg
  · obtain ⟨h1, hz, s1, s2, s3, s4⟩ := goodF_t hg
    obtain ⟨Wn, Hn, rfl, rfl, w1, w2, w3, w4, w5, hl⟩ := sides h1
    have hlen := h.len
    have hpos : 0 < Wn * Hn := Nat.mul_pos w1 w3
    obtain ⟨g, rfl⟩ := h.addr (by omega)
    rw [fillT_yes hg]
    exact spec_GridFill_yes Wn Hn g 0 n c cs x y ww wh z0 z1 z2 z3 z4 z5 W h.rd h.len hn h1 hz s1 s2 s3 s4 w1 w2 w3 w4 (by omega)
end Go.Proofs.Ytknopmbjbokpaaa.Gr
