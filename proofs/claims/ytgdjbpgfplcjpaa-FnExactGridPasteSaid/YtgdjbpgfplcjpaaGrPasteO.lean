/- GridPaste over grids of the call's own: the grid that both answer. -/
import Derived.Test.YtgdjbpgfplcjpaaGrPasteI
import Derived.Test.YtgdjbpgfplcjpaaGrPasteS
namespace Go.Proofs.Ytgdjbpgfplcjpaa.Gr
open Go.RowKit Go.Proofs.Ytgdjbpgfplcjpaa.Bytes Go.Proofs.Ytgdjbpgfplcjpaa.Rows_ Go.Proofs.Ytgdjbpgfplcjpaa.RowK
set_option linter.unusedVariables false
theorem pasteT_no {gw gh gw2 gh2 x y : Int} {cs ds : List CellD} (hg : goodP gw gh cs gw2 gh2 ds x y = false) : pasteT gw gh cs gw2 gh2 ds x y = zeroT := by unfold pasteT; rw [hg]; rfl
theorem pasteT_yes {W H W2 H2 : Nat} {x y : Int} {cs ds : List CellD} (hg : goodP (W : Int) (H : Int) cs (W2 : Int) (H2 : Int) ds x y = true) : pasteT (W : Int) (H : Int) cs (W2 : Int) (H2 : Int) ds x y = ((W : Int), (H : Int), mixP cs ds W W2 H2 x y allP) := by unfold pasteT; rw [hg]; rfl
theorem pasteT_len {gw gh gw2 gh2 x y : Int} {cs ds : List CellD} {n : Nat} (hl : cs.length = n) (hn : n ≤ 1048576) : (pasteT gw gh cs gw2 gh2 ds x y).2.2.length ≤ 1048576 := by
  cases hg : goodP gw gh cs gw2 gh2 ds x y
  · rw [pasteT_no hg]; simp [zeroT]
  · unfold pasteT; rw [hg]
    show (mixP cs _ _ _ _ _ _ _).length ≤ 1048576
    rw [mixP_len]; omega
theorem goodP_t {gw gh gw2 gh2 x y : Int} {cs ds : List CellD} (hg : goodP gw gh cs gw2 gh2 ds x y = true) : okG gw gh cs = true ∧ okG gw2 gh2 ds = true ∧ smallB x = true ∧ smallB y = true := by
  unfold goodP at hg
  simp only [Bool.and_eq_true] at hg
  exact hg

set_option maxRecDepth 100000 in
set_option maxHeartbeats 6400000 in
theorem impl_GridPaste_no (gw gh : Int) (A : Option Addr) (n c : Nat) (cs : List CellD) (gw2 gh2 : Int) (A2 : Option Addr) (n2 c2 : Nat) (ds : List CellD) (x y : Int) (w : World) (hr : RdC w w.heap.size A cs) (hl : cs.length = n) (hn : n ≤ 1048576) (hr2 : RdC w w.heap.size A2 ds) (hl2 : ds.length = n2) (hn2 : n2 ≤ 1048576) (hno : goodP gw gh cs gw2 gh2 ds x y = false) :
    Calls Try.prog 13 #[.agg #[.int .i64 gw, .int .i64 gh, .slice A n c], .agg #[.int .i64 gw2, .int .i64 gh2, .slice A2 n2 c2], .int .i64 x, .int .i64 y] w (AnsT w zeroT) := by
  have hb0 := Lib.hid ((((Below.refl w.heap.size w).alloc (Nat.le_refl _) (.cells #[.int .i64 gw, .int .i64 gh, .slice A n c] 25)).alloc (by simp) (.cells #[.int .i64 gw2, .int .i64 gh2, .slice A2 n2 c2] 25)).alloc (by simp; omega) (.cells #[.int .i64 0, .int .i64 0, .slice none 0 0] 25))
  have HK := Lib.hid (fun V (h : Below w.heap.size w V) => impl_GridOk_any gw gh A n c cs V ((hr.below (Nat.le_refl _) h).more h.size) hl (by omega))
  have HK2 := Lib.hid (fun V (h : Below w.heap.size w V) => impl_GridOk_any gw2 gh2 A2 n2 c2 ds V ((hr2.below (Nat.le_refl _) h).more h.size) hl2 (by omega))
  have xc := (BoxG.new (w.alloc (.cells #[.int .i64 gw, .int .i64 gh, .slice A n c] 25)) #[.int .i64 gw2, .int .i64 gh2, .slice A2 n2 c2]).below ((Below.refl _ _).alloc (Nat.le_refl _) (.cells #[.int .i64 0, .int .i64 0, .slice none 0 0] 25)) (by simp)
  simp only [World.size_alloc] at xc
  have XC := Lib.hid xc
  have x1 := BoxG.new ((w.alloc (.cells #[.int .i64 gw, .int .i64 gh, .slice A n c] 25)).alloc (.cells #[.int .i64 gw2, .int .i64 gh2, .slice A2 n2 c2] 25)) #[.int .i64 0, .int .i64 0, .slice none 0 0]
  simp only [World.size_alloc] at x1
  have X1 := Lib.hid x1
  unfold goodP at hno
  clear hr hl hr2 hl2 x1 xc
  cases ho : okG gw gh cs
  · have HO := Lib.hid ho
    clear ho hno
    go_enter Try.func13, Try.ntmps13
    go_wp2_with fail
    refine (HK.out _ hb0.out).mono ?_
    rintro e v1 ⟨rfl, hb1⟩
    rw [HO.out]
    have xc := XC.out.below hb1 (by simp)
    have X1a := Lib.hid (X1.out.below hb1 (by simp))
    have HB1 := Lib.hid (hb0.out.trans (hb1.mono (by simp; omega)))
    have hz1 : w.heap.size + 2 < v1.heap.size := by have := hb1.size; simp at this; omega
    clear hb1 X1 XC
    have p0 := X1a.out.cell 0
    have p1 := X1a.out.cell 1
    have p2 := X1a.out.cell 2
    have g0 := X1a.out.free 0
    have g1 := X1a.out.free 1
    have g2 := X1a.out.free 2
    go_wp2_with fail
    refine bodyPost_ret (v := .agg #[.int .i64 0, .int .i64 0, .slice none 0 0]) (by simp [results, Try.results13, go_sem, p0, p1, p2]) rfl (ansZero ?_)
    exact ((HB1.out.setCell (by simp; omega) _).setCell (by simp; omega) _).setCell (by simp; omega) _
  · rw [ho, Bool.true_and] at hno
    have HO := Lib.hid ho
    clear ho
    cases hz : okG gw2 gh2 ds
    · have HZ := Lib.hid hz
      clear hz hno
      go_enter Try.func13, Try.ntmps13
      go_wp2_with fail
      refine (HK.out _ hb0.out).mono ?_
      rintro e v1 ⟨rfl, hb1⟩
      rw [HO.out]
      have xc := XC.out.below hb1 (by simp)
      have X1a := Lib.hid (X1.out.below hb1 (by simp))
      have HB1 := Lib.hid (hb0.out.trans (hb1.mono (by simp; omega)))
      have hz1 : w.heap.size + 2 < v1.heap.size := by have := hb1.size; simp at this; omega
      clear hb1 X1 XC
      have c0_ := xc.cell 0
      have c1_ := xc.cell 1
      have c2_ := xc.cell 2
      clear xc
      go_wp2_with fail
      refine (HK2.out _ HB1.out).mono ?_
      rintro e v2 ⟨rfl, hb2⟩
      rw [HZ.out]
      clear c0_ c1_ c2_
      have X1b := Lib.hid (X1a.out.below hb2 (by omega))
      have HB2 := Lib.hid (HB1.out.trans (hb2.mono (by omega)))
      have hz2 : w.heap.size + 2 < v2.heap.size := by have := hb2.size; omega
      clear hb2 X1a
      have p0 := X1b.out.cell 0
      have p1 := X1b.out.cell 1
      have p2 := X1b.out.cell 2
      have g0 := X1b.out.free 0
      have g1 := X1b.out.free 1
      have g2 := X1b.out.free 2
      go_wp2_with fail
      refine bodyPost_ret (v := .agg #[.int .i64 0, .int .i64 0, .slice none 0 0]) (by simp [results, Try.results13, go_sem, p0, p1, p2]) rfl (ansZero ?_)
      exact ((HB2.out.setCell (by simp; omega) _).setCell (by simp; omega) _).setCell (by simp; omega) _
    · rw [hz, Bool.true_and] at hno
      have HZ := Lib.hid hz
      clear hz
      cases s1 : smallB x
      · have S1 := Lib.hid s1
        clear s1 hno
        go_enter Try.func13, Try.ntmps13
        go_wp2_with fail
        refine (HK.out _ hb0.out).mono ?_
        rintro e v1 ⟨rfl, hb1⟩
        rw [HO.out]
        have xc := XC.out.below hb1 (by simp)
        have X1a := Lib.hid (X1.out.below hb1 (by simp))
        have HB1 := Lib.hid (hb0.out.trans (hb1.mono (by simp; omega)))
        have hz1 : w.heap.size + 2 < v1.heap.size := by have := hb1.size; simp at this; omega
        clear hb1 X1 XC
        have c0_ := xc.cell 0
        have c1_ := xc.cell 1
        have c2_ := xc.cell 2
        clear xc
        go_wp2_with fail
        refine (HK2.out _ HB1.out).mono ?_
        rintro e v2 ⟨rfl, hb2⟩
        rw [HZ.out]
        clear c0_ c1_ c2_
        have X1b := Lib.hid (X1a.out.below hb2 (by omega))
        have HB2 := Lib.hid (HB1.out.trans (hb2.mono (by omega)))
        have hz2 : w.heap.size + 2 < v2.heap.size := by have := hb2.size; omega
        clear hb2 X1a
        go_wp2_with fail
        (with_reducible refine (isReach_any x _).mono ?_)
        rintro e v ⟨rfl, rfl⟩
        rw [S1.out]
        have p0 := X1b.out.cell 0
        have p1 := X1b.out.cell 1
        have p2 := X1b.out.cell 2
        have g0 := X1b.out.free 0
        have g1 := X1b.out.free 1
        have g2 := X1b.out.free 2
        go_wp2_with fail
        refine bodyPost_ret (v := .agg #[.int .i64 0, .int .i64 0, .slice none 0 0]) (by simp [results, Try.results13, go_sem, p0, p1, p2]) rfl (ansZero ?_)
        exact ((HB2.out.setCell (by simp; omega) _).setCell (by simp; omega) _).setCell (by simp; omega) _
      · rw [s1, Bool.true_and] at hno
        have S1 := Lib.hid s1
        have S2 := Lib.hid hno
        clear s1 hno
        go_enter Try.func13, Try.ntmps13
        go_wp2_with fail
        refine (HK.out _ hb0.out).mono ?_
        rintro e v1 ⟨rfl, hb1⟩
        rw [HO.out]
        have xc := XC.out.below hb1 (by simp)
        have X1a := Lib.hid (X1.out.below hb1 (by simp))
        have HB1 := Lib.hid (hb0.out.trans (hb1.mono (by simp; omega)))
        have hz1 : w.heap.size + 2 < v1.heap.size := by have := hb1.size; simp at this; omega
        clear hb1 X1 XC
        have c0_ := xc.cell 0
        have c1_ := xc.cell 1
        have c2_ := xc.cell 2
        clear xc
        go_wp2_with fail
        refine (HK2.out _ HB1.out).mono ?_
        rintro e v2 ⟨rfl, hb2⟩
        rw [HZ.out]
        clear c0_ c1_ c2_
        have X1b := Lib.hid (X1a.out.below hb2 (by omega))
        have HB2 := Lib.hid (HB1.out.trans (hb2.mono (by omega)))
        have hz2 : w.heap.size + 2 < v2.heap.size := by have := hb2.size; omega
        clear hb2 X1a
        go_wp2_with fail
        (with_reducible refine (isReach_any x _).mono ?_)
        rintro e v ⟨rfl, rfl⟩
        rw [S1.out]
        go_wp2_with fail
        (with_reducible refine (isReach_any y _).mono ?_)
        rintro e v ⟨rfl, rfl⟩
        rw [S2.out]
        have p0 := X1b.out.cell 0
        have p1 := X1b.out.cell 1
        have p2 := X1b.out.cell 2
        have g0 := X1b.out.free 0
        have g1 := X1b.out.free 1
        have g2 := X1b.out.free 2
        go_wp2_with fail
        refine bodyPost_ret (v := .agg #[.int .i64 0, .int .i64 0, .slice none 0 0]) (by simp [results, Try.results13, go_sem, p0, p1, p2]) rfl (ansZero ?_)
        exact ((HB2.out.setCell (by simp; omega) _).setCell (by simp; omega) _).setCell (by simp; omega) _

theorem impl_GridPaste_own (gw gh : Int) {A : Option Addr} {n c : Nat} {cs : List CellD} (gw2 gh2 : Int) {A2 : Option Addr} {n2 c2 : Nat} {ds : List CellD} (x y : Int) {W : World} {B B2 : Nat} (h : OwnC W B A n c cs) (h2 : OwnC W B2 A2 n2 c2 ds) (hn : n ≤ 1048576) (hn2 : n2 ≤ 1048576) :
    Calls Try.prog 13 #[.agg #[.int .i64 gw, .int .i64 gh, .slice A n c], .agg #[.int .i64 gw2, .int .i64 gh2, .slice A2 n2 c2], .int .i64 x, .int .i64 y] W (AnsT W (pasteT gw gh cs gw2 gh2 ds x y)) := by
  cases hg : goodP gw gh cs gw2 gh2 ds x y
  · rw [pasteT_no hg]
    exact impl_GridPaste_no gw gh A n c cs gw2 gh2 A2 n2 c2 ds x y W h.rd h.len hn h2.rd h2.len hn2 hg
  · obtain ⟨h1, hz, s1, s2⟩ := goodP_t hg
    obtain ⟨Wn, Hn, rfl, rfl, w1, w2, w3, w4, w5, hl⟩ := sides h1
    obtain ⟨Wm, Hm, rfl, rfl, u1, u2, u3, u4, u5, hl2⟩ := sides hz
    have hlen := h.len
    have hlen2 := h2.len
    have hpos : 0 < Wn * Hn := Nat.mul_pos w1 w3
    have hpos2 : 0 < Wm * Hm := Nat.mul_pos u1 u3
    obtain ⟨g, rfl⟩ := h.addr (by omega)
    obtain ⟨g2, rfl⟩ := h2.addr (by omega)
    rw [pasteT_yes hg]
    exact impl_GridPaste_yes Wn Hn g 0 n c cs Wm Hm g2 0 n2 c2 ds x y W h.rd h.len hn h1 h2.rd h2.len hn2 hz (h2.blk g2 rfl).2 h2.cap.1 h2.cap.2 s1 s2 w1 w2 w3 w4 (by omega) u1 u2 u3 u4 (by omega)

set_option maxRecDepth 100000 in
set_option maxHeartbeats 6400000 in
theorem spec_GridPaste_no (gw gh : Int) (A : Option Addr) (n c : Nat) (cs : List CellD) (gw2 gh2 : Int) (A2 : Option Addr) (n2 c2 : Nat) (ds : List CellD) (x y : Int) (w : World) (hr : RdC w w.heap.size A cs) (hl : cs.length = n) (hn : n ≤ 1048576) (hr2 : RdC w w.heap.size A2 ds) (hl2 : ds.length = n2) (hn2 : n2 ≤ 1048576) (hno : goodP gw gh cs gw2 gh2 ds x y = false) :
    Calls Try.prog 15 #[.agg #[.int .i64 gw, .int .i64 gh, .slice A n c], .agg #[.int .i64 gw2, .int .i64 gh2, .slice A2 n2 c2], .int .i64 x, .int .i64 y] w (AnsT w zeroT) := by
  have hb0 := Lib.hid ((((Below.refl w.heap.size w).alloc (Nat.le_refl _) (.cells #[.int .i64 gw, .int .i64 gh, .slice A n c] 25)).alloc (by simp) (.cells #[.int .i64 gw2, .int .i64 gh2, .slice A2 n2 c2] 25)).alloc (by simp; omega) (.cells #[.int .i64 0, .int .i64 0, .slice none 0 0] 25))
  have HK := Lib.hid (fun V (h : Below w.heap.size w V) => spec_GridOk_any gw gh A n c cs V ((hr.below (Nat.le_refl _) h).more h.size) hl (by omega))
  have HK2 := Lib.hid (fun V (h : Below w.heap.size w V) => spec_GridOk_any gw2 gh2 A2 n2 c2 ds V ((hr2.below (Nat.le_refl _) h).more h.size) hl2 (by omega))
  have xc := (BoxG.new (w.alloc (.cells #[.int .i64 gw, .int .i64 gh, .slice A n c] 25)) #[.int .i64 gw2, .int .i64 gh2, .slice A2 n2 c2]).below ((Below.refl _ _).alloc (Nat.le_refl _) (.cells #[.int .i64 0, .int .i64 0, .slice none 0 0] 25)) (by simp)
  simp only [World.size_alloc] at xc
  have XC := Lib.hid xc
  have x1 := BoxG.new ((w.alloc (.cells #[.int .i64 gw, .int .i64 gh, .slice A n c] 25)).alloc (.cells #[.int .i64 gw2, .int .i64 gh2, .slice A2 n2 c2] 25)) #[.int .i64 0, .int .i64 0, .slice none 0 0]
  simp only [World.size_alloc] at x1
  have X1 := Lib.hid x1
  unfold goodP at hno
  clear hr hl hr2 hl2 x1 xc
  cases ho : okG gw gh cs
  · have HO := Lib.hid ho
    clear ho hno
    go_enter Try.func15, Try.ntmps15
    go_wp2_with fail
    refine (HK.out _ hb0.out).mono ?_
    rintro e v1 ⟨rfl, hb1⟩
    rw [HO.out]
    have xc := XC.out.below hb1 (by simp)
    have X1a := Lib.hid (X1.out.below hb1 (by simp))
    have HB1 := Lib.hid (hb0.out.trans (hb1.mono (by simp; omega)))
    have hz1 : w.heap.size + 2 < v1.heap.size := by have := hb1.size; simp at this; omega
    clear hb1 X1 XC
    have p0 := X1a.out.cell 0
    have p1 := X1a.out.cell 1
    have p2 := X1a.out.cell 2
    have g0 := X1a.out.free 0
    have g1 := X1a.out.free 1
    have g2 := X1a.out.free 2
    go_wp2_with fail
    refine bodyPost_ret (v := .agg #[.int .i64 0, .int .i64 0, .slice none 0 0]) (by simp [results, Try.results15, go_sem, p0, p1, p2]) rfl (ansZero ?_)
    exact ((HB1.out.setCell (by simp; omega) _).setCell (by simp; omega) _).setCell (by simp; omega) _
  · rw [ho, Bool.true_and] at hno
    have HO := Lib.hid ho
    clear ho
    cases hz : okG gw2 gh2 ds
    · have HZ := Lib.hid hz
      clear hz hno
      go_enter Try.func15, Try.ntmps15
      go_wp2_with fail
      refine (HK.out _ hb0.out).mono ?_
      rintro e v1 ⟨rfl, hb1⟩
      rw [HO.out]
      have xc := XC.out.below hb1 (by simp)
      have X1a := Lib.hid (X1.out.below hb1 (by simp))
      have HB1 := Lib.hid (hb0.out.trans (hb1.mono (by simp; omega)))
      have hz1 : w.heap.size + 2 < v1.heap.size := by have := hb1.size; simp at this; omega
      clear hb1 X1 XC
      have c0_ := xc.cell 0
      have c1_ := xc.cell 1
      have c2_ := xc.cell 2
      clear xc
      go_wp2_with fail
      refine (HK2.out _ HB1.out).mono ?_
      rintro e v2 ⟨rfl, hb2⟩
      rw [HZ.out]
      clear c0_ c1_ c2_
      have X1b := Lib.hid (X1a.out.below hb2 (by omega))
      have HB2 := Lib.hid (HB1.out.trans (hb2.mono (by omega)))
      have hz2 : w.heap.size + 2 < v2.heap.size := by have := hb2.size; omega
      clear hb2 X1a
      have p0 := X1b.out.cell 0
      have p1 := X1b.out.cell 1
      have p2 := X1b.out.cell 2
      have g0 := X1b.out.free 0
      have g1 := X1b.out.free 1
      have g2 := X1b.out.free 2
      go_wp2_with fail
      refine bodyPost_ret (v := .agg #[.int .i64 0, .int .i64 0, .slice none 0 0]) (by simp [results, Try.results15, go_sem, p0, p1, p2]) rfl (ansZero ?_)
      exact ((HB2.out.setCell (by simp; omega) _).setCell (by simp; omega) _).setCell (by simp; omega) _
    · rw [hz, Bool.true_and] at hno
      have HZ := Lib.hid hz
      clear hz
      cases s1 : smallB x
      · have S1 := Lib.hid s1
        clear s1 hno
        go_enter Try.func15, Try.ntmps15
        go_wp2_with fail
        refine (HK.out _ hb0.out).mono ?_
        rintro e v1 ⟨rfl, hb1⟩
        rw [HO.out]
        have xc := XC.out.below hb1 (by simp)
        have X1a := Lib.hid (X1.out.below hb1 (by simp))
        have HB1 := Lib.hid (hb0.out.trans (hb1.mono (by simp; omega)))
        have hz1 : w.heap.size + 2 < v1.heap.size := by have := hb1.size; simp at this; omega
        clear hb1 X1 XC
        have c0_ := xc.cell 0
        have c1_ := xc.cell 1
        have c2_ := xc.cell 2
        clear xc
        go_wp2_with fail
        refine (HK2.out _ HB1.out).mono ?_
        rintro e v2 ⟨rfl, hb2⟩
        rw [HZ.out]
        clear c0_ c1_ c2_
        have X1b := Lib.hid (X1a.out.below hb2 (by omega))
        have HB2 := Lib.hid (HB1.out.trans (hb2.mono (by omega)))
        have hz2 : w.heap.size + 2 < v2.heap.size := by have := hb2.size; omega
        clear hb2 X1a
        go_wp2_with fail
        (with_reducible refine (l07Small_any x _).mono ?_)
        rintro e v ⟨rfl, rfl⟩
        rw [S1.out]
        have p0 := X1b.out.cell 0
        have p1 := X1b.out.cell 1
        have p2 := X1b.out.cell 2
        have g0 := X1b.out.free 0
        have g1 := X1b.out.free 1
        have g2 := X1b.out.free 2
        go_wp2_with fail
        refine bodyPost_ret (v := .agg #[.int .i64 0, .int .i64 0, .slice none 0 0]) (by simp [results, Try.results15, go_sem, p0, p1, p2]) rfl (ansZero ?_)
        exact ((HB2.out.setCell (by simp; omega) _).setCell (by simp; omega) _).setCell (by simp; omega) _
      · rw [s1, Bool.true_and] at hno
        have S1 := Lib.hid s1
        have S2 := Lib.hid hno
        clear s1 hno
        go_enter Try.func15, Try.ntmps15
        go_wp2_with fail
        refine (HK.out _ hb0.out).mono ?_
        rintro e v1 ⟨rfl, hb1⟩
        rw [HO.out]
        have xc := XC.out.below hb1 (by simp)
        have X1a := Lib.hid (X1.out.below hb1 (by simp))
        have HB1 := Lib.hid (hb0.out.trans (hb1.mono (by simp; omega)))
        have hz1 : w.heap.size + 2 < v1.heap.size := by have := hb1.size; simp at this; omega
        clear hb1 X1 XC
        have c0_ := xc.cell 0
        have c1_ := xc.cell 1
        have c2_ := xc.cell 2
        clear xc
        go_wp2_with fail
        refine (HK2.out _ HB1.out).mono ?_
        rintro e v2 ⟨rfl, hb2⟩
        rw [HZ.out]
        clear c0_ c1_ c2_
        have X1b := Lib.hid (X1a.out.below hb2 (by omega))
        have HB2 := Lib.hid (HB1.out.trans (hb2.mono (by omega)))
        have hz2 : w.heap.size + 2 < v2.heap.size := by have := hb2.size; omega
        clear hb2 X1a
        go_wp2_with fail
        (with_reducible refine (l07Small_any x _).mono ?_)
        rintro e v ⟨rfl, rfl⟩
        rw [S1.out]
        go_wp2_with fail
        (with_reducible refine (l07Small_any y _).mono ?_)
        rintro e v ⟨rfl, rfl⟩
        rw [S2.out]
        have p0 := X1b.out.cell 0
        have p1 := X1b.out.cell 1
        have p2 := X1b.out.cell 2
        have g0 := X1b.out.free 0
        have g1 := X1b.out.free 1
        have g2 := X1b.out.free 2
        go_wp2_with fail
        refine bodyPost_ret (v := .agg #[.int .i64 0, .int .i64 0, .slice none 0 0]) (by simp [results, Try.results15, go_sem, p0, p1, p2]) rfl (ansZero ?_)
        exact ((HB2.out.setCell (by simp; omega) _).setCell (by simp; omega) _).setCell (by simp; omega) _

theorem spec_GridPaste_own (gw gh : Int) {A : Option Addr} {n c : Nat} {cs : List CellD} (gw2 gh2 : Int) {A2 : Option Addr} {n2 c2 : Nat} {ds : List CellD} (x y : Int) {W : World} {B B2 : Nat} (h : OwnC W B A n c cs) (h2 : OwnC W B2 A2 n2 c2 ds) (hn : n ≤ 1048576) (hn2 : n2 ≤ 1048576) :
    Calls Try.prog 15 #[.agg #[.int .i64 gw, .int .i64 gh, .slice A n c], .agg #[.int .i64 gw2, .int .i64 gh2, .slice A2 n2 c2], .int .i64 x, .int .i64 y] W (AnsT W (pasteT gw gh cs gw2 gh2 ds x y)) := by
  cases hg : goodP gw gh cs gw2 gh2 ds x y
  · rw [pasteT_no hg]
    exact spec_GridPaste_no gw gh A n c cs gw2 gh2 A2 n2 c2 ds x y W h.rd h.len hn h2.rd h2.len hn2 hg
  · obtain ⟨h1, hz, s1, s2⟩ := goodP_t hg
    obtain ⟨Wn, Hn, rfl, rfl, w1, w2, w3, w4, w5, hl⟩ := sides h1
    obtain ⟨Wm, Hm, rfl, rfl, u1, u2, u3, u4, u5, hl2⟩ := sides hz
    have hlen := h.len
    have hlen2 := h2.len
    have hpos : 0 < Wn * Hn := Nat.mul_pos w1 w3
    have hpos2 : 0 < Wm * Hm := Nat.mul_pos u1 u3
    obtain ⟨g, rfl⟩ := h.addr (by omega)
    obtain ⟨g2, rfl⟩ := h2.addr (by omega)
    rw [pasteT_yes hg]
    exact spec_GridPaste_yes Wn Hn g 0 n c cs Wm Hm g2 0 n2 c2 ds x y W h.rd h.len hn h1 h2.rd h2.len hn2 hz s1 s2 w1 w2 w3 w4 (by omega) u1 u2 u3 u4 (by omega)
end Go.Proofs.Ytgdjbpgfplcjpaa.Gr
