/- GridShift in the program: the row's cells moved, in a copy. -/
import Derived.Test.YtgejjdkgeoojmaaGrShiftT
import Derived.Test.YtgejjdkgeoojmaaKiE
import Derived.Test.YtgejjdkgeoojmaaGrSlide
import Derived.Test.YtgejjdkgeoojmaaGrCopy
import Derived.Test.YtgejjdkgeoojmaaGrOk
namespace Go.Proofs.Ytgejjdkgeoojmaa.Gr
open Go.RowKit Go.Proofs.Ytgejjdkgeoojmaa.Bytes Go.Proofs.Ytgejjdkgeoojmaa.Rows_ Go.Proofs.Ytgejjdkgeoojmaa.RowK
set_option linter.unusedVariables false
set_option maxRecDepth 100000 in
set_option maxHeartbeats 1600000 in
theorem impl_GridShift_no (gw gh : Int) (A : Option Addr) (n c : Nat) (cs : List CellD) (x y d : Int) (w : World) (hr : RdC w w.heap.size A cs) (hl : cs.length = n) (hn : n ≤ 1099511627776) (hno : (okG gw gh cs && inB gw gh x y) = false) :
    Calls Try.prog 30 #[.agg #[.int .i64 gw, .int .i64 gh, .slice A n c], .int .i64 x, .int .i64 y, .int .i64 d] w (AnsT w zeroT) := by
  have hb0 := Lib.hid (((Below.refl w.heap.size w).alloc (Nat.le_refl _) (.cells #[.int .i64 gw, .int .i64 gh, .slice A n c] 29)).alloc (by simp) (.cells #[.int .i64 0, .int .i64 0, .slice none 0 0] 29))
  have HK := Lib.hid (impl_GridOk_any gw gh A n c cs _ ((hr.below (Nat.le_refl _) hb0.out).more (by simp; omega)) hl hn)
  clear hr hl
  have s1 : w.heap.size < w.heap.size + 1 + 1 := by omega
  have s2 : w.heap.size + 1 < w.heap.size + 1 + 1 := by omega
  cases ho : okG gw gh cs
  · have HO := Lib.hid ho
    clear ho hno
    go_enter Try.func30, Try.ntmps30
    go_wp2_with fail
    refine HK.out.mono ?_
    rintro e v1 ⟨rfl, hb1⟩
    rw [HO.out]
    obtain ⟨hc, hf⟩ := Rows_.bcell hb1
    have HB1 := Lib.hid (hb0.out.trans (hb1.mono (by simp; omega)))
    have hz : w.heap.size + 1 < v1.heap.size := by have := hb1.size; simp at this; omega
    clear hb1
    go_wp2_with fail
    refine bodyPost_ret (v := .agg #[.int .i64 0, .int .i64 0, .slice none 0 0]) (by simp [results, Try.results30, go_sem, hc]) rfl (ansZero ?_)
    exact ((HB1.out.setCell (by simp) _).setCell (by simp) _).setCell (by simp) _
  · rw [ho, Bool.true_and] at hno
    have HO := Lib.hid ho
    have HI := Lib.hid hno
    clear ho hno
    go_enter Try.func30, Try.ntmps30
    go_wp2_with fail
    refine HK.out.mono ?_
    rintro e v1 ⟨rfl, hb1⟩
    rw [HO.out]
    obtain ⟨hc, hf⟩ := Rows_.bcell hb1
    have HB1 := Lib.hid (hb0.out.trans (hb1.mono (by simp; omega)))
    have hz : w.heap.size + 1 < v1.heap.size := by have := hb1.size; simp at this; omega
    have hz0 : w.heap.size < v1.heap.size := by omega
    clear hb1
    go_wp2_with fail
    refine (hasCell_any _ _ _ _ _ _ _ _).mono ?_
    rintro e v2 ⟨rfl, hb2⟩
    rw [HI.out]
    obtain ⟨hc2, hf2⟩ := Rows_.bcell hb2
    have HB2 := Lib.hid (HB1.out.trans (hb2.mono (by omega)))
    have hz2 : w.heap.size + 1 < v2.heap.size := by have := hb2.size; omega
    clear hb2
    go_wp2_with fail
    refine bodyPost_ret (v := .agg #[.int .i64 0, .int .i64 0, .slice none 0 0]) (by simp [results, Try.results30, go_sem, hc, hc2, hz]) rfl (ansZero ?_)
    exact ((HB2.out.setCell (by simp) _).setCell (by simp) _).setCell (by simp) _

set_option maxRecDepth 100000 in
set_option maxHeartbeats 1600000 in
theorem impl_GridShift_yes (W H : Nat) (b o n c : Nat) (cs : List CellD) (x y : Nat) (d : Int) (w : World) (hr : RdC w w.heap.size (some ⟨b, o, none⟩) cs) (hl : cs.length = n) (hn : n ≤ 1048576) (ho : okG (W : Int) (H : Int) cs = true) (hx : x < W) (hy : y < H) (hW : W ≤ 120) (hH : H ≤ 120) (hWH : n = W * H) :
    Calls Try.prog 30 #[.agg #[.int .i64 (W : Int), .int .i64 (H : Int), .slice (some ⟨b, o, none⟩) n c], .int .i64 (x : Int), .int .i64 (y : Int), .int .i64 d] w (AnsT w ((W : Int), (H : Int), over cs (y * W + x) (shiftL cs (y * W + x) (W - x) d))) := by
  have hb0 := Lib.hid (((Below.refl w.heap.size w).alloc (Nat.le_refl _) (.cells #[.int .i64 (W : Int), .int .i64 (H : Int), .slice (some ⟨b, o, none⟩) n c] 29)).alloc (by simp) (.cells #[.int .i64 0, .int .i64 0, .slice none 0 0] 29))
  have HK := Lib.hid (impl_GridOk_any (W : Int) (H : Int) (some ⟨b, o, none⟩) n c cs _ ((hr.below (Nat.le_refl _) hb0.out).more (by simp; omega)) hl (by omega))
  have X0 := Lib.hid ((BoxG.new w #[.int .i64 (W : Int), .int .i64 (H : Int), .slice (some ⟨b, o, none⟩) n c]).below ((Below.refl _ _).alloc (Nat.le_refl _) (.cells #[.int .i64 0, .int .i64 0, .slice none 0 0] 29)) (by simp))
  have x1 := BoxG.new (w.alloc (.cells #[.int .i64 (W : Int), .int .i64 (H : Int), .slice (some ⟨b, o, none⟩) n c] 29)) #[.int .i64 0, .int .i64 0, .slice none 0 0]
  simp only [World.size_alloc] at x1
  have X1 := Lib.hid x1
  have HO := Lib.hid ho
  have HI := Lib.hid (show inB (W : Int) (H : Int) (x : Int) (y : Int) = true from decide_eq_true (by omega))
  have hylt : y * W + W ≤ n := by
    have h1 : (y + 1) * W ≤ H * W := Nat.mul_le_mul_right W hy
    rw [Nat.add_mul, Nat.mul_comm H W] at h1; omega
  have HR := Lib.hid hr
  have HL := Lib.hid hl
  have HCP := Lib.hid (fun V (h : Below w.heap.size w V) => copyGrid_any (W : Int) (H : Int) (some ⟨b, o, none⟩) n c cs V (fun h => by cases h) ((HR.out.below (Nat.le_refl _) h).more h.size) HL.out (by omega))
  have HOL := Lib.hid (show (over cs (y * W + x) (shiftL cs (y * W + x) (W - x) d)).length = n by rw [over_len (by rw [shiftL_len]; omega)]; exact hl)
  clear ho hr hl x1 hWH
  go_enter Try.func30, Try.ntmps30
  go_wp2_with fail
  refine HK.out.mono ?_
  rintro e v1 ⟨rfl, hb1⟩
  rw [HO.out]
  have x0 := X0.out.below hb1 (by simp; omega)
  have X1a := Lib.hid (X1.out.below hb1 (by simp))
  have X0a := Lib.hid x0
  have HB1 := Lib.hid (hb0.out.trans (hb1.mono (by simp; omega)))
  have q0 := x0.cell 0
  have q1 := x0.cell 1
  have q2 := x0.cell 2
  have hz : w.heap.size + 1 < v1.heap.size := by have := hb1.size; simp at this; omega
  clear hb1 x0 X0 X1
  go_wp2_with fail
  refine (hasCell_any _ _ _ _ _ _ _ _).mono ?_
  rintro e v2 ⟨rfl, hb2⟩
  rw [HI.out]
  clear q0 q1 q2
  have x0 := X0a.out.below hb2 (by omega)
  have X1b := Lib.hid (X1a.out.below hb2 (by omega))
  have HB2 := Lib.hid (HB1.out.trans (hb2.mono (by omega)))
  have q0 := x0.cell 0
  have q1 := x0.cell 1
  have q2 := x0.cell 2
  have hz2 : w.heap.size + 1 < v2.heap.size := by have := hb2.size; omega
  clear hb2 x0 X0a X1a
  go_wp2_with fail
  refine (HCP.out _ HB2.out).mono ?_
  rintro e v3 ⟨A3, c3, rfl, ho3, hb3⟩
  obtain ⟨g, rfl⟩ := ho3.addr (by omega)
  have hcap := ho3.cap
  clear q0 q1 q2
  have hg := ho3.blk g rfl
  have HB3 := Lib.hid (HB2.out.trans (hb3.mono (by omega)))
  have hz3 : w.heap.size + 1 < v3.heap.size := by have := hb3.size; omega
  have hal := (Below.refl v3.heap.size v3).alloc (Nat.le_refl _) (.cells #[.int .i64 (W : Int), .int .i64 (H : Int), .slice (some ⟨g, 0, none⟩) n c3] 29)
  have X1c := Lib.hid ((X1b.out.below hb3 (by omega)).below hal (by omega))
  have X9 := Lib.hid (BoxG.new v3 #[.int .i64 (W : Int), .int .i64 (H : Int), .slice (some ⟨g, 0, none⟩) n c3])
  have HO3 := Lib.hid (ho3.below (Nat.le_refl _) hal)
  have HB3a := Lib.hid (HB3.out.trans (hal.mono (by omega)))
  have HRO := Lib.hid (fun V => rowOf_any W (H : Int) g 0 n c3 y V (by omega) hylt (by omega) hcap.1 (by omega) hcap.2)
  rw [Nat.zero_add] at HRO
  clear hal hb3 ho3 X1b HB3
  go_wp2_with fail
  refine (HRO.out _).mono ?_
  rintro e v4 ⟨rfl, hb4⟩
  have HO4 := Lib.hid (HO3.out.below (Nat.le_refl _) hb4)
  have X1d := Lib.hid (X1c.out.below hb4 (by simp; omega))
  have X9d := Lib.hid (X9.out.below hb4 (by simp))
  have HB4 := Lib.hid (HB3a.out.trans (hb4.mono (by simp; omega)))
  have hz4 : v3.heap.size < v4.heap.size := by have := hb4.size; simp at this; omega
  have HS := Lib.hid (fun (V : World) (h : OwnC V v2.heap.size (some ⟨g, 0, none⟩) n c3 cs) => slide_any (y * W + x) (W - x) (c3 - y * W - x) d V h (by omega) (by omega) (by omega) (by omega))
  rw [Nat.add_mul] at HS
  have hxc : x ≠ c3 - y * W := by omega
  have hxc2 : x ≤ c3 - y * W := by omega
  clear hb4 X1c X9 HO3 HB3a
  go_wp2_with fail
  refine (HS.out _ HO4.out).mono ?_
  rintro e v5 ⟨rfl, ho5, on5⟩
  have x1 := X1d.out.only on5 (by omega)
  have x9 := X9d.out.only on5 (by omega)
  have HO5 := Lib.hid (ho5.more (base' := w.heap.size + 2) (by omega))
  have HB5 := Lib.hid (Only.below_ on5 HB4.out (by omega) (fun i hi => by omega))
  clear on5 ho5
  have q0 := x9.cell 0
  have q1 := x9.cell 1
  have q2 := x9.cell 2
  have p0 := x1.cell 0
  have p1 := x1.cell 1
  have p2 := x1.cell 2
  have g0 := x1.free 0
  have g1 := x1.free 1
  have g2 := x1.free 2
  clear x1 x9
  go_wp2_with fail
  refine bodyPost_ret (v := .agg #[.int .i64 (W : Int), .int .i64 (H : Int), .slice (some ⟨g, 0, none⟩) n c3]) (by simp [results, Try.results30, go_sem, p0, p1, p2]) rfl (ansT HOL.out ?_ ?_)
  · exact (((HO5.out.setBox (w.heap.size + 1) 0 _ (by omega)).setBox (w.heap.size + 1) 1 _ (by omega)).setBox (w.heap.size + 1) 2 _ (by omega)).more (by omega)
  · exact ((HB5.out.setCell (by simp) _).setCell (by simp) _).setCell (by simp) _


end Go.Proofs.Ytgejjdkgeoojmaa.Gr

