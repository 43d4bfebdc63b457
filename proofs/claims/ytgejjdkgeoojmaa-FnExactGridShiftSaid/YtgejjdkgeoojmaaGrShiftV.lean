/- Parts that several texts use, moved out of GrShiftO. -/
import Derived.Test.YtgejjdkgeoojmaaGrShiftS
import Derived.Test.YtgejjdkgeoojmaaGrOk
namespace Go.Proofs.Ytgejjdkgeoojmaa.Gr
open Go.RowKit Go.Proofs.Ytgejjdkgeoojmaa.Bytes Go.Proofs.Ytgejjdkgeoojmaa.Rows_ Go.Proofs.Ytgejjdkgeoojmaa.RowK
set_option linter.unusedVariables false
set_option maxRecDepth 100000 in
set_option maxHeartbeats 3200000 in
theorem spec_GridShift_no (gw gh : Int) (A : Option Addr) (n c : Nat) (cs : List CellD) (x y d : Int) (w : World) (hr : RdC w w.heap.size A cs) (hl : cs.length = n) (hn : n ≤ 1099511627776) (hno : (okG gw gh cs && inB gw gh x y) = false) :
    Calls Try.prog 29 #[.agg #[.int .i64 gw, .int .i64 gh, .slice A n c], .int .i64 x, .int .i64 y, .int .i64 d] w (AnsT w zeroT) := by
  have hb0 := Lib.hid (((Below.refl w.heap.size w).alloc (Nat.le_refl _) (.cells #[.int .i64 gw, .int .i64 gh, .slice A n c] 29)).alloc (by simp) (.cells #[.int .i64 0, .int .i64 0, .slice none 0 0] 29))
  have HK := Lib.hid (spec_GridOk_any gw gh A n c cs _ ((hr.below (Nat.le_refl _) hb0.out).more (by simp; omega)) hl hn)
  clear hr hl
  have s1 : w.heap.size < w.heap.size + 1 + 1 := by omega
  have s2 : w.heap.size + 1 < w.heap.size + 1 + 1 := by omega
  cases ho : okG gw gh cs
  · have HO := Lib.hid ho
    clear ho hno
    go_enter Try.func29, Try.ntmps29
    go_wp2_with fail
    refine HK.out.mono ?_
    rintro e v1 ⟨rfl, hb1⟩
    rw [HO.out]
    obtain ⟨hc, hf⟩ := Rows_.bcell hb1
    have HB1 := Lib.hid (hb0.out.trans (hb1.mono (by simp; omega)))
    have hz : w.heap.size + 1 < v1.heap.size := by have := hb1.size; simp at this; omega
    have hz0 : w.heap.size < v1.heap.size := by omega
    clear hb1
    go_wp2_with fail
    refine bodyPost_ret (v := .agg #[.int .i64 0, .int .i64 0, .slice none 0 0]) (by simp [results, Try.results29, go_sem, hc]) rfl (ansZero ?_)
    exact ((HB1.out.setCell (by simp) _).setCell (by simp) _).setCell (by simp) _
  · rw [ho, Bool.true_and] at hno
    have HO := Lib.hid ho
    have hno' : ¬ (0 ≤ x ∧ x < gw ∧ 0 ≤ y ∧ y < gh) := of_decide_eq_false hno
    clear ho hno
    by_cases h1 : 0 ≤ x
    · by_cases h2 : x < gw
      · by_cases h3 : 0 ≤ y
        · have h4 : gh ≤ y := by omega
          clear hno'
          go_enter Try.func29, Try.ntmps29
          go_wp2_with fail
          refine HK.out.mono ?_
          rintro e v1 ⟨rfl, hb1⟩
          rw [HO.out]
          obtain ⟨hc, hf⟩ := Rows_.bcell hb1
          have HB1 := Lib.hid (hb0.out.trans (hb1.mono (by simp; omega)))
          have hz : w.heap.size + 1 < v1.heap.size := by have := hb1.size; simp at this; omega
          have hz0 : w.heap.size < v1.heap.size := by omega
          clear hb1
          go_wp2_with fail
          refine bodyPost_ret (v := .agg #[.int .i64 0, .int .i64 0, .slice none 0 0]) (by simp [results, Try.results29, go_sem, hc]) rfl (ansZero ?_)
          exact ((HB1.out.setCell (by simp) _).setCell (by simp) _).setCell (by simp) _
        · clear hno'
          go_enter Try.func29, Try.ntmps29
          go_wp2_with fail
          refine HK.out.mono ?_
          rintro e v1 ⟨rfl, hb1⟩
          rw [HO.out]
          obtain ⟨hc, hf⟩ := Rows_.bcell hb1
          have HB1 := Lib.hid (hb0.out.trans (hb1.mono (by simp; omega)))
          have hz : w.heap.size + 1 < v1.heap.size := by have := hb1.size; simp at this; omega
          have hz0 : w.heap.size < v1.heap.size := by omega
          clear hb1
          go_wp2_with fail
          refine bodyPost_ret (v := .agg #[.int .i64 0, .int .i64 0, .slice none 0 0]) (by simp [results, Try.results29, go_sem, hc]) rfl (ansZero ?_)
          exact ((HB1.out.setCell (by simp) _).setCell (by simp) _).setCell (by simp) _
      · clear hno'
        go_enter Try.func29, Try.ntmps29
        go_wp2_with fail
        refine HK.out.mono ?_
        rintro e v1 ⟨rfl, hb1⟩
        rw [HO.out]
        obtain ⟨hc, hf⟩ := Rows_.bcell hb1
        have HB1 := Lib.hid (hb0.out.trans (hb1.mono (by simp; omega)))
        have hz : w.heap.size + 1 < v1.heap.size := by have := hb1.size; simp at this; omega
        have hz0 : w.heap.size < v1.heap.size := by omega
        clear hb1
        go_wp2_with fail
        refine bodyPost_ret (v := .agg #[.int .i64 0, .int .i64 0, .slice none 0 0]) (by simp [results, Try.results29, go_sem, hc]) rfl (ansZero ?_)
        exact ((HB1.out.setCell (by simp) _).setCell (by simp) _).setCell (by simp) _
    · clear hno'
      go_enter Try.func29, Try.ntmps29
      go_wp2_with fail
      refine HK.out.mono ?_
      rintro e v1 ⟨rfl, hb1⟩
      rw [HO.out]
      obtain ⟨hc, hf⟩ := Rows_.bcell hb1
      have HB1 := Lib.hid (hb0.out.trans (hb1.mono (by simp; omega)))
      have hz : w.heap.size + 1 < v1.heap.size := by have := hb1.size; simp at this; omega
      have hz0 : w.heap.size < v1.heap.size := by omega
      clear hb1
      go_wp2_with fail
      refine bodyPost_ret (v := .agg #[.int .i64 0, .int .i64 0, .slice none 0 0]) (by simp [results, Try.results29, go_sem, hc]) rfl (ansZero ?_)
      exact ((HB1.out.setCell (by simp) _).setCell (by simp) _).setCell (by simp) _

theorem spec_GridShift_own (gw gh : Int) {A : Option Addr} {n c : Nat} {cs : List CellD} (x y d : Int) {W : World} {B : Nat} (h : OwnC W B A n c cs) (hn : n ≤ 1048576) :
    Calls Try.prog 29 #[.agg #[.int .i64 gw, .int .i64 gh, .slice A n c], .int .i64 x, .int .i64 y, .int .i64 d] W (AnsT W (shiftT gw gh cs x y d)) := by
  cases ho : (okG gw gh cs && inB gw gh x y)
  · rw [shiftT_no ho]
    exact spec_GridShift_no gw gh A n c cs x y d W h.rd h.len (by omega) ho
  · have ho' := ho
    rw [Bool.and_eq_true] at ho
    obtain ⟨h1, h2⟩ := ho
    obtain ⟨hx0, hx1, hy0, hy1⟩ := inB_t h2
    obtain ⟨Wn, Hn, rfl, rfl, w1, w2, w3, w4, w5, hl⟩ := sides h1
    obtain ⟨xn, rfl⟩ := Int.eq_ofNat_of_zero_le hx0
    obtain ⟨yn, rfl⟩ := Int.eq_ofNat_of_zero_le hy0
    have hlt := row_lt (W := Wn) (H := Hn) (x := xn) (y := yn) (by omega) (by omega)
    have hlen := h.len
    obtain ⟨g, rfl⟩ := h.addr (by omega)
    rw [shiftT_yes ho' (by omega)]
    by_cases a : (Wn : Int) < d
    · rw [shiftL_big (d := d) (e := (Wn : Int)) (by omega)]
      exact spec_GridShift_hi Wn Hn g 0 n c cs xn yn d W h.rd h.len hn h1 (by omega) (by omega) w2 w4 (by omega) a
    · by_cases a2 : d < -(Wn : Int)
      · rw [shiftL_big (d := d) (e := -(Wn : Int)) (by omega)]
        exact spec_GridShift_lo Wn Hn g 0 n c cs xn yn d W h.rd h.len hn h1 (by omega) (by omega) w2 w4 (by omega) a2
      · exact spec_GridShift_mid Wn Hn g 0 n c cs xn yn d W h.rd h.len hn h1 (by omega) (by omega) w2 w4 (by omega) (by omega) (by omega)

end Go.Proofs.Ytgejjdkgeoojmaa.Gr

