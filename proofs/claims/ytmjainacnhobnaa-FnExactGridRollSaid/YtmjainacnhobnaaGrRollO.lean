/- GridRoll over a grid of the call's own: the grid that both answer. -/
import Derived.Test.YtmjainacnhobnaaGrRollS
import Derived.Test.YtmjainacnhobnaaGrRoll
namespace Go.Proofs.Ytmjainacnhobnaa.Gr
open Go.RowKit Go.Proofs.Ytmjainacnhobnaa.Bytes Go.Proofs.Ytmjainacnhobnaa.Rows_ Go.Proofs.Ytmjainacnhobnaa.RowK
set_option linter.unusedVariables false
set_option maxRecDepth 100000 in
set_option maxHeartbeats 1600000 in
theorem spec_GridRoll_no (gw gh : Int) (A : Option Addr) (n c : Nat) (cs : List CellD) (top bot d : Int) (w : World) (hr : RdC w w.heap.size A cs) (hl : cs.length = n) (hn : n ≤ 1099511627776) (hno : (okG gw gh cs && inR gh top bot) = false) :
    Calls Try.prog 22 #[.agg #[.int .i64 gw, .int .i64 gh, .slice A n c], .int .i64 top, .int .i64 bot, .int .i64 d] w (AnsT w zeroT) := by
  have hb0 := Lib.hid (((Below.refl w.heap.size w).alloc (Nat.le_refl _) (.cells #[.int .i64 gw, .int .i64 gh, .slice A n c] 25)).alloc (by simp) (.cells #[.int .i64 0, .int .i64 0, .slice none 0 0] 25))
  have HK := Lib.hid (spec_GridOk_any gw gh A n c cs _ ((hr.below (Nat.le_refl _) hb0.out).more (by simp; omega)) hl hn)
  clear hr hl
  have s1 : w.heap.size < w.heap.size + 1 + 1 := by omega
  have s2 : w.heap.size + 1 < w.heap.size + 1 + 1 := by omega
  cases ho : okG gw gh cs
  · have HO := Lib.hid ho
    clear ho hno
    go_enter Try.func22, Try.ntmps22
    go_wp2_with fail
    refine HK.out.mono ?_
    rintro e v1 ⟨rfl, hb1⟩
    rw [HO.out]
    obtain ⟨hc, hf⟩ := Rows_.bcell hb1
    have HB1 := Lib.hid (hb0.out.trans (hb1.mono (by simp; omega)))
    have hz : w.heap.size + 1 < v1.heap.size := by have := hb1.size; simp at this; omega
    have hz0 : w.heap.size < v1.heap.size := by omega
    clear hb1
    go_wp2_with fail
    refine bodyPost_ret (v := .agg #[.int .i64 0, .int .i64 0, .slice none 0 0]) (by simp [results, Try.results22, go_sem, hc]) rfl (ansZero ?_)
    exact ((HB1.out.setCell (by simp) _).setCell (by simp) _).setCell (by simp) _
  · rw [ho, Bool.true_and] at hno
    have HO := Lib.hid ho
    have hno' : ¬ (0 ≤ top ∧ top ≤ bot ∧ bot < gh) := of_decide_eq_false hno
    clear ho hno
    by_cases h1 : 0 ≤ top
    · by_cases h2 : top ≤ bot
      · have h3 : gh ≤ bot := by omega
        clear hno'
        go_enter Try.func22, Try.ntmps22
        go_wp2_with fail
        refine HK.out.mono ?_
        rintro e v1 ⟨rfl, hb1⟩
        rw [HO.out]
        obtain ⟨hc, hf⟩ := Rows_.bcell hb1
        have HB1 := Lib.hid (hb0.out.trans (hb1.mono (by simp; omega)))
        have hz : w.heap.size + 1 < v1.heap.size := by have := hb1.size; simp at this; omega
        have hz0 : w.heap.size < v1.heap.size := by omega
        clear hb1
        go_wp2_with fail
        refine bodyPost_ret (v := .agg #[.int .i64 0, .int .i64 0, .slice none 0 0]) (by simp [results, Try.results22, go_sem, hc]) rfl (ansZero ?_)
        exact ((HB1.out.setCell (by simp) _).setCell (by simp) _).setCell (by simp) _
      · clear hno'
        go_enter Try.func22, Try.ntmps22
        go_wp2_with fail
        refine HK.out.mono ?_
        rintro e v1 ⟨rfl, hb1⟩
        rw [HO.out]
        obtain ⟨hc, hf⟩ := Rows_.bcell hb1
        have HB1 := Lib.hid (hb0.out.trans (hb1.mono (by simp; omega)))
        have hz : w.heap.size + 1 < v1.heap.size := by have := hb1.size; simp at this; omega
        have hz0 : w.heap.size < v1.heap.size := by omega
        clear hb1
        go_wp2_with fail
        refine bodyPost_ret (v := .agg #[.int .i64 0, .int .i64 0, .slice none 0 0]) (by simp [results, Try.results22, go_sem, hc]) rfl (ansZero ?_)
        exact ((HB1.out.setCell (by simp) _).setCell (by simp) _).setCell (by simp) _
    · clear hno'
      go_enter Try.func22, Try.ntmps22
      go_wp2_with fail
      refine HK.out.mono ?_
      rintro e v1 ⟨rfl, hb1⟩
      rw [HO.out]
      obtain ⟨hc, hf⟩ := Rows_.bcell hb1
      have HB1 := Lib.hid (hb0.out.trans (hb1.mono (by simp; omega)))
      have hz : w.heap.size + 1 < v1.heap.size := by have := hb1.size; simp at this; omega
      have hz0 : w.heap.size < v1.heap.size := by omega
      clear hb1
      go_wp2_with fail
      refine bodyPost_ret (v := .agg #[.int .i64 0, .int .i64 0, .slice none 0 0]) (by simp [results, Try.results22, go_sem, hc]) rfl (ansZero ?_)
      exact ((HB1.out.setCell (by simp) _).setCell (by simp) _).setCell (by simp) _

theorem inR_t {gh top bot : Int} (h : inR gh top bot = true) : 0 ≤ top ∧ top ≤ bot ∧ bot < gh := of_decide_eq_true h
theorem clampV_hi {x : Int} {H : Nat} (h : (H : Int) < x) : clampV x (-(H : Int)) (H : Int) = (H : Int) := by unfold clampV; rw [if_neg (by omega), if_pos h]
theorem clampV_lo {x : Int} {H : Nat} (h : x < -(H : Int)) : clampV x (-(H : Int)) (H : Int) = -(H : Int) := by unfold clampV; rw [if_pos h]
theorem clampV_mid {x : Int} {H : Nat} (h1 : -(H : Int) ≤ x) (h2 : x ≤ (H : Int)) : clampV x (-(H : Int)) (H : Int) = x := by unfold clampV; rw [if_neg (by omega), if_neg (by omega)]

theorem spec_GridRoll_own (gw gh : Int) {A : Option Addr} {n c : Nat} {cs : List CellD} (x y d : Int) {W : World} {B : Nat} (h : OwnC W B A n c cs) (hn : n ≤ 1048576) :
    Calls Try.prog 22 #[.agg #[.int .i64 gw, .int .i64 gh, .slice A n c], .int .i64 x, .int .i64 y, .int .i64 d] W (AnsT W (rollT gw gh cs x y d)) := by
  cases ho : (okG gw gh cs && inR gh x y)
  · rw [rollT_no ho]
    exact spec_GridRoll_no gw gh A n c cs x y d W h.rd h.len (by omega) ho
  · have ho' := ho
    rw [Bool.and_eq_true] at ho
    obtain ⟨h1, h2⟩ := ho
    obtain ⟨hx0, hx1, hx2⟩ := inR_t h2
    obtain ⟨Wn, Hn, rfl, rfl, w1, w2, w3, w4, w5, hl⟩ := sides h1
    obtain ⟨xn, rfl⟩ := Int.eq_ofNat_of_zero_le hx0
    obtain ⟨yn, rfl⟩ := Int.eq_ofNat_of_zero_le (show 0 ≤ y by omega)
    have hlen := h.len
    have hpos : 1 * 1 ≤ Wn * Hn := Nat.mul_le_mul w1 w3
    obtain ⟨g, rfl⟩ := h.addr (by omega)
    rw [rollT_yes ho' (by omega)]
    by_cases a : (Hn : Int) < d
    · rw [clampV_hi a]
      exact spec_GridRoll_hi Wn Hn g 0 n c cs xn yn d W h.rd h.len hn h1 (by omega) (by omega) w1 w2 w4 (by omega) a
    · by_cases a2 : d < -(Hn : Int)
      · rw [clampV_lo a2]
        exact spec_GridRoll_lo Wn Hn g 0 n c cs xn yn d W h.rd h.len hn h1 (by omega) (by omega) w1 w2 w4 (by omega) a2
      · rw [clampV_mid (by omega) (by omega)]
        exact spec_GridRoll_mid Wn Hn g 0 n c cs xn yn d W h.rd h.len hn h1 (by omega) (by omega) w1 w2 w4 (by omega) (by omega) (by omega)

theorem impl_GridRoll_own (gw gh : Int) {A : Option Addr} {n c : Nat} {cs : List CellD} (x y d : Int) {W : World} {B : Nat} (h : OwnC W B A n c cs) (hn : n ≤ 1048576) :
    Calls Try.prog 15 #[.agg #[.int .i64 gw, .int .i64 gh, .slice A n c], .int .i64 x, .int .i64 y, .int .i64 d] W (AnsT W (rollT gw gh cs x y d)) := by
  cases ho : (okG gw gh cs && inR gh x y)
  · rw [rollT_no ho]
    exact impl_GridRoll_no gw gh A n c cs x y d W h.rd h.len (by omega) ho
  · have ho' := ho
    rw [Bool.and_eq_true] at ho
    obtain ⟨h1, h2⟩ := ho
    obtain ⟨hx0, hx1, hx2⟩ := inR_t h2
    obtain ⟨Wn, Hn, rfl, rfl, w1, w2, w3, w4, w5, hl⟩ := sides h1
    obtain ⟨xn, rfl⟩ := Int.eq_ofNat_of_zero_le hx0
    obtain ⟨yn, rfl⟩ := Int.eq_ofNat_of_zero_le (show 0 ≤ y by omega)
    have hlen := h.len
    have hpos : 1 * 1 ≤ Wn * Hn := Nat.mul_le_mul w1 w3
    obtain ⟨g, rfl⟩ := h.addr (by omega)
    rw [rollT_yes ho' (by omega)]
    exact impl_GridRoll_yes Wn Hn g 0 n c cs xn yn d W h.rd h.len hn h1 (by omega) (by omega) w1 w2 w4 (by omega)
theorem rollT_len {gw gh x y d : Int} {cs : List CellD} {n : Nat} (hl : cs.length = n) (hn : n ≤ 1048576) : (rollT gw gh cs x y d).2.2.length ≤ 1048576 := by
  cases ho : (okG gw gh cs && inR gh x y)
  · rw [rollT_no ho]; simp [zeroT]
  · have ho' := ho
    rw [Bool.and_eq_true] at ho
    obtain ⟨h1, h2⟩ := ho
    obtain ⟨hx0, hx1, hx2⟩ := inR_t h2
    obtain ⟨Wn, Hn, rfl, rfl, w1, w2, w3, w4, w5, hl'⟩ := sides h1
    obtain ⟨xn, rfl⟩ := Int.eq_ofNat_of_zero_le hx0
    obtain ⟨yn, rfl⟩ := Int.eq_ofNat_of_zero_le (show 0 ≤ y by omega)
    have hbot : (yn + 1) * Wn ≤ Hn * Wn := Nat.mul_le_mul_right Wn (by omega)
    rw [Nat.mul_comm Hn Wn] at hbot
    have htw : xn * Wn ≤ (yn + 1) * Wn := Nat.mul_le_mul_right Wn (by omega)
    have hmm : (yn + 1 - xn) * Wn = (yn + 1) * Wn - xn * Wn := Nat.sub_mul _ _ _
    rw [rollT_yes ho' (by omega)]
    show (over cs _ _).length ≤ 1048576
    rw [over_len (by rw [shiftL_len]; omega)]; omega
end Go.Proofs.Ytmjainacnhobnaa.Gr
