/- GridText over a grid of the call's own: the text that both answer. -/
import Derived.Test.YtgdjbpgfplcjpaaGrTextS
namespace Go.Proofs.Ytgdjbpgfplcjpaa.Gr
open Go.RowKit Go.Proofs.Ytgdjbpgfplcjpaa.Bytes Go.Proofs.Ytgdjbpgfplcjpaa.Rows_ Go.Proofs.Ytgdjbpgfplcjpaa.RowK
set_option linter.unusedVariables false
set_option maxRecDepth 100000 in
set_option maxHeartbeats 3200000 in
theorem impl_GridText_no (gw gh : Int) (A : Option Addr) (n c : Nat) (cs : List CellD) (w : World) (hr : RdC w w.heap.size A cs) (hl : cs.length = n) (hn : n ≤ 1048576) (ho : okG gw gh cs = false) :
    Calls Try.prog 21 #[.agg #[.int .i64 gw, .int .i64 gh, .slice A n c]] w fun e w' => e = .returned (.string ⟨#[]⟩) ∧ Below w.heap.size w w' := by
  have hb0 := Lib.hid ((Below.refl w.heap.size w).alloc (Nat.le_refl _) (.cells #[.int .i64 gw, .int .i64 gh, .slice A n c] 25))
  have HO := Lib.hid ho
  have HK := Lib.hid (fun V (h : Below w.heap.size w V) => impl_GridOk_any gw gh A n c cs V ((hr.below (Nat.le_refl _) h).more h.size) hl (by omega))
  clear hr hl ho
  go_enter Try.func21, Try.ntmps21
  go_wp2_with fail
  refine (HK.out _ hb0.out).mono ?_
  rintro e v1 ⟨rfl, hb1⟩
  rw [HO.out]
  have HB1 := Lib.hid (hb0.out.trans (hb1.mono (by simp)))
  clear hb1
  go_wp2_with fail
  go_ret
  exact ⟨rfl, HB1.out⟩
set_option maxRecDepth 100000 in
set_option maxHeartbeats 3200000 in
theorem spec_GridText_no (gw gh : Int) (A : Option Addr) (n c : Nat) (cs : List CellD) (w : World) (hr : RdC w w.heap.size A cs) (hl : cs.length = n) (hn : n ≤ 1048576) (ho : okG gw gh cs = false) :
    Calls Try.prog 20 #[.agg #[.int .i64 gw, .int .i64 gh, .slice A n c]] w fun e w' => e = .returned (.string ⟨#[]⟩) ∧ Below w.heap.size w w' := by
  have hb0 := Lib.hid (((Below.refl w.heap.size w).alloc (Nat.le_refl _) (.cells #[.int .i64 gw, .int .i64 gh, .slice A n c] 25)).alloc (by simp) (.cells #[] 5))
  have X0 := Lib.hid ((BoxG.new w #[.int .i64 gw, .int .i64 gh, .slice A n c]).below ((Below.refl _ _).alloc (Nat.le_refl _) (.cells #[] 5)) (by simp))
  have ho0 := Rune.own_lit (w.alloc (.cells #[.int .i64 gw, .int .i64 gh, .slice A n c] 25)) [] #[] rfl (by simp)
  simp only [World.size_alloc, List.length_nil] at ho0
  have HO0 := Lib.hid ho0
  have HO := Lib.hid ho
  have HK := Lib.hid (fun V (h : Below w.heap.size w V) => spec_GridOk_any gw gh A n c cs V ((hr.below (Nat.le_refl _) h).more h.size) hl (by omega))
  clear hr hl ho ho0
  go_enter Try.func20, Try.ntmps20
  go_wp2_with fail
  go_loopw [3, 4] (fun t y wr => y = .int .i64 0 ∧ t = .slice (some ⟨w.heap.size + 1, 0, none⟩) 0 0 ∧ Own wr (w.heap.size + 1) (some ⟨w.heap.size + 1, 0, none⟩) 0 0 [] ∧ BoxG wr w.heap.size #[.int .i64 gw, .int .i64 gh, .slice A n c] ∧ Below w.heap.size w wr) (fun _ _ _ => 0)
  case atStart => exact ⟨rfl, rfl, HO0.out, X0.out, hb0.out⟩
  case round =>
    clear X0 hb0 HO0
    obtain ⟨rfl, rfl, ho, x0, hb⟩ := hrel
    have q0 := x0.cell 0
    have q1 := x0.cell 1
    have q2 := x0.cell 2
    by_cases hlt : 0 < gh
    · have HOw := Lib.hid ho
      have HBw := Lib.hid hb
      clear ho hb x0
      go_wp2_with fail
      (with_reducible refine (HK.out _ HBw.out).mono ?_)
      rintro e v2 ⟨rfl, hb2⟩
      rw [HO.out]
      have HB2 := Lib.hid (HBw.out.trans (hb2.mono HBw.out.size))
      have hcv := own_str (HOw.out.below (Nat.le_refl _) hb2)
      clear hb2 q0 q1 q2
      go_wp2_with fail
      go_ret
      exact ⟨rfl, HB2.out⟩
    · have hcv := own_str ho
      have HB := Lib.hid hb
      clear ho hb x0
      go_wp2_with fail
      go_ret
      exact ⟨rfl, HB.out⟩
theorem impl_GridText_own (gw gh : Int) {A : Option Addr} {n c : Nat} {cs : List CellD} {W : World} {B : Nat} (h : OwnC W B A n c cs) (hn : n ≤ 1048576) :
    Calls Try.prog 21 #[.agg #[.int .i64 gw, .int .i64 gh, .slice A n c]] W fun e w' => e = .returned (.string (textG gw gh cs)) ∧ Below W.heap.size W w' := by
  cases h1 : okG gw gh cs
  · rw [textG_no h1]; exact impl_GridText_no gw gh A n c cs W h.rd h.len hn h1
  · obtain ⟨Wn, Hn, rfl, rfl, w1, w2, w3, w4, w5, hl⟩ := sides h1
    have hlen := h.len
    have hpos : 0 < Wn * Hn := Nat.mul_pos w1 w3
    have hcap := h.cap
    obtain ⟨g, rfl⟩ := h.addr (by omega)
    rw [textG_yes h1]
    exact impl_GridText_yes Wn Hn g 0 n c cs W h.rd h.len hn hcap.1 hcap.2 h1 w1 w2 w3 w4 (by omega)
theorem spec_GridText_own (gw gh : Int) {A : Option Addr} {n c : Nat} {cs : List CellD} {W : World} {B : Nat} (h : OwnC W B A n c cs) (hn : n ≤ 1048576) :
    Calls Try.prog 20 #[.agg #[.int .i64 gw, .int .i64 gh, .slice A n c]] W fun e w' => e = .returned (.string (textG gw gh cs)) ∧ Below W.heap.size W w' := by
  cases h1 : okG gw gh cs
  · rw [textG_no h1]; exact spec_GridText_no gw gh A n c cs W h.rd h.len hn h1
  · obtain ⟨Wn, Hn, rfl, rfl, w1, w2, w3, w4, w5, hl⟩ := sides h1
    have hlen := h.len
    have hpos : 0 < Wn * Hn := Nat.mul_pos w1 w3
    obtain ⟨g, rfl⟩ := h.addr (by omega)
    rw [textG_yes h1]
    exact spec_GridText_yes Wn Hn g 0 n c cs W h.rd h.len hn h1 w1 w2 w3 w4 (by omega)
end Go.Proofs.Ytgdjbpgfplcjpaa.Gr
