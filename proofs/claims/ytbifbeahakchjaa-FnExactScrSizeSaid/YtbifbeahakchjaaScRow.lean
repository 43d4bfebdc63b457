/- Which rows of the scrollback are valid, in the model. -/
import Derived.Test.YtbifbeahakchjaaScOkW
namespace Go.Proofs.Ytbifbeahakchjaa.Sc
open Go.RowKit Go.Proofs.Ytbifbeahakchjaa.Bytes Go.Proofs.Ytbifbeahakchjaa.Rows_ Go.Proofs.Ytbifbeahakchjaa.RowK Go.Proofs.Ytbifbeahakchjaa.Gr Go.Proofs.Ytbifbeahakchjaa.DOk Go.Proofs.Ytbifbeahakchjaa.Opq Go.Proofs.Ytbifbeahakchjaa.Attr
set_option linter.unusedVariables false
theorem okRow_no {cs : List CellD} (h : cs.all okC = false) : okRow cs = false := by unfold okRow; rw [h, Bool.and_false]
theorem okRow_len {cs : List CellD} {n : Nat} (h : cs.all okC = true) (hl : cs.length = n) : okRow cs = decide (1 ≤ n ∧ n ≤ 120) := by unfold okRow; rw [h, hl, Bool.and_true]
set_option maxRecDepth 100000 in
set_option maxHeartbeats 3200000 in
theorem l09Row_any (A : Option Addr) (n c : Nat) (cs : List CellD) (w : World) (hr : RdC w w.heap.size A cs) (hl : cs.length = n) (hn : n ≤ 1099511627776) :
    Calls Try.prog 122 #[.agg #[.slice A n c]] w fun e w' => e = .returned (.bool (okRow cs)) ∧ Below w.heap.size w w' := by
  have HR := Lib.hid hr
  have HL := Lib.hid hl
  clear hr hl
  have hb0 := Lib.hid ((Below.refl w.heap.size w).alloc (Nat.le_refl _) (.cells #[.slice A n c] 139))
  have B0 := Lib.hid (RowB.new w #[.slice A n c] 139)
  go_enter Try.func122, Try.ntmps122
  go_wp2_with fail
  go_loopw [8] (fun i wr => ∃ k : Nat, k ≤ n ∧ i = .int .i64 k ∧ (cs.take k).all okC = true ∧ Below w.heap.size w wr ∧ RowB wr w.heap.size #[.slice A n c]) (fun i _ => n - (intOf i).toNat)
  case atStart => exact ⟨0, Nat.zero_le _, rfl, by simp, hb0.out, B0.out⟩
  case round =>
    obtain ⟨k, hk, rfl, ha, hb, hB0⟩ := hrel
    have hz : w.heap.size ≤ wr.heap.size := hb.size
    have HA := Lib.hid ha
    have HB0 := Lib.hid hB0
    have hzs : w.heap.size < wr.heap.size := hB0.lt
    clear ha hB0
    by_cases hlt : k < n
    · have hlf : k < cs.length := by rw [HL.out]; exact hlt
      obtain ⟨b, o, rfl, hB, hc0, hc1, hc2, hc3, hc4, hc5⟩ := (HR.out.below (Nat.le_refl _) hb).at_ hlf
      have HB := Lib.hid hb
      clear hb
      have HNX := Lib.hid (fun h => all_next hlf HA.out h)
      have HNO := Lib.hid (fun h => all_no hlf h)
      have HOK := Lib.hid (show okC cs[k] = (Rune.showB cs[k].r && Attr.okA cs[k].fg cs[k].bg) from rfl)
      generalize okC cs[k] = ok at *
      generalize cs[k].r = x0 at *
      generalize cs[k].fg = x1 at *
      generalize cs[k].bg = x2 at *
      generalize cs[k].b = x3 at *
      generalize cs[k].u = x4 at *
      generalize cs[k].t = x5 at *
      go_wp2_with fail
      refine (spec_CellOk_any x0 x1 x2 x3 x4 x5 _).mono ?_
      rintro e v1 ⟨rfl, hb1⟩
      have hst := (Below.refl wr.heap.size wr).alloc (Nat.le_refl _) _ |>.trans (hb1.mono (by simp))
      have HB1 := Lib.hid (HB.out.trans (hst.mono hz))
      have HB2 := Lib.hid (HB0.out.below hst hzs)
      clear hb1 hst
      have HOK' : (Rune.showB x0 && Attr.okA x1 x2) = ok := HOK.out.symm
      rw [HOK']
      clear HOK'
      cases hok : ok
      · subst hok
        go_wp2_with fail
        go_ret
        exact ⟨Attr.rt_bool (okRow_no (HNO.out (by trivial))).symm, HB1.out⟩
      · subst hok
        go_wp2_with fail
        exact ⟨⟨k + 1, by omega, by go_num, HNX.out (by trivial), HB1.out, HB2.out⟩, by simp [intOf]; omega⟩
    · obtain rfl : n = k := by omega
      have HE := Lib.hid (okRow_len (show cs.all okC = true by have := HA.out; rwa [List.take_of_length_le (by rw [HL.out]; exact Nat.le_refl _)] at this) HL.out)
      have HB := Lib.hid hb
      have hx : wr.cell? ⟨w.heap.size, 0, none⟩ = some (.slice A n c) := HB0.out.cell 0
      clear hb
      by_cases h1 : 1 ≤ n
      · by_cases h2 : n ≤ 120
        · have hd := Lib.hid (decide_eq_true (show 1 ≤ n ∧ n ≤ 120 from ⟨h1, h2⟩))
          have e1 : decide ((n : Int) ≤ 120) = true := decide_eq_true (by omega)
          go_wp2_with fail
          go_ret
          exact ⟨Attr.rt_bool (by rw [HE.out, hd.out]), HB.out⟩
        · have hd := Lib.hid (decide_eq_false (show ¬ (1 ≤ n ∧ n ≤ 120) from fun h => h2 h.2))
          have e1 : decide ((n : Int) ≤ 120) = false := decide_eq_false (by omega)
          go_wp2_with fail
          go_ret
          exact ⟨Attr.rt_bool (by rw [HE.out, hd.out]), HB.out⟩
      · have hd := Lib.hid (decide_eq_false (show ¬ (1 ≤ n ∧ n ≤ 120) from fun h => h1 h.1))
        obtain rfl : n = 0 := by omega
        go_wp2_with fail
        go_ret
        exact ⟨Attr.rt_bool (by rw [HE.out, hd.out]), HB.out⟩
end Go.Proofs.Ytbifbeahakchjaa.Sc
