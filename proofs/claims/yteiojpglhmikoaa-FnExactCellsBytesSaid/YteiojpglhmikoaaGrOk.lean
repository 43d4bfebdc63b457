/- GridOk in the program and in the model: both answer whether the sides, the number of cells and all cells are right; at every grid. -/
import Derived.Test.YteiojpglhmikoaaGrOkD
import Derived.Test.YteiojpglhmikoaaGrB
namespace Go.Proofs.Yteiojpglhmikoaa.Gr
open Go.RowKit Go.Proofs.Yteiojpglhmikoaa.Bytes Go.Proofs.Yteiojpglhmikoaa.Rows_ Go.Proofs.Yteiojpglhmikoaa.RowK
set_option linter.unusedVariables false
set_option maxRecDepth 100000 in
set_option maxHeartbeats 1600000 in
theorem areCells_any (A : Option Addr) (n c : Nat) (cs : List CellD) (w : World) (hr : RdC w w.heap.size A cs) (hl : cs.length = n) (hn : n ≤ 1099511627776) :
    Calls Try.prog 61 #[.slice A n c] w fun e w' => e = .returned (.bool (cs.all okC)) ∧ Below w.heap.size w w' := by
  have HR := Lib.hid hr
  have HL := Lib.hid hl
  clear hr hl
  go_enter Try.func61, Try.ntmps61
  go_wp2_with fail
  go_loopw [7] (fun i wr => ∃ k : Nat, k ≤ n ∧ i = .int .i64 k ∧ (cs.take k).all okC = true ∧ Below w.heap.size w wr) (fun i _ => n - (intOf i).toNat)
  case atStart => exact ⟨0, Nat.zero_le _, rfl, by simp, Below.refl _ _⟩
  case round =>
    obtain ⟨k, hk, rfl, ha, hb⟩ := hrel
    have hz : w.heap.size ≤ wr.heap.size := hb.size
    have HA := Lib.hid ha
    clear ha
    by_cases hlt : k < n
    · have hlf : k < cs.length := by rw [HL.out]; exact hlt
      obtain ⟨b, o, rfl, hB, hc0, hc1, hc2, hc3, hc4, hc5⟩ := (HR.out.below (Nat.le_refl _) hb).at_ hlf
      have HB := Lib.hid hb
      clear hb
      have HNX := Lib.hid (fun h => all_next hlf HA.out h)
      have HNO := Lib.hid (fun h => all_no hlf h)
      have HOK := Lib.hid (show okC cs[k] = (Rune.showB cs[k].r && Attr.okA cs[k].fg cs[k].bg) from rfl)
      generalize okC cs[k] = ok at *
      generalize cs[k].r = x0 at *
      generalize cs[k].fg = x1 at *
      generalize cs[k].bg = x2 at *
      generalize cs[k].b = x3 at *
      generalize cs[k].u = x4 at *
      generalize cs[k].t = x5 at *
      go_wp2_with fail
      refine (impl_CellOk_any x0 x1 x2 x3 x4 x5 _).mono ?_
      rintro e v1 ⟨rfl, hb1⟩
      have HB1 := Lib.hid (HB.out.trans (((Below.refl wr.heap.size wr).alloc (Nat.le_refl _) _ |>.trans (hb1.mono (by simp))).mono hz))
      clear hb1
      have HOK' : (Rune.showB x0 && Attr.okA x1 x2) = ok := HOK.out.symm
      rw [HOK']
      clear HOK'
      cases hok : ok
      · subst hok
        go_wp2_with fail
        go_ret
        exact ⟨Attr.rt_bool (HNO.out (by trivial)).symm, HB1.out⟩
      · subst hok
        go_wp2_with fail
        exact ⟨⟨k + 1, by omega, by go_num, HNX.out (by trivial), HB1.out⟩, by simp [intOf]; omega⟩
    · obtain rfl : n = k := by omega
      have HE := Lib.hid (show cs.all okC = true by have := HA.out; rwa [List.take_of_length_le (by rw [HL.out]; exact Nat.le_refl _)] at this)
      go_wp2_with fail
      go_ret
      exact ⟨Attr.rt_bool HE.out.symm, hb⟩
end Go.Proofs.Yteiojpglhmikoaa.Gr

