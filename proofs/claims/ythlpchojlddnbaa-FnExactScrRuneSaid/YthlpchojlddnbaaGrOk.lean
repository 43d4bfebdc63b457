/- GridOk in the program and in the model: both answer whether the sides, the number of cells and all cells are right; at every grid. -/
import Derived.Test.YthlpchojlddnbaaGrOkD
import Derived.Test.YthlpchojlddnbaaGrB
namespace Go.Proofs.Ythlpchojlddnbaa.Gr
open Go.RowKit Go.Proofs.Ythlpchojlddnbaa.Bytes Go.Proofs.Ythlpchojlddnbaa.Rows_ Go.Proofs.Ythlpchojlddnbaa.RowK
set_option linter.unusedVariables false
set_option maxRecDepth 100000 in
set_option maxHeartbeats 1600000 in
theorem areCells_any (A : Option Addr) (n c : Nat) (cs : List CellD) (w : World) (hr : RdC w w.heap.size A cs) (hl : cs.length = n) (hn : n ≤ 1099511627776) :
    Calls Try.prog 90 #[.slice A n c] w fun e w' => e = .returned (.bool (cs.all okC)) ∧ Below w.heap.size w w' := by
  have HR := Lib.hid hr
  have HL := Lib.hid hl
  clear hr hl
  go_enter Try.func90, Try.ntmps90
  go_wp2_with fail
  go_loopw [7] (fun i wr => ∃ k : Nat, k ≤ n ∧ i = .int .i64 k ∧ (cs.take k).all okC = true ∧ Below w.heap.size w wr) (fun i _ => n - (intOf i).toNat)
  case atStart => exact ⟨0, Nat.zero_le _, rfl, by simp, Below.refl _ _⟩
  case round =>
    obtain ⟨k, hk, rfl, ha, hb⟩ := hrel
    have hz : w.heap.size ≤ wr.heap.size := hb.size
    have HA := Lib.hid ha
    clear ha
    by_cases hlt : k < n
    · have hlf : k < cs.length := by rw [HL.out]; exact hlt
      obtain ⟨b, o, rfl, hB, hc0, hc1, hc2, hc3, hc4, hc5⟩ := (HR.out.below (Nat.le_refl _) hb).at_ hlf
      have HB := Lib.hid hb
      clear hb
      have HNX := Lib.hid (fun h => all_next hlf HA.out h)
      have HNO := Lib.hid (fun h => all_no hlf h)
      have HOK := Lib.hid (show okC cs[k] = (Rune.showB cs[k].r && Attr.okA cs[k].fg cs[k].bg) from rfl)
      generalize okC cs[k] = ok at *
      generalize cs[k].r = x0 at *
      generalize cs[k].fg = x1 at *
      generalize cs[k].bg = x2 at *
      generalize cs[k].b = x3 at *
      generalize cs[k].u = x4 at *
      generalize cs[k].t = x5 at *
      go_wp2_with fail
      refine (impl_CellOk_any x0 x1 x2 x3 x4 x5 _).mono ?_
      rintro e v1 ⟨rfl, hb1⟩
      have HB1 := Lib.hid (HB.out.trans (((Below.refl wr.heap.size wr).alloc (Nat.le_refl _) _ |>.trans (hb1.mono (by simp))).mono hz))
      clear hb1
      have HOK' : (Rune.showB x0 && Attr.okA x1 x2) = ok := HOK.out.symm
      rw [HOK']
      clear HOK'
      cases hok : ok
      · subst hok
        go_wp2_with fail
        go_ret
        exact ⟨Attr.rt_bool (HNO.out (by trivial)).symm, HB1.out⟩
      · subst hok
        go_wp2_with fail
        exact ⟨⟨k + 1, by omega, by go_num, HNX.out (by trivial), HB1.out⟩, by simp [intOf]; omega⟩
    · obtain rfl : n = k := by omega
      have HE := Lib.hid (show cs.all okC = true by have := HA.out; rwa [List.take_of_length_le (by rw [HL.out]; exact Nat.le_refl _)] at this)
      go_wp2_with fail
      go_ret
      exact ⟨Attr.rt_bool HE.out.symm, hb⟩
theorem okG_size {gw gh : Int} {cs : List CellD} (h : sizeB gw gh = false) : okG gw gh cs = false := by unfold okG; rw [h]; rfl
theorem okG_len {gw gh : Int} {cs : List CellD} (h : (cs.length : Int) ≠ gw * gh) : okG gw gh cs = false := by unfold okG; rw [decide_eq_false h]; simp
theorem okG_all {gw gh : Int} {cs : List CellD} (h : sizeB gw gh = true) (hl : (cs.length : Int) = gw * gh) : okG gw gh cs = cs.all okC := by unfold okG; rw [h, decide_eq_true hl]; simp

set_option maxRecDepth 100000 in
set_option maxHeartbeats 1600000 in
theorem impl_GridOk_any (gw gh : Int) (A : Option Addr) (n c : Nat) (cs : List CellD) (w : World) (hr : RdC w w.heap.size A cs) (hl : cs.length = n) (hn : n ≤ 1099511627776) :
    Calls Try.prog 42 #[.agg #[.int .i64 gw, .int .i64 gh, .slice A n c]] w fun e w' => e = .returned (.bool (okG gw gh cs)) ∧ Below w.heap.size w w' := by
  have HR := Lib.hid hr
  have HL := Lib.hid hl
  clear hr hl
  have hb0 := Lib.hid ((Below.refl w.heap.size w).alloc (Nat.le_refl _) (.cells #[.int .i64 gw, .int .i64 gh, .slice A n c] 32))
  cases hs : sizeB gw gh
  · have HE := Lib.hid (okG_size (cs := cs) hs)
    have HS := Lib.hid hs
    clear hs
    go_enter Try.func42, Try.ntmps42
    go_wp2_with fail
    refine (isGridSize_any _ _ _).mono ?_
    rintro e w' ⟨rfl, rfl⟩
    rw [HS.out]
    go_wp2_with fail
    go_ret
    exact ⟨Attr.rt_bool HE.out.symm, hb0.out⟩
  · obtain ⟨s1, s2, s3, s4, s5⟩ := of_sizeB hs
    obtain ⟨m1, m2⟩ := mul_bd s1 s2 s3 s4
    have HS := Lib.hid hs
    by_cases hln : (n : Int) = gw * gh
    · have HE := Lib.hid (okG_all (cs := cs) hs (by rw [HL.out]; exact hln))
      have hq : ((n : Int) == gw * gh) = true := by simpa using hln
      clear hs hln
      go_enter Try.func42, Try.ntmps42
      go_wp2_with fail
      refine (isGridSize_any _ _ _).mono ?_
      rintro e w' ⟨rfl, rfl⟩
      rw [HS.out]
      go_wp2_with fail
      refine (areCells_any A n c cs _ ((HR.out.below (Nat.le_refl _) hb0.out).more (by simp)) HL.out hn).mono ?_
      rintro e v1 ⟨rfl, hb1⟩
      rw [← HE.out]
      have HB1 := Lib.hid (hb0.out.trans (hb1.mono (by simp)))
      clear hb1
      go_wp2_with fail
      go_ret
      exact ⟨rfl, HB1.out⟩
    · have HE := Lib.hid (okG_len (gw := gw) (gh := gh) (cs := cs) (by rw [HL.out]; exact hln))
      have hq : ((n : Int) == gw * gh) = false := by simpa using hln
      clear hs hln
      go_enter Try.func42, Try.ntmps42
      go_wp2_with fail
      refine (isGridSize_any _ _ _).mono ?_
      rintro e w' ⟨rfl, rfl⟩
      rw [HS.out]
      go_wp2_with fail
      go_ret
      exact ⟨Attr.rt_bool HE.out.symm, hb0.out⟩

set_option maxRecDepth 100000 in
set_option maxHeartbeats 1600000 in
theorem spec_GridOk_no (gw gh : Int) (A : Option Addr) (n c : Nat) (cs : List CellD) (w : World) (hs : sizeB gw gh = false) :
    Calls Try.prog 36 #[.agg #[.int .i64 gw, .int .i64 gh, .slice A n c]] w fun e w' => e = .returned (.bool (okG gw gh cs)) ∧ Below w.heap.size w w' := by
  have hb0 := Lib.hid ((Below.refl w.heap.size w).alloc (Nat.le_refl _) (.cells #[.int .i64 gw, .int .i64 gh, .slice A n c] 32))
  have HE := Lib.hid (okG_size (cs := cs) hs)
  have HS := Lib.hid hs
  clear hs
  by_cases h1 : 1 ≤ gw
  · by_cases h2 : gw ≤ 120
    · by_cases h3 : 1 ≤ gh
      · by_cases h4 : gh ≤ 120
        · obtain ⟨m1, m2⟩ := mul_bd h1 h2 h3 h4
          have h5 : 4000 < gw * gh := by
            rcases Int.lt_or_le 4000 (gw * gh) with h | h
            · exact h
            · have := sizeB_t ⟨h1, h2, h3, h4, h⟩; rw [HS.out] at this; cases this
          go_enter Try.func36, Try.ntmps36
          go_wp2_with fail
          go_ret
          exact ⟨Attr.rt_bool HE.out.symm, hb0.out⟩
        · go_enter Try.func36, Try.ntmps36
          go_wp2_with fail
          go_ret
          exact ⟨Attr.rt_bool HE.out.symm, hb0.out⟩
      · go_enter Try.func36, Try.ntmps36
        go_wp2_with fail
        go_ret
        exact ⟨Attr.rt_bool HE.out.symm, hb0.out⟩
    · go_enter Try.func36, Try.ntmps36
      go_wp2_with fail
      go_ret
      exact ⟨Attr.rt_bool HE.out.symm, hb0.out⟩
  · go_enter Try.func36, Try.ntmps36
    go_wp2_with fail
    go_ret
    exact ⟨Attr.rt_bool HE.out.symm, hb0.out⟩

set_option maxRecDepth 100000 in
set_option maxHeartbeats 3200000 in
theorem spec_GridOk_any (gw gh : Int) (A : Option Addr) (n c : Nat) (cs : List CellD) (w : World) (hr : RdC w w.heap.size A cs) (hl : cs.length = n) (hn : n ≤ 1099511627776) :
    Calls Try.prog 36 #[.agg #[.int .i64 gw, .int .i64 gh, .slice A n c]] w fun e w' => e = .returned (.bool (okG gw gh cs)) ∧ Below w.heap.size w w' := by
  cases hs : sizeB gw gh
  · exact spec_GridOk_no gw gh A n c cs w hs
  obtain ⟨s1, s2, s3, s4, s5⟩ := of_sizeB hs
  obtain ⟨m1, m2⟩ := mul_bd s1 s2 s3 s4
  have HR := Lib.hid hr
  have HL := Lib.hid hl
  clear hr hl
  have hb0 := Lib.hid ((Below.refl w.heap.size w).alloc (Nat.le_refl _) (.cells #[.int .i64 gw, .int .i64 gh, .slice A n c] 32))
  by_cases hln : (n : Int) = gw * gh
  · have HE := Lib.hid (okG_all (cs := cs) hs (by rw [HL.out]; exact hln))
    rw [HE.out]
    have hq : ((n : Int) != gw * gh) = false := by simpa using hln
    clear hs hln
    go_enter Try.func36, Try.ntmps36
    go_wp2_with fail
    go_loopw [45] (fun i wr => ∃ k : Nat, k ≤ n ∧ i = .int .i64 k ∧ (cs.take k).all okC = true ∧ Below w.heap.size w wr) (fun i _ => n - (intOf i).toNat)
    case atStart => exact ⟨0, Nat.zero_le _, rfl, by simp, hb0.out⟩
    case round =>
      obtain ⟨k, hk, rfl, ha, hb⟩ := hrel
      have hz : w.heap.size ≤ wr.heap.size := hb.size
      have HA := Lib.hid ha
      clear ha
      by_cases hlt : k < n
      · have hlf : k < cs.length := by rw [HL.out]; exact hlt
        obtain ⟨b, o, rfl, hB, hc0, hc1, hc2, hc3, hc4, hc5⟩ := (HR.out.below (Nat.le_refl _) hb).at_ hlf
        have HB := Lib.hid hb
        clear hb
        have HNX := Lib.hid (fun h => all_next hlf HA.out h)
        have HNO := Lib.hid (fun h => all_no hlf h)
        have HOK := Lib.hid (show okC cs[k] = (Rune.showB cs[k].r && Attr.okA cs[k].fg cs[k].bg) from rfl)
        generalize okC cs[k] = ok at *
        generalize cs[k].r = x0 at *
        generalize cs[k].fg = x1 at *
        generalize cs[k].bg = x2 at *
        generalize cs[k].b = x3 at *
        generalize cs[k].u = x4 at *
        generalize cs[k].t = x5 at *
        go_wp2_with fail
        refine (spec_CellOk_any x0 x1 x2 x3 x4 x5 _).mono ?_
        rintro e v1 ⟨rfl, hb1⟩
        have HB1 := Lib.hid (HB.out.trans (((Below.refl wr.heap.size wr).alloc (Nat.le_refl _) _ |>.trans (hb1.mono (by simp))).mono hz))
        clear hb1
        have HOK' : (Rune.showB x0 && Attr.okA x1 x2) = ok := HOK.out.symm
        rw [HOK']
        clear HOK'
        cases hok : ok
        · subst hok
          go_wp2_with fail
          go_ret
          exact ⟨Attr.rt_bool (HNO.out (by trivial)).symm, HB1.out⟩
        · subst hok
          go_wp2_with fail
          exact ⟨⟨k + 1, by omega, by go_num, HNX.out (by trivial), HB1.out⟩, by simp [intOf]; omega⟩
      · obtain rfl : n = k := by omega
        have HE := Lib.hid (show cs.all okC = true by have := HA.out; rwa [List.take_of_length_le (by rw [HL.out]; exact Nat.le_refl _)] at this)
        go_wp2_with fail
        go_ret
        exact ⟨Attr.rt_bool HE.out.symm, hb⟩
  · have HE := Lib.hid (okG_len (gw := gw) (gh := gh) (cs := cs) (by rw [HL.out]; exact hln))
    have hq : ((n : Int) != gw * gh) = true := by simpa using hln
    clear hs hln
    go_enter Try.func36, Try.ntmps36
    go_wp2_with fail
    go_ret
    exact ⟨Attr.rt_bool HE.out.symm, hb0.out⟩
end Go.Proofs.Ythlpchojlddnbaa.Gr

