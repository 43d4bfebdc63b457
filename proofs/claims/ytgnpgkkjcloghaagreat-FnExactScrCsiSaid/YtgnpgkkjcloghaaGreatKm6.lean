/- Texts that lay in modules of their own: GrOkD, AttrB, Shows, GrB, GrOk, ScOkW, KiEh. -/
import Derived.Test.YtgnpgkkjcloghaaGreatKm2
set_option maxRecDepth 100000
set_option maxHeartbeats 3200000
set_option linter.unusedVariables false
namespace Go.Proofs.YtgnpgkkjcloghaaGreat.Gr
open Lib
open Go.RowKit Bytes Rows_ RowK
def sizeB (gw gh : Int) : Bool := decide (1 ≤ gw ∧ gw ≤ 120 ∧ 1 ≤ gh ∧ gh ≤ 120 ∧ gw * gh ≤ 4000)
def okG (gw gh : Int) (cs : List CellD) : Bool := sizeB gw gh && (decide ((cs.length : Int) = gw * gh) && cs.all okC)
theorem sizeB_f {gw gh : Int} (h : ¬ (1 ≤ gw ∧ gw ≤ 120 ∧ 1 ≤ gh ∧ gh ≤ 120 ∧ gw * gh ≤ 4000)) : sizeB gw gh = false := decide_eq_false h
theorem sizeB_t {gw gh : Int} (h : 1 ≤ gw ∧ gw ≤ 120 ∧ 1 ≤ gh ∧ gh ≤ 120 ∧ gw * gh ≤ 4000) : sizeB gw gh = true := decide_eq_true h
theorem of_sizeB {gw gh : Int} (h : sizeB gw gh = true) : 1 ≤ gw ∧ gw ≤ 120 ∧ 1 ≤ gh ∧ gh ≤ 120 ∧ gw * gh ≤ 4000 := of_decide_eq_true h
theorem mul_bd {gw gh : Int} (h1 : 1 ≤ gw) (h2 : gw ≤ 120) (h3 : 1 ≤ gh) (h4 : gh ≤ 120) : 1 ≤ gw * gh ∧ gw * gh ≤ 14400 := by
  have a := Int.mul_le_mul h1 h3 (by omega) (by omega)
  have b := Int.mul_le_mul h2 h4 (by omega) (by omega)
  omega
theorem all_no {cs : List CellD} {k : Nat} (h : k < cs.length) (ho : okC cs[k] = false) : cs.all okC = false := by
  rw [List.all_eq_false]; exact ⟨cs[k], List.getElem_mem h, by rw [ho]; simp⟩
theorem all_next {cs : List CellD} {k : Nat} (h : k < cs.length) (ha : (cs.take k).all okC = true) (ho : okC cs[k] = true) : (cs.take (k + 1)).all okC = true := by
  rw [List.take_succ_eq_append_getElem h, List.all_append, ha]; simp [ho]
def sideG (n : Int) : Bool := decide (1 ≤ n) && decide (n ≤ 120)
theorem isSideG_any (n : Int) (w : World) : Calls Tryz.prog 162 #[.int .i64 n] w fun e w' => e = .returned (.bool (sideG n)) ∧ w = w' := by
  by_cases h1 : 1 ≤ n <;> by_cases h2 : n ≤ 120
  all_goals
    have HE := hid (show sideG n = (decide (1 ≤ n) && decide (n ≤ 120)) from rfl)
    go_enter Tryz.func162, Tryz.ntmps162
    go_wp2_with fail
    go_ret
    exact ⟨Attr.rt_bool (by rw [HE.out]; simp [h1, h2]), rfl⟩
theorem sideG_t {n : Int} (h : sideG n = true) : 1 ≤ n ∧ n ≤ 120 := by simpa [sideG] using h
theorem sideG_f {n : Int} (h : sideG n = false) : ¬ (1 ≤ n ∧ n ≤ 120) := fun k => by simp [sideG, k] at h
theorem isGridSize_any (gw gh : Int) (w : World) :
    Calls Tryz.prog 144 #[.int .i64 gw, .int .i64 gh] w fun e w' => e = .returned (.bool (sizeB gw gh)) ∧ w = w' := by
  cases hs1 : sideG gw <;> have S1 := hid hs1 <;> clear hs1
  · have HE := hid (sizeB_f (gw := gw) (gh := gh) (fun k => sideG_f S1.out ⟨k.1, k.2.1⟩))
    go_enter Tryz.func144, Tryz.ntmps144
    go_wp2_with (go_at_call 162; refine (isSideG_any gw _).mono ?_; rintro e v ⟨rfl, rfl⟩; rw [S1.out])
    go_ret
    exact ⟨Attr.rt_bool HE.out.symm, rfl⟩
  · cases hs2 : sideG gh <;> have S2 := hid hs2 <;> clear hs2
    · have HE := hid (sizeB_f (gw := gw) (gh := gh) (fun k => sideG_f S2.out ⟨k.2.2.1, k.2.2.2.1⟩))
      go_enter Tryz.func144, Tryz.ntmps144
      go_wp2_with fail
      refine (isSideG_any gw _).mono ?_
      rintro e v ⟨rfl, rfl⟩
      rw [S1.out]
      go_wp2_with fail
      refine (isSideG_any gh _).mono ?_
      rintro e v ⟨rfl, rfl⟩
      rw [S2.out]
      go_wp2_with fail
      go_ret
      exact ⟨Attr.rt_bool HE.out.symm, rfl⟩
    · obtain ⟨h1, h2⟩ := sideG_t S1.out
      obtain ⟨h3, h4⟩ := sideG_t S2.out
      obtain ⟨m1, m2⟩ := mul_bd h1 h2 h3 h4
      have HE := hid (show sizeB gw gh = decide (gw * gh ≤ 4000) by unfold sizeB; simp [h1, h2, h3, h4])
      go_enter Tryz.func144, Tryz.ntmps144
      go_wp2_with fail
      refine (isSideG_any gw _).mono ?_
      rintro e v ⟨rfl, rfl⟩
      rw [S1.out]
      go_wp2_with fail
      refine (isSideG_any gh _).mono ?_
      rintro e v ⟨rfl, rfl⟩
      rw [S2.out]
      go_wp2_with fail
      go_ret
      exact ⟨Attr.rt_bool HE.out.symm, rfl⟩
end Go.Proofs.YtgnpgkkjcloghaaGreat.Gr
namespace Go.Proofs.YtgnpgkkjcloghaaGreat.Attr
open Lib
open Go.RowKit
theorem spec_AttrOk_any (fg bg : Int) (b u t : Bool) (w : World) :
    Calls Tryz.prog 36 #[.agg #[.int .i64 fg, .int .i64 bg, .bool b, .bool u, .bool t]] w fun e w' => e = .returned (.bool (okA fg bg)) ∧ Below w.heap.size w w' := by
  go_enter Tryz.func36, Tryz.ntmps36
  go_wp2
  all_goals
    go_ret
    refine ⟨rt_bool (by unfold okA; rw [Bool.eq_iff_iff]; simp <;> omega), ?_⟩
    exact (Below.refl _ _).alloc (Nat.le_refl _) _
def colB (n : Int) : Bool := decide (0 ≤ n ∧ n ≤ 8)
theorem isColor_any (n : Int) (w : World) :
    Calls Tryz.prog 106 #[.int .i64 n] w fun e w' => e = .returned (.bool (colB n)) ∧ w = w' := by
  go_enter Tryz.func106, Tryz.ntmps106
  go_wp2
  all_goals
    go_ret
    exact ⟨rt_bool (by unfold colB; rw [Bool.eq_iff_iff]; simp <;> omega), rfl⟩
theorem okA_split (fg bg : Int) : okA fg bg = (colB fg && colB bg) := by
  unfold okA colB; rw [Bool.eq_iff_iff]; simp; omega
theorem impl_AttrOk_any (fg bg : Int) (b u t : Bool) (w : World) :
    Calls Tryz.prog 84 #[.agg #[.int .i64 fg, .int .i64 bg, .bool b, .bool u, .bool t]] w fun e w' => e = .returned (.bool (okA fg bg)) ∧ Below w.heap.size w w' := by
  cases hf : colB fg <;> have HF := hid hf <;> clear hf <;> cases hg : colB bg <;> have HG := hid hg <;> clear hg <;>
  · go_enter Tryz.func84, Tryz.ntmps84
    go_wp2_with (go_at_call 106; refine (isColor_any _ _).mono ?_; rintro e w' ⟨rfl, rfl⟩; (first | rw [HF.out] | rw [HG.out]))
    go_ret
    exact ⟨rt_bool (by rw [okA_split, HF.out, HG.out]; rfl), (Below.refl _ _).alloc (Nat.le_refl _) _⟩
end Go.Proofs.YtgnpgkkjcloghaaGreat.Attr
namespace Go.Proofs.YtgnpgkkjcloghaaGreat.Rune
open Lib
open Go.RowKit
theorem spec_Shows_any (r : Int) (w : World) : Calls Tryz.prog 81 #[.int .i64 r] w fun e w' => e = .returned (.bool (showB r)) ∧ w = w' := by
  go_enter Tryz.func81, Tryz.ntmps81
  go_wp2
  all_goals
    go_ret
    exact ⟨rt_bool (by unfold showB; rw [Bool.eq_iff_iff]; simp <;> omega), rfl⟩
theorem impl_Shows_any (r : Int) (w : World) : Calls Tryz.prog 92 #[.int .i64 r] w fun e w' => e = .returned (.bool (showB r)) ∧ w = w' := by
  go_enter Tryz.func92, Tryz.ntmps92
  go_wp2
  all_goals
    go_ret
    exact ⟨rt_bool (by unfold showB; rw [Bool.eq_iff_iff]; simp <;> omega), rfl⟩
end Go.Proofs.YtgnpgkkjcloghaaGreat.Rune
namespace Go.Proofs.YtgnpgkkjcloghaaGreat.Gr
open Lib
open Go.RowKit Bytes Rows_ Attr Rune
theorem spec_CellOk_any (r fg bg : Int) (b u t : Bool) (w : World) :
    Calls Tryz.prog 66 #[.agg #[.int .i64 r, .int .i64 fg, .int .i64 bg, .bool b, .bool u, .bool t]] w fun e w' => e = .returned (.bool (showB r && okA fg bg)) ∧ Below w.heap.size w w' := by
  have h0 := hid ((Below.refl w.heap.size w).alloc (Nat.le_refl _) (.cells #[.int .i64 r, .int .i64 fg, .int .i64 bg, .bool b, .bool u, .bool t] 81))
  cases hs : showB r <;> have HS := hid hs <;> clear hs
  · go_enter Tryz.func66, Tryz.ntmps66
    go_wp2_with fail
    refine (spec_Shows_any _ _).mono ?_
    rintro e v1 ⟨rfl, rfl⟩
    rw [HS.out]
    go_wp2_with fail
    go_ret
    exact ⟨rfl, h0.out⟩
  · cases ha : okA fg bg <;> have HA := hid ha <;> clear ha <;>
    · go_enter Tryz.func66, Tryz.ntmps66
      go_wp2_with fail
      refine (spec_Shows_any _ _).mono ?_
      rintro e v1 ⟨rfl, rfl⟩
      rw [HS.out]
      go_wp2_with fail
      refine (spec_AttrOk_any _ _ _ _ _ _).mono ?_
      rintro e v1 ⟨rfl, hb1⟩
      rw [HA.out]
      have h1 := hid (h0.out.trans (hb1.mono (by simp)))
      clear hb1
      go_wp2_with fail
      go_ret
      exact ⟨rfl, h1.out⟩
theorem impl_CellOk_any (r fg bg : Int) (b u t : Bool) (w : World) :
    Calls Tryz.prog 145 #[.agg #[.int .i64 r, .int .i64 fg, .int .i64 bg, .bool b, .bool u, .bool t]] w fun e w' => e = .returned (.bool (showB r && okA fg bg)) ∧ Below w.heap.size w w' := by
  have h0 := hid ((Below.refl w.heap.size w).alloc (Nat.le_refl _) (.cells #[.int .i64 r, .int .i64 fg, .int .i64 bg, .bool b, .bool u, .bool t] 81))
  cases hs : showB r <;> have HS := hid hs <;> clear hs
  · go_enter Tryz.func145, Tryz.ntmps145
    go_wp2_with fail
    refine (impl_Shows_any _ _).mono ?_
    rintro e v1 ⟨rfl, rfl⟩
    rw [HS.out]
    go_wp2_with fail
    go_ret
    exact ⟨rfl, h0.out⟩
  · cases ha : okA fg bg <;> have HA := hid ha <;> clear ha <;>
    · go_enter Tryz.func145, Tryz.ntmps145
      go_wp2_with fail
      refine (impl_Shows_any _ _).mono ?_
      rintro e v1 ⟨rfl, rfl⟩
      rw [HS.out]
      go_wp2_with fail
      refine (impl_AttrOk_any _ _ _ _ _ _).mono ?_
      rintro e v1 ⟨rfl, hb1⟩
      rw [HA.out]
      have h1 := hid (h0.out.trans (hb1.mono (by simp)))
      clear hb1
      go_wp2_with fail
      go_ret
      exact ⟨rfl, h1.out⟩
end Go.Proofs.YtgnpgkkjcloghaaGreat.Gr
namespace Go.Proofs.YtgnpgkkjcloghaaGreat.Gr
open Lib
open Go.RowKit Bytes Rows_ RowK
theorem areCells_any (A : Option Addr) (n c : Nat) (cs : List CellD) (w : World) (hr : RdC w w.heap.size A cs) (hl : cs.length = n) (hn : n ≤ 1099511627776) :
    Calls Tryz.prog 107 #[.slice A n c] w fun e w' => e = .returned (.bool (cs.all okC)) ∧ Below w.heap.size w w' := by
  have HR := hid hr
  have HL := hid hl
  clear hr hl
  go_enter Tryz.func107, Tryz.ntmps107
  go_wp2_with fail
  go_loopw [7] (fun i wr => ∃ k : Nat, k ≤ n ∧ i = .int .i64 k ∧ (cs.take k).all okC = true ∧ Below w.heap.size w wr) (fun i _ => n - (intOf i).toNat)
  case atStart => exact ⟨0, Nat.zero_le _, rfl, by simp, Below.refl _ _⟩
  case round =>
    obtain ⟨k, hk, rfl, ha, hb⟩ := hrel
    have hz : w.heap.size ≤ wr.heap.size := hb.size
    have HA := hid ha
    clear ha
    by_cases hlt : k < n
    · have hlf : k < cs.length := by rw [HL.out]; exact hlt
      obtain ⟨b, o, rfl, hB, hc0, hc1, hc2, hc3, hc4, hc5⟩ := (HR.out.below (Nat.le_refl _) hb).at_ hlf
      have HB := hid hb
      clear hb
      have HNX := hid (fun h => all_next hlf HA.out h)
      have HNO := hid (fun h => all_no hlf h)
      have HOK := hid (show okC cs[k] = (Rune.showB cs[k].r && Attr.okA cs[k].fg cs[k].bg) from rfl)
      generalize okC cs[k] = ok at *
      generalize cs[k].r = x0 at *
      generalize cs[k].fg = x1 at *
      generalize cs[k].bg = x2 at *
      generalize cs[k].b = x3 at *
      generalize cs[k].u = x4 at *
      generalize cs[k].t = x5 at *
      go_wp2_with fail
      refine (impl_CellOk_any x0 x1 x2 x3 x4 x5 _).mono ?_
      rintro e v1 ⟨rfl, hb1⟩
      have HB1 := hid (HB.out.trans (((Below.refl wr.heap.size wr).alloc (Nat.le_refl _) _ |>.trans (hb1.mono (by simp))).mono hz))
      clear hb1
      have HOK' : (Rune.showB x0 && Attr.okA x1 x2) = ok := HOK.out.symm
      rw [HOK']
      clear HOK'
      cases hok : ok
      · subst hok
        go_wp2_with fail
        go_ret
        exact ⟨Attr.rt_bool (HNO.out (by trivial)).symm, HB1.out⟩
      · subst hok
        go_wp2_with fail
        exact ⟨⟨k + 1, by omega, by go_num, HNX.out (by trivial), HB1.out⟩, by simp [intOf]; omega⟩
    · obtain rfl : n = k := by omega
      have HE := hid (show cs.all okC = true by have := HA.out; rwa [List.take_of_length_le (by rw [HL.out]; exact Nat.le_refl _)] at this)
      go_wp2_with fail
      go_ret
      exact ⟨Attr.rt_bool HE.out.symm, hb⟩
theorem okG_size {gw gh : Int} {cs : List CellD} (h : sizeB gw gh = false) : okG gw gh cs = false := by unfold okG; rw [h]; rfl
theorem okG_len {gw gh : Int} {cs : List CellD} (h : (cs.length : Int) ≠ gw * gh) : okG gw gh cs = false := by unfold okG; rw [decide_eq_false h]; simp
theorem okG_all {gw gh : Int} {cs : List CellD} (h : sizeB gw gh = true) (hl : (cs.length : Int) = gw * gh) : okG gw gh cs = cs.all okC := by unfold okG; rw [h, decide_eq_true hl]; simp
theorem impl_GridOk_any (gw gh : Int) (A : Option Addr) (n c : Nat) (cs : List CellD) (w : World) (hr : RdC w w.heap.size A cs) (hl : cs.length = n) (hn : n ≤ 1099511627776) :
    Calls Tryz.prog 105 #[.agg #[.int .i64 gw, .int .i64 gh, .slice A n c]] w fun e w' => e = .returned (.bool (okG gw gh cs)) ∧ Below w.heap.size w w' := by
  have HR := hid hr
  have HL := hid hl
  clear hr hl
  have hb0 := hid ((Below.refl w.heap.size w).alloc (Nat.le_refl _) (.cells #[.int .i64 gw, .int .i64 gh, .slice A n c] 34))
  cases hs : sizeB gw gh
  · have HE := hid (okG_size (cs := cs) hs)
    have HS := hid hs
    clear hs
    go_enter Tryz.func105, Tryz.ntmps105
    go_wp2_with fail
    refine (isGridSize_any _ _ _).mono ?_
    rintro e w' ⟨rfl, rfl⟩
    rw [HS.out]
    go_wp2_with fail
    go_ret
    exact ⟨Attr.rt_bool HE.out.symm, hb0.out⟩
  · obtain ⟨s1, s2, s3, s4, s5⟩ := of_sizeB hs
    obtain ⟨m1, m2⟩ := mul_bd s1 s2 s3 s4
    have HS := hid hs
    by_cases hln : (n : Int) = gw * gh
    · have HE := hid (okG_all (cs := cs) hs (by rw [HL.out]; exact hln))
      have hq : ((n : Int) == gw * gh) = true := by simpa using hln
      clear hs hln
      go_enter Tryz.func105, Tryz.ntmps105
      go_wp2_with fail
      refine (isGridSize_any _ _ _).mono ?_
      rintro e w' ⟨rfl, rfl⟩
      rw [HS.out]
      go_wp2_with fail
      refine (areCells_any A n c cs _ ((HR.out.below (Nat.le_refl _) hb0.out).more (by simp)) HL.out hn).mono ?_
      rintro e v1 ⟨rfl, hb1⟩
      rw [← HE.out]
      have HB1 := hid (hb0.out.trans (hb1.mono (by simp)))
      clear hb1
      go_wp2_with fail
      go_ret
      exact ⟨rfl, HB1.out⟩
    · have HE := hid (okG_len (gw := gw) (gh := gh) (cs := cs) (by rw [HL.out]; exact hln))
      have hq : ((n : Int) == gw * gh) = false := by simpa using hln
      clear hs hln
      go_enter Tryz.func105, Tryz.ntmps105
      go_wp2_with fail
      refine (isGridSize_any _ _ _).mono ?_
      rintro e w' ⟨rfl, rfl⟩
      rw [HS.out]
      go_wp2_with fail
      go_ret
      exact ⟨Attr.rt_bool HE.out.symm, hb0.out⟩
theorem spec_GridOk_no (gw gh : Int) (A : Option Addr) (n c : Nat) (cs : List CellD) (w : World) (hs : sizeB gw gh = false) :
    Calls Tryz.prog 35 #[.agg #[.int .i64 gw, .int .i64 gh, .slice A n c]] w fun e w' => e = .returned (.bool (okG gw gh cs)) ∧ Below w.heap.size w w' := by
  have hb0 := hid ((Below.refl w.heap.size w).alloc (Nat.le_refl _) (.cells #[.int .i64 gw, .int .i64 gh, .slice A n c] 34))
  have HE := hid (okG_size (cs := cs) hs)
  have HS := hid hs
  clear hs
  by_cases h1 : 1 ≤ gw
  · by_cases h2 : gw ≤ 120
    · by_cases h3 : 1 ≤ gh
      · by_cases h4 : gh ≤ 120
        · obtain ⟨m1, m2⟩ := mul_bd h1 h2 h3 h4
          have h5 : 4000 < gw * gh := by
            rcases Int.lt_or_le 4000 (gw * gh) with h | h
            · exact h
            · have := sizeB_t ⟨h1, h2, h3, h4, h⟩; rw [HS.out] at this; cases this
          go_enter Tryz.func35, Tryz.ntmps35
          go_wp2_with fail
          go_ret
          exact ⟨Attr.rt_bool HE.out.symm, hb0.out⟩
        · go_enter Tryz.func35, Tryz.ntmps35
          go_wp2_with fail
          go_ret
          exact ⟨Attr.rt_bool HE.out.symm, hb0.out⟩
      · go_enter Tryz.func35, Tryz.ntmps35
        go_wp2_with fail
        go_ret
        exact ⟨Attr.rt_bool HE.out.symm, hb0.out⟩
    · go_enter Tryz.func35, Tryz.ntmps35
      go_wp2_with fail
      go_ret
      exact ⟨Attr.rt_bool HE.out.symm, hb0.out⟩
  · go_enter Tryz.func35, Tryz.ntmps35
    go_wp2_with fail
    go_ret
    exact ⟨Attr.rt_bool HE.out.symm, hb0.out⟩
theorem spec_GridOk_any (gw gh : Int) (A : Option Addr) (n c : Nat) (cs : List CellD) (w : World) (hr : RdC w w.heap.size A cs) (hl : cs.length = n) (hn : n ≤ 1099511627776) :
    Calls Tryz.prog 35 #[.agg #[.int .i64 gw, .int .i64 gh, .slice A n c]] w fun e w' => e = .returned (.bool (okG gw gh cs)) ∧ Below w.heap.size w w' := by
  cases hs : sizeB gw gh
  · exact spec_GridOk_no gw gh A n c cs w hs
  obtain ⟨s1, s2, s3, s4, s5⟩ := of_sizeB hs
  obtain ⟨m1, m2⟩ := mul_bd s1 s2 s3 s4
  have HR := hid hr
  have HL := hid hl
  clear hr hl
  have hb0 := hid ((Below.refl w.heap.size w).alloc (Nat.le_refl _) (.cells #[.int .i64 gw, .int .i64 gh, .slice A n c] 34))
  by_cases hln : (n : Int) = gw * gh
  · have HE := hid (okG_all (cs := cs) hs (by rw [HL.out]; exact hln))
    rw [HE.out]
    have hq : ((n : Int) != gw * gh) = false := by simpa using hln
    clear hs hln
    go_enter Tryz.func35, Tryz.ntmps35
    go_wp2_with fail
    go_loopw [45] (fun i wr => ∃ k : Nat, k ≤ n ∧ i = .int .i64 k ∧ (cs.take k).all okC = true ∧ Below w.heap.size w wr) (fun i _ => n - (intOf i).toNat)
    case atStart => exact ⟨0, Nat.zero_le _, rfl, by simp, hb0.out⟩
    case round =>
      obtain ⟨k, hk, rfl, ha, hb⟩ := hrel
      have hz : w.heap.size ≤ wr.heap.size := hb.size
      have HA := hid ha
      clear ha
      by_cases hlt : k < n
      · have hlf : k < cs.length := by rw [HL.out]; exact hlt
        obtain ⟨b, o, rfl, hB, hc0, hc1, hc2, hc3, hc4, hc5⟩ := (HR.out.below (Nat.le_refl _) hb).at_ hlf
        have HB := hid hb
        clear hb
        have HNX := hid (fun h => all_next hlf HA.out h)
        have HNO := hid (fun h => all_no hlf h)
        have HOK := hid (show okC cs[k] = (Rune.showB cs[k].r && Attr.okA cs[k].fg cs[k].bg) from rfl)
        generalize okC cs[k] = ok at *
        generalize cs[k].r = x0 at *
        generalize cs[k].fg = x1 at *
        generalize cs[k].bg = x2 at *
        generalize cs[k].b = x3 at *
        generalize cs[k].u = x4 at *
        generalize cs[k].t = x5 at *
        go_wp2_with fail
        refine (spec_CellOk_any x0 x1 x2 x3 x4 x5 _).mono ?_
        rintro e v1 ⟨rfl, hb1⟩
        have HB1 := hid (HB.out.trans (((Below.refl wr.heap.size wr).alloc (Nat.le_refl _) _ |>.trans (hb1.mono (by simp))).mono hz))
        clear hb1
        have HOK' : (Rune.showB x0 && Attr.okA x1 x2) = ok := HOK.out.symm
        rw [HOK']
        clear HOK'
        cases hok : ok
        · subst hok
          go_wp2_with fail
          go_ret
          exact ⟨Attr.rt_bool (HNO.out (by trivial)).symm, HB1.out⟩
        · subst hok
          go_wp2_with fail
          exact ⟨⟨k + 1, by omega, by go_num, HNX.out (by trivial), HB1.out⟩, by simp [intOf]; omega⟩
      · obtain rfl : n = k := by omega
        have HE := hid (show cs.all okC = true by have := HA.out; rwa [List.take_of_length_le (by rw [HL.out]; exact Nat.le_refl _)] at this)
        go_wp2_with fail
        go_ret
        exact ⟨Attr.rt_bool HE.out.symm, hb⟩
  · have HE := hid (okG_len (gw := gw) (gh := gh) (cs := cs) (by rw [HL.out]; exact hln))
    have hq : ((n : Int) != gw * gh) = true := by simpa using hln
    clear hs hln
    go_enter Tryz.func35, Tryz.ntmps35
    go_wp2_with fail
    go_ret
    exact ⟨Attr.rt_bool HE.out.symm, hb0.out⟩
end Go.Proofs.YtgnpgkkjcloghaaGreat.Gr
namespace Go.Proofs.YtgnpgkkjcloghaaGreat.Sc
open Lib
open Go.RowKit Bytes Rows_ RowK Gr DOk Opq Attr
def okT : Int → Int → List Int → Bool
  | _, _, [] => true
  | last, w, t :: l => decide (last < t ∧ t < w) && okT t w l
def okRow (cs : List CellD) : Bool := decide (1 ≤ cs.length ∧ cs.length ≤ 120) && cs.all okC
def C1 (d : ScrD) : Prop := okG d.mw d.mh d.M = true ∧ okG d.aw d.ah d.A = true ∧ d.mw = d.w ∧ d.mh = d.h ∧ d.aw = d.w ∧ d.ah = d.h
def C3 (d : ScrD) : Prop := 0 ≤ d.x ∧ d.x < d.w ∧ 0 ≤ d.y ∧ d.y < d.h ∧ (d.wrap = true → d.x = d.w - 1) ∧ 0 ≤ d.sx ∧ d.sx < d.w ∧ 0 ≤ d.sy ∧ d.sy < d.h ∧ okA d.fg d.bg = true ∧ okA d.sfg d.sbg = true
def C5 (d : ScrD) : Prop := 0 ≤ d.top ∧ d.bot < d.h ∧ d.top ≤ d.bot ∧ (d.top = d.bot → d.h = 1) ∧ 0 ≤ d.lim ∧ d.lim ≤ 100 ∧ (d.rows.length : Int) ≤ d.lim
def OkP (d : ScrD) : Prop := C1 d ∧ C3 d ∧ C5 d ∧ okT (-1) d.w d.tabs = true ∧ d.rows.all okRow = true
noncomputable def okD (d : ScrD) : Bool := @decide (OkP d) (Classical.propDecidable _)
theorem okD_iff {d : ScrD} : okD d = true ↔ OkP d := by unfold okD; exact @decide_eq_true_iff _ (Classical.propDecidable _)
theorem okD_f {d : ScrD} (h : ¬ OkP d) : okD d = false := by
  cases h' : okD d
  · rfl
  · exact absurd (okD_iff.1 h') h
theorem okD_t {d : ScrD} (h : OkP d) : okD d = true := okD_iff.2 h
def Tst (P : Prop) (s : Value) : Prop := ∃ b : Bool, s = .bool b ∧ Hid (b = true ↔ P)
theorem Tst.mk {P : Prop} (b : Bool) (h : b = true ↔ P) : Tst P (.bool b) := ⟨b, rfl, h⟩
def lastOf : Int → List Int → Int
  | last, [] => last
  | _, t :: l => lastOf t l
theorem okT_app : ∀ (last w : Int) (l r : List Int), okT last w (l ++ r) = (okT last w l && okT (lastOf last l) w r)
  | last, w, [], r => by simp [okT, lastOf]
  | last, w, t :: l, r => by rw [List.cons_append, okT, okT_app, okT, lastOf, Bool.and_assoc]
theorem okT_last : ∀ (last w : Int) (l : List Int), okT last w l = true → last ≤ lastOf last l ∧ (l ≠ [] → last < lastOf last l)
  | last, w, [], h => ⟨by simp [lastOf], fun h => absurd rfl h⟩
  | last, w, t :: l, h => by
    rw [okT, Bool.and_eq_true] at h
    have h1 := of_decide_eq_true h.1
    have h2 := okT_last t w l h.2
    rw [lastOf]
    exact ⟨by omega, fun _ => by omega⟩
theorem lastOf_snoc : ∀ (last : Int) (l : List Int) (t : Int), lastOf last (l ++ [t]) = t
  | _, [], t => rfl
  | _, x :: l, t => lastOf_snoc x l t
theorem okT_next {w : Int} {zs : List Int} {k : Nat} (hk : k < zs.length) (h : okT (-1) w (zs.take k) = true) (h1 : lastOf (-1) (zs.take k) < zs[k]) (h2 : zs[k] < w) : okT (-1) w (zs.take (k + 1)) = true := by
  rw [List.take_succ_eq_append_getElem hk, okT_app, h, Bool.true_and]
  simp [okT, h1, h2]
theorem okT_no {w : Int} {zs : List Int} {k : Nat} (hk : k < zs.length) (h1 : ¬ (lastOf (-1) (zs.take k) < zs[k] ∧ zs[k] < w)) : okT (-1) w zs = false := by
  have e : zs = zs.take k ++ zs[k] :: zs.drop (k + 1) := by rw [List.getElem_cons_drop, List.take_append_drop]
  rw [e, okT_app, okT]
  rw [decide_eq_false h1]; simp
theorem last_succ {zs : List Int} {j : Nat} (hj : j < zs.length) : lastOf (-1) (zs.take (j + 1)) = zs[j] := by rw [List.take_succ_eq_append_getElem hj, lastOf_snoc]
theorem last_nonneg {w : Int} {zs : List Int} {j : Nat} (hj : j < zs.length) (h : okT (-1) w (zs.take (j + 1)) = true) : 0 ≤ zs[j] := by
  have h1 := (okT_last _ _ _ h).2 (by intro e; simp at e; subst e; simp at hj)
  rw [last_succ hj] at h1; omega
end Go.Proofs.YtgnpgkkjcloghaaGreat.Sc
namespace Go.Proofs.YtgnpgkkjcloghaaGreat.Gr
open Lib
open Go.RowKit Bytes Rows_ RowK
def inB (gw gh x y : Int) : Bool := decide (0 ≤ x ∧ x < gw ∧ 0 ≤ y ∧ y < gh)
theorem of_okG {gw gh : Int} {cs : List CellD} (h : okG gw gh cs = true) : (1 ≤ gw ∧ gw ≤ 120 ∧ 1 ≤ gh ∧ gh ≤ 120 ∧ gw * gh ≤ 4000) ∧ (cs.length : Int) = gw * gh ∧ cs.all okC = true := by
  unfold okG at h; simp only [Bool.and_eq_true, decide_eq_true_eq] at h
  exact ⟨of_sizeB h.1, h.2.1, h.2.2⟩
theorem le_nat {W H : Nat} (h : (W : Int) * H ≤ 4000) : W * H ≤ 4000 := by rw [← Int.natCast_mul] at h; omega
theorem eq_nat {n W H : Nat} (h : (n : Int) = (W : Int) * H) : n = W * H := by rw [← Int.natCast_mul] at h; omega
theorem sides {gw gh : Int} {cs : List CellD} (h : okG gw gh cs = true) : ∃ W H : Nat, gw = (W : Int) ∧ gh = (H : Int) ∧ 1 ≤ W ∧ W ≤ 120 ∧ 1 ≤ H ∧ H ≤ 120 ∧ W * H ≤ 4000 ∧ cs.length = W * H := by
  obtain ⟨⟨h1, h2, h3, h4, h5⟩, hl, _⟩ := of_okG h
  obtain ⟨W, rfl⟩ := Int.eq_ofNat_of_zero_le (show 0 ≤ gw by omega)
  obtain ⟨H, rfl⟩ := Int.eq_ofNat_of_zero_le (show 0 ≤ gh by omega)
  exact ⟨W, H, rfl, rfl, by omega, by omega, by omega, by omega, le_nat h5, eq_nat hl⟩
theorem row_lt {W H x y : Nat} (hx : x < W) (hy : y < H) : y * W + x < W * H := by
  have : (y + 1) * W ≤ H * W := Nat.mul_le_mul_right W hy
  rw [Nat.add_mul] at this; rw [Nat.mul_comm W H]; omega
theorem inB_t {gw gh x y : Int} (h : inB gw gh x y = true) : 0 ≤ x ∧ x < gw ∧ 0 ≤ y ∧ y < gh := of_decide_eq_true h
theorem inB_f {gw gh x y : Int} (h : ¬ (0 ≤ x ∧ x < gw ∧ 0 ≤ y ∧ y < gh)) : inB gw gh x y = false := decide_eq_false h
theorem hasCell_any (gw gh : Int) (A : Option Addr) (n c : Nat) (x y : Int) (w : World) :
    Calls Tryz.prog 83 #[.agg #[.int .i64 gw, .int .i64 gh, .slice A n c], .int .i64 x, .int .i64 y] w fun e w' => e = .returned (.bool (inB gw gh x y)) ∧ Below w.heap.size w w' := by
  have hb0 := hid ((Below.refl w.heap.size w).alloc (Nat.le_refl _) (.cells #[.int .i64 gw, .int .i64 gh, .slice A n c] 34))
  have HE := hid (show inB gw gh x y = (decide (0 ≤ x) && (decide (x < gw) && (decide (0 ≤ y) && decide (y < gh)))) by unfold inB; rw [Bool.eq_iff_iff]; simp)
  by_cases h1 : 0 ≤ x
  · by_cases h2 : x < gw
    · by_cases h3 : 0 ≤ y
      · by_cases h4 : y < gh
        · have HF := hid (show (decide (y < gh)) = inB gw gh x y by rw [HE.out]; simp [h1, h2, h3])
          go_enter Tryz.func83, Tryz.ntmps83
          go_wp2_with fail
          go_ret
          exact ⟨Attr.rt_bool (by rw [← HF.out]; simp [h4]), hb0.out⟩
        · have HF := hid (inB_f (gw := gw) (gh := gh) (x := x) (y := y) (by omega)).symm
          go_enter Tryz.func83, Tryz.ntmps83
          go_wp2_with fail
          go_ret
          exact ⟨Attr.rt_bool HF.out, hb0.out⟩
      · have HF := hid (inB_f (gw := gw) (gh := gh) (x := x) (y := y) (by omega)).symm
        go_enter Tryz.func83, Tryz.ntmps83
        go_wp2_with fail
        go_ret
        exact ⟨Attr.rt_bool HF.out, hb0.out⟩
    · have HF := hid (inB_f (gw := gw) (gh := gh) (x := x) (y := y) (by omega)).symm
      go_enter Tryz.func83, Tryz.ntmps83
      go_wp2_with fail
      go_ret
      exact ⟨Attr.rt_bool HF.out, hb0.out⟩
  · have HF := hid (inB_f (gw := gw) (gh := gh) (x := x) (y := y) (by omega)).symm
    go_enter Tryz.func83, Tryz.ntmps83
    go_wp2_with fail
    go_ret
    exact ⟨Attr.rt_bool HF.out, hb0.out⟩
end Go.Proofs.YtgnpgkkjcloghaaGreat.Gr
