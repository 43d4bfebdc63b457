/- The laws' helpers over rows of cells and grids: the copy, the size, the comparison where both hold the same. -/
import Derived.Test.YthlpchojlddnbaaGrC
import Derived.Test.YthlpchojlddnbaaKiA
import Derived.Deep.RegionWith
import Derived.Deep.DrawnRows
namespace Go.Proofs.Ythlpchojlddnbaa.Gr
open Go.RowKit Go.Proofs.Ythlpchojlddnbaa.Bytes Go.Proofs.Ythlpchojlddnbaa.Rows_ Go.Proofs.Ythlpchojlddnbaa.RowK
set_option linter.unusedVariables false
attribute [local go_sem ↓] Go.wp_at_zero Go.wp_at_succ
section
variable {w : World} {base g n c : Nat} {E : TypeId} {pre post : List (List Value)}
theorem row6 {z0 z1 z2 z3 z4 z5 : Value} (v0 v1 v2 v3 v4 v5 : Value) (hpre : ∀ r ∈ pre, r.length = 6) (k : Nat) (hk : pre.length = k) (h : w.ownsRow base E 6 (.slice (some ⟨g, 0, none⟩) n c) n (pre ++ [[z0, z1, z2, z3, z4, z5]] ++ post).flatten) :
    ((((((w.setCell ⟨g, k * 6, none⟩ v0).setCell ⟨g, k * 6 + 1, none⟩ v1).setCell ⟨g, k * 6 + 2, none⟩ v2).setCell ⟨g, k * 6 + 3, none⟩ v3).setCell ⟨g, k * 6 + 4, none⟩ v4).setCell ⟨g, k * 6 + 5, none⟩ v5).ownsRow base E 6 (.slice (some ⟨g, 0, none⟩) n c) n (pre ++ [[v0, v1, v2, v3, v4, v5]] ++ post).flatten := by
  have h0 := rowJ (K := 6) rfl hpre k hk 0 (by omega) v0 h
  have h1 := rowJ (K := 6) rfl hpre k hk 1 (by omega) v1 h0
  have h2 := rowJ (K := 6) rfl hpre k hk 2 (by omega) v2 h1
  have h3 := rowJ (K := 6) rfl hpre k hk 3 (by omega) v3 h2
  have h4 := rowJ (K := 6) rfl hpre k hk 4 (by omega) v4 h3
  exact rowJ (K := 6) rfl hpre k hk 5 (by omega) v5 h4
end
theorem cellInfo : (Try.prog.info? 37).map (fun i => (i.zero, i.size, i.bytes)) = some (some (.agg #[.int .i64 0, .int .i64 0, .int .i64 0, .bool false, .bool false, .bool false]), 6, 32) := by kernel_rfl
def zC : List Value := [.int .i64 0, .int .i64 0, .int .i64 0, .bool false, .bool false, .bool false]
def partC (cs : List CellD) (n k : Nat) : List Value := ((cs.take k).map cellR ++ List.replicate (n - k) zC).flatten
theorem OwnC.rd {w : World} {base : Nat} {A : Option Addr} {n c : Nat} {cs : List CellD} (h : OwnC w base A n c cs) : RdC w w.heap.size A cs := own_rdK (cell_len cs) (by omega) h
theorem OwnC.len {w : World} {base : Nat} {A : Option Addr} {n c : Nat} {cs : List CellD} (h : OwnC w base A n c cs) : cs.length = n := by
  have := h.1; rw [flat_len 6 _ (cell_len cs)] at this; simp at this; omega
theorem OwnC.below {w w' : World} {base B : Nat} {A : Option Addr} {n c : Nat} {cs : List CellD} (h : OwnC w base A n c cs) (hB : w.heap.size ≤ B) (hb : Below B w w') : OwnC w' base A n c cs := own_belowK h hB hb
theorem OwnC.more {w : World} {base base' : Nat} {A : Option Addr} {n c : Nat} {cs : List CellD} (h : OwnC w base A n c cs) (hB : base' ≤ base) : OwnC w base' A n c cs := own_moreK h hB
theorem OwnC.blk {w : World} {base : Nat} {A : Option Addr} {n c : Nat} {cs : List CellD} (h : OwnC w base A n c cs) : ∀ g, (Value.slice A n c).ownBlock = some g → base ≤ g ∧ g < w.heap.size := World.ownsRow.lt h
theorem OwnC.only {S : Nat → Prop} {w w' : World} {base : Nat} {A : Option Addr} {n c : Nat} {cs : List CellD} (h : OwnC w base A n c cs) (on : Only S w w') (hd : ∀ i, (Value.slice A n c).ownBlock = some i → ¬ S i) : OwnC w' base A n c cs := Only.own h on hd

set_option maxRecDepth 100000 in
set_option maxHeartbeats 1600000 in
theorem toCellS_any (K : Option Addr) (n c : Nat) (cs : List CellD) (w : World) (hr : RdC w w.heap.size K cs) (hl : cs.length = n) (hn : n ≤ 2097152) :
    Calls Try.prog 40 #[.slice K n c] w fun e w' => ∃ A' c', e = .returned (.slice A' n c') ∧ OwnC w' w.heap.size A' n c' cs ∧ Below w.heap.size w w' := by
  obtain ⟨i0, hi, hz0, hz1, hz2⟩ := info_parts cellInfo
  have hm : n ≤ maxLen := by unfold maxLen; omega
  have HL := Lib.hid hl
  have HR := Lib.hid hr
  clear hl hr
  go_enter Try.func40, Try.ntmps40
  go_wp2_with (at_make; refine wpList_make_full _ rfl _ _ 30 rfl w.heap.size 37 i0 (.agg #[.int .i64 0, .int .i64 0, .int .i64 0, .bool false, .bool false, .bool false]) 6 Try.underlying30 hi hz0 hz1 _ _ _ _ n rfl rfl rfl rfl ?c1 hm (Nat.le_refl _) ?_)
  case c1 => rw [hz2]; omega
  intro w1 hown hgrow
  have hown' : w1.ownsRow w.heap.size 37 6 (.slice (some ⟨w.heap.size, 0, none⟩) n n) n (partC cs n 0) := by
    rw [made_flat _ 6 n rfl (by omega)] at hown
    exact hown
  have hb1 : Below w.heap.size w w1 := (Below.refl _ _).grown hgrow (Nat.le_refl _) (by simp)
  clear hown hgrow
  go_wp2_with fail
  go_loopw [4] (fun i wr => ∃ k : Nat, k ≤ n ∧ i = .int .i64 k ∧ wr.ownsRow w.heap.size 37 6 (.slice (some ⟨w.heap.size, 0, none⟩) n n) n (partC cs n k) ∧ Below w.heap.size w wr) (fun i _ => n - (intOf i).toNat)
  case atStart => exact ⟨0, Nat.zero_le _, rfl, hown', hb1⟩
  case round =>
    obtain ⟨k, hk, rfl, ho, hb⟩ := hrel
    clear hown' hb1
    have hz : w.heap.size ≤ wr.heap.size := hb.size
    by_cases hlt : k < n
    · have hlt' : k < cs.length := by rw [HL.out]; exact hlt
      obtain ⟨b, o, rfl, hB, hc0, hc1, hc2, hc3, hc4, hc5⟩ := (HR.out.below (Nat.le_refl _) hb).at_ hlt'
      have HB := Lib.hid hb
      have HPN := Lib.hid (show partC cs n (k + 1) = ((cs.take k).map cellR ++ [[Value.int .i64 cs[k].r, Value.int .i64 cs[k].fg, Value.int .i64 cs[k].bg, Value.bool cs[k].b, Value.bool cs[k].u, Value.bool cs[k].t]] ++ List.replicate (n - (k + 1)) zC).flatten by
        unfold partC; rw [List.take_succ_eq_append_getElem hlt', List.map_append]; rfl)
      have HPO := Lib.hid (show partC cs n k = ((cs.take k).map cellR ++ [[Value.int .i64 0, Value.int .i64 0, Value.int .i64 0, Value.bool false, Value.bool false, Value.bool false]] ++ List.replicate (n - (k + 1)) zC).flatten by
        unfold partC; rw [rep_flat zC n k hlt, ← List.append_assoc]; rfl)
      have HKL := Lib.hid (show ((cs.take k).map cellR).length = k by rw [List.length_map, List.length_take]; omega)
      have HO := Lib.hid ho
      clear hb ho
      generalize cs[k].r = x0 at *
      generalize cs[k].fg = x1 at *
      generalize cs[k].bg = x2 at *
      generalize cs[k].b = x3 at *
      generalize cs[k].u = x4 at *
      generalize cs[k].t = x5 at *
      go_wp2_with fail
      refine (toCell_any x0 x1 x2 x3 x4 x5 _).mono ?_
      rintro e v ⟨rfl, hb1⟩
      have HOv := Lib.hid (own_belowK HO.out (Nat.le_refl _) hb1)
      have HBv := Lib.hid (HB.out.trans (hb1.mono hz))
      obtain ⟨u0, hu0⟩ := own_there HOv.out (k * 6) (by omega)
      obtain ⟨u1, hu1⟩ := own_there HOv.out (k * 6 + 1) (by omega)
      obtain ⟨u2, hu2⟩ := own_there HOv.out (k * 6 + 2) (by omega)
      obtain ⟨u3, hu3⟩ := own_there HOv.out (k * 6 + 3) (by omega)
      obtain ⟨u4, hu4⟩ := own_there HOv.out (k * 6 + 4) (by omega)
      obtain ⟨u5, hu5⟩ := own_there HOv.out (k * 6 + 5) (by omega)
      have hf0 := World.ownsRow.frozenAt (h := HOv.out) (k * 6)
      have hf1 := World.ownsRow.frozenAt (h := HOv.out) (k * 6 + 1)
      have hf2 := World.ownsRow.frozenAt (h := HOv.out) (k * 6 + 2)
      have hf3 := World.ownsRow.frozenAt (h := HOv.out) (k * 6 + 3)
      have hf4 := World.ownsRow.frozenAt (h := HOv.out) (k * 6 + 4)
      have hf5 := World.ownsRow.frozenAt (h := HOv.out) (k * 6 + 5)
      have HN := Lib.hid (show ((((((v.setCell ⟨w.heap.size, k * 6, none⟩ (.int .i64 x0)).setCell ⟨w.heap.size, k * 6 + 1, none⟩ (.int .i64 x1)).setCell ⟨w.heap.size, k * 6 + 2, none⟩ (.int .i64 x2)).setCell ⟨w.heap.size, k * 6 + 3, none⟩ (.bool x3)).setCell ⟨w.heap.size, k * 6 + 4, none⟩ (.bool x4)).setCell ⟨w.heap.size, k * 6 + 5, none⟩ (.bool x5)).ownsRow w.heap.size 37 6 (.slice (some ⟨w.heap.size, 0, none⟩) n n) n (partC cs n (k + 1)) by
        rw [HPN.out]; have h := HOv.out; rw [HPO.out] at h; exact row6 _ _ _ _ _ _ (cell_len _) k HKL.out h)
      clear hb1
      go_wp2_with fail
      exact ⟨⟨k + 1, by omega, by go_num, HN.out, (((((HBv.out.setCell (Nat.le_refl _) _).setCell (Nat.le_refl _) _).setCell (Nat.le_refl _) _).setCell (Nat.le_refl _) _).setCell (Nat.le_refl _) _).setCell (Nat.le_refl _) _⟩, by simp [intOf]; omega⟩
    · obtain rfl : n = k := by omega
      have e : partC cs n n = (cs.map cellR).flatten := by
        unfold partC; rw [List.take_of_length_le (by rw [HL.out]; exact Nat.le_refl _)]; simp
      rw [e] at ho
      go_wp2_with fail
      go_ret
      exact ⟨_, _, rfl, ho, hb⟩

set_option maxRecDepth 100000 in
set_option maxHeartbeats 800000 in
theorem szCellS_any (A : Option Addr) (n c : Nat) (left : Int) (w : World) (hn : n ≤ 9223372036854775807) (h0 : 0 ≤ left) (h1 : left ≤ 1048576) :
    Calls Try.prog 35 #[.slice A n c, .int .i64 left] w fun e w' => e = .returned (.int .i64 (if left < (n : Int) then -1 else left - n)) ∧ w = w' := by
  by_cases h : left < (n : Int)
  · rw [if_pos h]
    have h2 : left - (n : Int) < 0 := by omega
    go_enter Try.func35, Try.ntmps35
    go_wp2_with fail
    go_ret
    exact ⟨rfl, rfl⟩
  · rw [if_neg h]
    have h2 : 0 ≤ left - (n : Int) := by omega
    go_enter Try.func35, Try.ntmps35
    go_wp2_with fail
    go_ret
    exact ⟨rfl, rfl⟩

set_option maxRecDepth 100000 in
set_option maxHeartbeats 800000 in
theorem szGrid_any (gw gh : Int) (A : Option Addr) (n c : Nat) (left : Int) (w : World) (hn : n ≤ 9223372036854775807) (h0 : 0 ≤ left) (h1 : left ≤ 1048576) :
    Calls Try.prog 10 #[.agg #[.int .i64 gw, .int .i64 gh, .slice A n c], .int .i64 left] w fun e w' => e = .returned (.int .i64 (if left < (n : Int) then -1 else left - n)) ∧ Below w.heap.size w w' := by
  have hS := Lib.hid (fun W => szCellS_any A n c left W hn h0 h1)
  have hb0 := Lib.hid ((Below.refl w.heap.size w).alloc (Nat.le_refl _) (.cells #[.int .i64 gw, .int .i64 gh, .slice A n c] 24))
  by_cases h : left < (n : Int)
  · rw [if_pos h] at hS ⊢
    go_enter Try.func10, Try.ntmps10
    go_wp2_with fail
    refine (hS.out _).mono ?_
    rintro e w' ⟨rfl, rfl⟩
    go_wp2_with fail
    go_ret
    exact ⟨rfl, hb0.out⟩
  · rw [if_neg h] at hS ⊢
    have h2 : 0 ≤ left - (n : Int) := by omega
    go_enter Try.func10, Try.ntmps10
    go_wp2_with fail
    refine (hS.out _).mono ?_
    rintro e w' ⟨rfl, rfl⟩
    go_wp2_with fail
    go_ret
    exact ⟨rfl, hb0.out⟩

set_option maxRecDepth 100000 in
set_option maxHeartbeats 1600000 in
theorem toGrid_any (gw gh : Int) (A : Option Addr) (n c : Nat) (cs : List CellD) (w : World) (hr : RdC w w.heap.size A cs) (hl : cs.length = n) (hn : n ≤ 2097152) :
    Calls Try.prog 12 #[.agg #[.int .i64 gw, .int .i64 gh, .slice A n c]] w
      fun e w' => ∃ A' c', e = .returned (.agg #[.int .i64 gw, .int .i64 gh, .slice A' n c']) ∧ OwnC w' w.heap.size A' n c' cs ∧ Below w.heap.size w w' := by
  have HR := Lib.hid hr
  have HL := Lib.hid hl
  clear hr hl
  have hb0 := Lib.hid ((((Below.refl w.heap.size w).alloc (Nat.le_refl _) (.cells #[.int .i64 gw, .int .i64 gh, .slice A n c] 24)).alloc (by simp) (.cells #[.int .i64 0, .int .i64 0, .slice none 0 0] 32)).alloc (by simp; omega) (.cells #[.int .i64 gw, .int .i64 gh, .slice none 0 0] 32))
  go_enter Try.func12, Try.ntmps12
  go_wp2_with fail
  refine (toCellS_any A n c cs _ ((HR.out.below (Nat.le_refl _) hb0.out).more (by simp; omega)) HL.out (by omega)).mono ?_
  rintro e v1 ⟨A1, c1, rfl, ho1, hb1⟩
  have HO := Lib.hid ho1
  have HB1 := Lib.hid hb1
  obtain ⟨hc, hf⟩ := bcell hb1
  have hz : w.heap.size + 2 < v1.heap.size := by have := hb1.size; simp at this; omega
  clear ho1 hb1
  have s1 : w.heap.size < w.heap.size + 1 + 1 + 1 := by omega
  have s2 : w.heap.size + 1 < w.heap.size + 1 + 1 + 1 := by omega
  go_wp2_with fail
  refine bodyPost_ret (v := .agg #[.int .i64 gw, .int .i64 gh, .slice A1 n c1]) (by simp [results, Try.results12, go_sem, hc]) rfl ⟨A1, c1, rfl, ?_, ?_⟩
  · have h0 := HO.out.more (base' := w.heap.size + 3) (by simp)
    have h1 := own_setK (own_setK (own_setK (own_setK h0 (w.heap.size + 1 + 1) 2 (.slice A1 n c1) (by omega)) (w.heap.size + 1) 0 (.int .i64 gw) (by omega)) (w.heap.size + 1) 1 (.int .i64 gh) (by omega)) (w.heap.size + 1) 2 (.slice A1 n c1) (by omega)
    exact own_moreK h1 (by omega)
  · have h0 := hb0.out.trans (HB1.out.mono (by simp; omega))
    exact (((h0.setCell (by simp; omega) _).setCell (by simp) _).setCell (by simp) _).setCell (by simp) _

/-! ### the comparison, where both hold the same -/
set_option maxRecDepth 100000 in
set_option maxHeartbeats 3200000 in
theorem eqCellS_yes (F G : Option Addr) (n c c' : Nat) (cs : List CellD) (w : World) (hf : RdC w w.heap.size F cs) (hg : RdC w w.heap.size G cs) (hl : cs.length = n) (hn : n ≤ 1099511627776) :
    Calls Try.prog 49 #[.slice F n c, .slice G n c'] w fun e w' => e = .returned (.bool true) ∧ Below w.heap.size w w' := by
  have HF := Lib.hid hf
  have HG := Lib.hid hg
  have HL := Lib.hid hl
  have hnn : (n != n) = false := by simp
  clear hf hg hl
  go_enter Try.func49, Try.ntmps49
  go_wp2_with fail
  go_loopw [5] (fun i wr => ∃ k : Nat, k ≤ n ∧ i = .int .i64 k ∧ Below w.heap.size w wr) (fun i _ => n - (intOf i).toNat)
  case atStart => exact ⟨0, Nat.zero_le _, rfl, Below.refl _ _⟩
  case round =>
    obtain ⟨k, hk, rfl, hb⟩ := hrel
    have hz : w.heap.size ≤ wr.heap.size := hb.size
    by_cases hlt : k < n
    · have hlf : k < cs.length := by rw [HL.out]; exact hlt
      obtain ⟨b, o, rfl, hB, hc0, hc1, hc2, hc3, hc4, hc5⟩ := (HF.out.below (Nat.le_refl _) hb).at_ hlf
      obtain ⟨b', o', rfl, hB', hd0, hd1, hd2, hd3, hd4, hd5⟩ := (HG.out.below (Nat.le_refl _) hb).at_ hlf
      have HB := Lib.hid hb
      clear hb
      generalize cs[k].r = x0 at *
      generalize cs[k].fg = x1 at *
      generalize cs[k].bg = x2 at *
      generalize cs[k].b = x3 at *
      generalize cs[k].u = x4 at *
      generalize cs[k].t = x5 at *
      go_wp2_with fail
      go_region_with ((go_at_call 96; refine (eqCell_yes x0 x1 x2 x3 x4 x5 _).mono ?_; rintro e v1 ⟨rfl, hb1'⟩; have hb1 : Below wr.heap.size wr v1 := undrew hb1'; clear hb1'))
      all_goals
        have HB1 := Lib.hid (HB.out.trans (hb1.mono hz))
        clear hb1
        go_wp2_with fail
        exact ⟨⟨k + 1, by omega, by go_num, HB1.out⟩, by simp [intOf]; omega⟩
    · obtain rfl : n = k := by omega
      go_wp2_with fail
      go_ret
      exact ⟨rfl, hb⟩

set_option maxRecDepth 100000 in
set_option maxHeartbeats 1600000 in
theorem eqGrid_yes (gw gh : Int) (A A' : Option Addr) (n c c' : Nat) (cs : List CellD) (w : World) (hx : RdC w w.heap.size A cs) (hy : RdC w w.heap.size A' cs) (hl : cs.length = n) (hn : n ≤ 1099511627776) :
    Calls Try.prog 15 #[.agg #[.int .i64 gw, .int .i64 gh, .slice A n c], .agg #[.int .i64 gw, .int .i64 gh, .slice A' n c']] w fun e w' => e = .returned (.bool true) ∧ Below w.heap.size w w' := by
  have e1 : (gw != gw) = false := by simp
  have e2 : (gh != gh) = false := by simp
  have HX := Lib.hid hx
  have HY := Lib.hid hy
  have HL := Lib.hid hl
  have hb0 := Lib.hid (((Below.refl w.heap.size w).alloc (Nat.le_refl _) (.cells #[.int .i64 gw, .int .i64 gh, .slice A n c] 32)).alloc (by simp) (.cells #[.int .i64 gw, .int .i64 gh, .slice A' n c'] 32))
  clear hx hy hl
  go_enter Try.func15, Try.ntmps15
  go_wp2_with fail
  refine (eqCellS_yes A A' n c c' cs _ ((HX.out.below (Nat.le_refl _) hb0.out).more (by simp; omega)) ((HY.out.below (Nat.le_refl _) hb0.out).more (by simp; omega)) HL.out (by omega)).mono ?_
  rintro e v1 ⟨rfl, hb1⟩
  have HB1 := Lib.hid hb1
  clear hb1
  go_wp2_with fail
  go_ret
  exact ⟨rfl, hb0.out.trans (HB1.out.mono (by simp; omega))⟩
end Go.Proofs.Ythlpchojlddnbaa.Gr

