/- Texts that lay in modules of their own: GrNew, GrWithin, GrPasteI, GrPasteS, GrPasteO. -/
import Derived.Test.YtbifbeahakchjaaGrNewB
import Derived.Deep.RegionLaw
import Derived.Deep.DrawnRows
import Derived.Laws.AppendOwn
import Derived.Deep.AppendLies
import Derived.Test.YtbifbeahakchjaaKiF
import Derived.Test.YtbifbeahakchjaaGrPasteM
import Derived.Deep.RegionHeld3
import Derived.Test.YtbifbeahakchjaaKiX
import Derived.Deep.Cut
import Derived.Deep.CutRange
import Derived.Deep.DeepCutAuto
namespace Go.Proofs.Ytbifbeahakchjaa.Gr
open Go.RowKit Go.Proofs.Ytbifbeahakchjaa.Bytes Go.Proofs.Ytbifbeahakchjaa.Rows_ Go.Proofs.Ytbifbeahakchjaa.RowK
set_option linter.unusedVariables false
attribute [local go_sem ↓] Go.wp_at_zero Go.wp_at_succ

set_option maxRecDepth 100000 in
set_option maxHeartbeats 3200000 in
theorem impl_GridNew_any (gw gh : Int) (w : World) : Calls Try.prog 148 #[.int .i64 gw, .int .i64 gh] w (AnsN w.heap.size w gw gh) := by
  cases hs : sizeB gw gh
  · have HA := Lib.hid (show ∀ e w', AnsN w.heap.size w gw gh e w' = (e = .returned (.tuple #[.agg #[.int .i64 0, .int .i64 0, .slice none 0 0], .bool false]) ∧ Below w.heap.size w w') from fun e w' => by unfold AnsN; rw [hs]; rfl)
    have HS := Lib.hid hs
    have hb0 := Lib.hid ((Below.refl w.heap.size w).alloc (Nat.le_refl _) (.cells #[.int .i64 0, .int .i64 0, .slice none 0 0] 48))
    clear hs
    go_enter Try.func148, Try.ntmps148
    go_wp2_with fail
    refine (isGridSize_any _ _ _).mono ?_
    rintro e v1 ⟨rfl, rfl⟩
    rw [HS.out]
    go_wp2_with fail
    refine bodyPost_ret (v := .tuple #[.agg #[.int .i64 0, .int .i64 0, .slice none 0 0], .bool false]) (by simp [results, Try.results148, go_sem]) rfl ?_
    rw [HA.out]
    exact ⟨rfl, by repeat (first | refine Below.setCell ?_ (by simp <;> omega) _ | refine Below.alloc ?_ (by simp <;> omega) _); exact Below.refl _ _⟩
  · obtain ⟨W, H, rfl, rfl, w1, w2, w3, w4, w5, hN⟩ := sidesS hs
    obtain ⟨N, hN2⟩ : ∃ N, N = W * H := ⟨_, rfl⟩
    have HA := Lib.hid (show ∀ e w', AnsN w.heap.size w (W : Int) (H : Int) e w' = (∃ A c, e = .returned (.tuple #[.agg #[.int .i64 (W : Int), .int .i64 (H : Int), .slice A N c], .bool true]) ∧ OwnC w' w.heap.size A N c (List.replicate N blankC) ∧ Below w.heap.size w w') from fun e w' => by unfold AnsN; rw [hs, hN, hN2]; rfl)
    have HS := Lib.hid hs
    have hNn : N ≤ 4000 := by omega
    have e1 : IntKind.i64.wrap ((W : Int) * (H : Int)) = (N : Int) := by rw [← Int.natCast_mul, ← hN2]; exact IntWalk.i64_in _ (by omega)
    clear hs hN hN2 w5
    obtain ⟨i0, hi, hz0, hz1, hz2⟩ := info_parts cellInfo
    have hmx : N ≤ maxLen := by unfold maxLen; omega
    go_enter Try.func148, Try.ntmps148
    go_wp2_with fail
    refine (isGridSize_any _ _ _).mono ?_
    rintro e v1 ⟨rfl, rfl⟩
    rw [HS.out]
    go_wp2_with (at_make; refine wpList_make_full _ rfl _ _ 27 rfl (w.heap.size + 1) 69 i0 (.agg #[.int .i64 0, .int .i64 0, .int .i64 0, .bool false, .bool false, .bool false]) 6 Try.underlying27 hi hz0 hz1 _ _ _ _ N rfl rfl rfl rfl ?c1 hmx (by simp) ?_)
    case c1 => rw [hz2]; omega
    intro v1 hown hgrow
    have hown' : OwnC v1 (w.heap.size + 1) (some ⟨w.heap.size + 1, 0, none⟩) N N (List.replicate N nilC) := by
      rw [made_flat _ 6 N rfl (by omega)] at hown
      unfold OwnC
      rw [List.map_replicate]
      exact hown
    have hb1 : Below (w.heap.size + 1) (w.alloc (.cells #[.int .i64 0, .int .i64 0, .slice none 0 0] 48)) v1 := by
      have := (Below.refl (w.alloc (.cells #[.int .i64 0, .int .i64 0, .slice none 0 0] 48)).heap.size _).grown hgrow (Nat.le_refl _) (by simp)
      simpa only [World.size_alloc] using this
    have x4 := (BoxG.new w #[.int .i64 0, .int .i64 0, .slice none 0 0]).below hb1 (by omega)
    have z1 : w.heap.size + 1 < v1.heap.size := (hown'.blk _ rfl).2
    have HB1 := Lib.hid ((((Below.refl w.heap.size w).alloc (Nat.le_refl _) (.cells #[.int .i64 0, .int .i64 0, .slice none 0 0] 48)).trans (hb1.mono (by omega))).alloc (by omega) (.cells #[.int .i64 (W : Int), .int .i64 (H : Int), .slice (some ⟨w.heap.size + 1, 0, none⟩) N N] 48))
    have hal := (Below.refl v1.heap.size v1).alloc (Nat.le_refl _) (.cells #[.int .i64 (W : Int), .int .i64 (H : Int), .slice (some ⟨w.heap.size + 1, 0, none⟩) N N] 48)
    have X6 := Lib.hid (BoxG.new v1 #[.int .i64 (W : Int), .int .i64 (H : Int), .slice (some ⟨w.heap.size + 1, 0, none⟩) N N])
    have X4 := Lib.hid (x4.below hal (by omega))
    have HO1 := Lib.hid (hown'.below (Nat.le_refl _) hal)
    clear x4 hal hown' hown hgrow hb1
    go_wp2_with fail
    refine (erase_any _ 0 N N _ HO1.out (by omega) (by omega) (fun _ => rfl)).mono ?_
    rintro e v2 ⟨rfl, ho2, on2⟩
    have x6 := X6.out.only on2 (by omega)
    have x4 := X4.out.only on2 (by omega)
    have HO2 := Lib.hid (show OwnC v2 (w.heap.size + 1) (some ⟨w.heap.size + 1, 0, none⟩) N N (List.replicate N blankC) by
      have h := ho2
      rw [show over (List.replicate N nilC) 0 (List.replicate N blankC) = List.replicate N blankC by unfold over; simp] at h
      exact h)
    have HB2 := Lib.hid (Only.below_ on2 HB1.out (by simp; omega) (fun i hi => by omega))
    clear on2 ho2
    have p0 := x6.cell 0
    have p1 := x6.cell 1
    have p2 := x6.cell 2
    have q0 := x4.cell 0
    have q1 := x4.cell 1
    have q2 := x4.cell 2
    have f0 := x4.free 0
    have f1 := x4.free 1
    have f2 := x4.free 2
    clear x6 x4
    go_wp2_with fail
    refine bodyPost_ret (v := .tuple #[.agg #[.int .i64 (W : Int), .int .i64 (H : Int), .slice (some ⟨w.heap.size + 1, 0, none⟩) N N], .bool true]) (by simp [results, Try.results148, go_sem, q0, q1, q2]) rfl ?_
    rw [HA.out]
    refine ⟨_, _, rfl, ?_, ?_⟩
    · exact ((((HO2.out.setBox w.heap.size 0 _ (by omega)).setBox w.heap.size 1 _ (by omega)).setBox w.heap.size 2 _ (by omega))).more (by omega)
    · exact ((HB2.out.setCell (by simp) _).setCell (by simp) _).setCell (by simp) _

set_option maxRecDepth 100000 in
set_option maxHeartbeats 3200000 in
theorem spec_GridNew_no (gw gh : Int) (w : World) (hs : sizeB gw gh = false) : Calls Try.prog 59 #[.int .i64 gw, .int .i64 gh] w (AnsN w.heap.size w gw gh) := by
  have HA := Lib.hid (show ∀ e w', AnsN w.heap.size w gw gh e w' = (e = .returned (.tuple #[.agg #[.int .i64 0, .int .i64 0, .slice none 0 0], .bool false]) ∧ Below w.heap.size w w') from fun e w' => by unfold AnsN; rw [hs]; rfl)
  have HS := Lib.hid hs
  clear hs
  by_cases h1 : 1 ≤ gw
  · by_cases h2 : gw ≤ 120
    · by_cases h3 : 1 ≤ gh
      · by_cases h4 : gh ≤ 120
        · obtain ⟨m1, m2⟩ := mul_bd h1 h2 h3 h4
          have h5 : 4000 < gw * gh := by
            rcases Int.lt_or_le 4000 (gw * gh) with h | h
            · exact h
            · have := sizeB_t ⟨h1, h2, h3, h4, h⟩; rw [HS.out] at this; cases this
          go_enter Try.func59, Try.ntmps59
          go_wp2_with fail
          refine bodyPost_ret (v := .tuple #[.agg #[.int .i64 0, .int .i64 0, .slice none 0 0], .bool false]) (by simp [results, Try.results59, go_sem]) rfl ?_
          rw [HA.out]
          exact ⟨rfl, by repeat (first | refine Below.setCell ?_ (by simp <;> omega) _ | refine Below.alloc ?_ (by simp <;> omega) _); exact Below.refl _ _⟩
        · go_enter Try.func59, Try.ntmps59
          go_wp2_with fail
          refine bodyPost_ret (v := .tuple #[.agg #[.int .i64 0, .int .i64 0, .slice none 0 0], .bool false]) (by simp [results, Try.results59, go_sem]) rfl ?_
          rw [HA.out]
          exact ⟨rfl, by repeat (first | refine Below.setCell ?_ (by simp <;> omega) _ | refine Below.alloc ?_ (by simp <;> omega) _); exact Below.refl _ _⟩
      · go_enter Try.func59, Try.ntmps59
        go_wp2_with fail
        refine bodyPost_ret (v := .tuple #[.agg #[.int .i64 0, .int .i64 0, .slice none 0 0], .bool false]) (by simp [results, Try.results59, go_sem]) rfl ?_
        rw [HA.out]
        exact ⟨rfl, by repeat (first | refine Below.setCell ?_ (by simp <;> omega) _ | refine Below.alloc ?_ (by simp <;> omega) _); exact Below.refl _ _⟩
    · go_enter Try.func59, Try.ntmps59
      go_wp2_with fail
      refine bodyPost_ret (v := .tuple #[.agg #[.int .i64 0, .int .i64 0, .slice none 0 0], .bool false]) (by simp [results, Try.results59, go_sem]) rfl ?_
      rw [HA.out]
      exact ⟨rfl, by repeat (first | refine Below.setCell ?_ (by simp <;> omega) _ | refine Below.alloc ?_ (by simp <;> omega) _); exact Below.refl _ _⟩
  · go_enter Try.func59, Try.ntmps59
    go_wp2_with fail
    refine bodyPost_ret (v := .tuple #[.agg #[.int .i64 0, .int .i64 0, .slice none 0 0], .bool false]) (by simp [results, Try.results59, go_sem]) rfl ?_
    rw [HA.out]
    exact ⟨rfl, by repeat (first | refine Below.setCell ?_ (by simp <;> omega) _ | refine Below.alloc ?_ (by simp <;> omega) _); exact Below.refl _ _⟩

set_option maxRecDepth 100000 in
set_option maxHeartbeats 6400000 in
theorem spec_GridNew_any (gw gh : Int) (w : World) : Calls Try.prog 59 #[.int .i64 gw, .int .i64 gh] w (AnsN w.heap.size w gw gh) := by
  cases hs : sizeB gw gh
  · exact spec_GridNew_no gw gh w hs
  · obtain ⟨W, H, rfl, rfl, w1, w2, w3, w4, w5, hN⟩ := sidesS hs
    obtain ⟨N, hN2⟩ : ∃ N, N = W * H := ⟨_, rfl⟩
    have HA := Lib.hid (show ∀ e w', AnsN w.heap.size w (W : Int) (H : Int) e w' = (∃ A c, e = .returned (.tuple #[.agg #[.int .i64 (W : Int), .int .i64 (H : Int), .slice A N c], .bool true]) ∧ OwnC w' w.heap.size A N c (List.replicate N blankC) ∧ Below w.heap.size w w') from fun e w' => by unfold AnsN; rw [hs, hN, hN2]; rfl)
    have hNn : N ≤ 4000 := by omega
    have e1 : IntKind.i64.wrap ((W : Int) * (H : Int)) = (N : Int) := by rw [← Int.natCast_mul, ← hN2]; exact IntWalk.i64_in _ (by omega)
    have m1 : ¬ ((N : Int) > 4000) := by omega
    have m2 : decide ((N : Int) > 4000) = false := by simp; omega
    have X6 := Lib.hid (BoxG.new (w.alloc (.cells #[.int .i64 0, .int .i64 0, .slice none 0 0] 48)) #[.int .i64 (W : Int), .int .i64 (H : Int), .slice none 0 0])
    have X4 := Lib.hid ((BoxG.new w #[.int .i64 0, .int .i64 0, .slice none 0 0]).below ((Below.refl _ _).alloc (Nat.le_refl _) (.cells #[.int .i64 (W : Int), .int .i64 (H : Int), .slice none 0 0] 48)) (by simp))
    have hb0 := Lib.hid (((Below.refl w.heap.size w).alloc (Nat.le_refl _) (.cells #[.int .i64 0, .int .i64 0, .slice none 0 0] 48)).alloc (by simp) (.cells #[.int .i64 (W : Int), .int .i64 (H : Int), .slice none 0 0] 48))
    clear hs hN hN2 w5
    go_enter Try.func59, Try.ntmps59
    go_wp2_with fail
    go_loopw [7] (fun i wr => ∃ (k : Nat) (A : Option Addr) (c : Nat), k ≤ N ∧ i = .int .i64 k ∧ BoxG wr (w.heap.size + 1) #[.int .i64 (W : Int), .int .i64 (H : Int), .slice A k c] ∧ BoxG wr w.heap.size #[.int .i64 0, .int .i64 0, .slice none 0 0] ∧ OwnC wr (w.heap.size + 2) A k c (List.replicate k blankC) ∧ Below w.heap.size w wr) (fun i _ => N - (intOf i).toNat)
    case atStart => exact ⟨0, none, 0, Nat.zero_le _, rfl, by simpa using X6.out, X4.out, ownC_nil _ _, hb0.out⟩
    case round =>
      clear X6 X4 hb0
      obtain ⟨k, A, c, hk, rfl, hx6, hx4, ho, hb⟩ := hrel
      have l6 := hx6.lt
      have l4 := hx4.lt
      by_cases hlt : k < N
      · have HX6 := Lib.hid hx6
        have HX4 := Lib.hid hx4
        have HO := Lib.hid ho
        have HB := Lib.hid hb
        have q2 : wr.cell? ⟨w.heap.size + 1, 2, none⟩ = some (.slice A k c) := hx6.cell 2
        have L1 := Lib.hid (show w.heap.size + 1 < w.heap.size + 2 by omega)
        have L2 := Lib.hid (show w.heap.size < w.heap.size + 2 by omega)
        have L3 := Lib.hid (show w.heap.size ≤ w.heap.size + 2 by omega)
        clear hx6 hx4 ho hb
        go_wp2_with fail
        go_region_law (first
          | (go_simp; go_at_call 120; (with_reducible refine (blank_any _).mono ?_); rintro e y1 ⟨rfl, hy'⟩; have hy : Below wr.heap.size wr y1 := undrew hy'; have HOy := Lib.hid (HO.out.below (Nat.le_refl _) hy); have hx := HX6.out.below hy l6; have q2' : y1.cell? ⟨w.heap.size + 1, 2, none⟩ = some (.slice A k c) := hx.cell 2; have HX6y := Lib.hid hx; have HX4y := Lib.hid (HX4.out.below hy l4); have HBy := Lib.hid (HB.out.trans (hy.mono (by omega))); have hyl : w.heap.size + 1 < y1.heap.size := Nat.lt_of_lt_of_le l6 hy.size; have HZy := Lib.hid (show w.heap.size + 2 ≤ y1.heap.size from hyl); clear hx hy hy')
          | (refine step_cell (z := blankC) rfl _ _ rfl rfl _ rfl rfl HOy.out (by omega) HZy.out ?_; intro A' c' w1 ho1 hb1 hg1; have hxx := new_next HX6y.out HX4y.out HOy.out L1.out L2.out hg1; have r2 : w1.cell? ⟨w.heap.size + 1, 2, none⟩ = some (.slice A k c) := hxx.1.cell 2; have f2 := hxx.1.free 2; have HXX := Lib.hid hxx; have HOz := Lib.hid ho1; have HBz := Lib.hid (HBy.out.trans (hb1.mono L3.out)); clear hxx ho1 hb1 hg1))
        all_goals
          go_wp2_with fail
          refine ⟨⟨k + 1, A', c', by omega, by go_num, ?_, ?_, ?_, ?_⟩, by simp [intOf]; omega⟩
          · exact HXX.out.1.set2 _
          · exact HXX.out.2.other (by omega)
          · rw [List.replicate_succ']; exact HOz.out.setBox _ _ _ (by omega)
          · exact HBz.out.setCell (by simp) _
      · obtain rfl : N = k := by omega
        have HO := Lib.hid ho
        have HB := Lib.hid hb
        have p0 := hx6.cell 0
        have p1 := hx6.cell 1
        have p2 := hx6.cell 2
        have q0 := hx4.cell 0
        have q1 := hx4.cell 1
        have q2 := hx4.cell 2
        have f0 := hx4.free 0
        have f1 := hx4.free 1
        have f2 := hx4.free 2
        clear hx6 hx4 ho hb
        go_wp2_with fail
        refine bodyPost_ret (v := .tuple #[.agg #[.int .i64 (W : Int), .int .i64 (H : Int), .slice A N c], .bool true]) (by simp [results, Try.results59, go_sem, q0, q1, q2]) rfl ?_
        rw [HA.out]
        refine ⟨_, _, rfl, ?_, ?_⟩
        · exact ((((HO.out.setBox w.heap.size 0 _ (by omega)).setBox w.heap.size 1 _ (by omega)).setBox w.heap.size 2 _ (by omega))).more (by omega)
        · exact ((HB.out.setCell (by simp) _).setCell (by simp) _).setCell (by simp) _
/-- both answers in one form -/
theorem newR (gw gh : Int) : ∃ (rw rh : Int) (m : Nat) (rcs : List CellD) (ok : Bool), m ≤ 4000 ∧ ∀ B w e w', AnsN B w gw gh e w' → ∃ A c, e = .returned (.tuple #[.agg #[.int .i64 rw, .int .i64 rh, .slice A m c], .bool ok]) ∧ OwnC w' w.heap.size A m c rcs ∧ Below B w w' := by
  cases hs : sizeB gw gh
  · refine ⟨0, 0, 0, [], false, by omega, fun B w e w' h => ?_⟩
    unfold AnsN at h
    rw [hs] at h
    exact ⟨none, 0, h.1, ownC_nil _ _, h.2⟩
  · obtain ⟨W, H, rfl, rfl, w1, w2, w3, w4, w5, hN⟩ := sidesS hs
    refine ⟨W, H, ((W : Int) * (H : Int)).toNat, List.replicate ((W : Int) * (H : Int)).toNat blankC, true, by omega, fun B w e w' h => ?_⟩
    unfold AnsN at h
    rw [hs] at h
    exact h
end Go.Proofs.Ytbifbeahakchjaa.Gr
namespace Go.Proofs.Ytbifbeahakchjaa.Gr
open Go.RowKit Go.Proofs.Ytbifbeahakchjaa.Bytes Go.Proofs.Ytbifbeahakchjaa.Rows_ Go.Proofs.Ytbifbeahakchjaa.RowK
set_option linter.unusedVariables false
set_option maxRecDepth 100000 in
theorem within_any (a s t : Int) (w : World) (ha : -100000 ≤ a ∧ a ≤ 100000) (hs : -100000 ≤ s ∧ s ≤ 100000) (ht : 0 ≤ t) :
    Calls Try.prog 156 #[.int .i64 a, .int .i64 s, .int .i64 t] w fun e w' => e = .returned (.tuple #[.int .i64 (clampV a 0 t), .int .i64 (clampV (a + s) (clampV a 0 t) t)]) ∧ w = w' := by
  obtain ⟨p1, p2⟩ := ha
  obtain ⟨p3, p4⟩ := hs
  have HB := Lib.hid (clampV_bdF a 0 t ht)
  have HC1 := Lib.hid (fun V => clamp_anyG a 0 t ht V)
  have HC2 := Lib.hid (fun V => clamp_anyG (a + s) (clampV a 0 t) t HB.out.2 V)
  generalize clampV a 0 t = fr at *
  generalize clampV (a + s) fr t = to_ at *
  go_enter Try.func156, Try.ntmps156
  go_wp2_with fail
  (with_reducible refine (HC1.out _).mono ?_)
  rintro e v ⟨rfl, rfl⟩
  go_wp2_with fail
  (with_reducible refine (HC2.out _).mono ?_)
  rintro e v ⟨rfl, rfl⟩
  go_wp2_with fail
  go_ret2
  exact ⟨rfl, rfl⟩

end Go.Proofs.Ytbifbeahakchjaa.Gr
namespace Go.Proofs.Ytbifbeahakchjaa.Gr
open Go.RowKit Go.Proofs.Ytbifbeahakchjaa.Bytes Go.Proofs.Ytbifbeahakchjaa.Rows_ Go.Proofs.Ytbifbeahakchjaa.RowK
set_option linter.unusedVariables false
set_option maxRecDepth 100000 in
theorem cellsFrom_any (b o m c : Nat) (x : Int) (l : Nat) (w : World) (hl : clampV x 0 (m : Int) = (l : Int)) (hmc : m ≤ c) (hc : c ≤ 9223372036854775807) :
    Calls Try.prog 157 #[.slice (some ⟨b, o, none⟩) m c, .int .i64 x] w fun e w' => ∃ A', e = .returned (.slice A' (m - l) (c - l)) ∧ (0 < m - l → A' = some ⟨b, o + l * 6, none⟩) ∧ w = w' := by
  have hlm : l ≤ m := by have := clampV_bdF x 0 (m : Int) (by omega); omega
  have HC := Lib.hid (fun V => hl ▸ clamp_anyG x 0 (m : Int) (by omega) V)
  clear hl
  by_cases hcl : c = l
  · obtain rfl : m = l := by omega
    subst hcl
    go_enter Try.func157, Try.ntmps157
    go_wp2_with fail
    (with_reducible refine (HC.out _).mono ?_)
    rintro e v ⟨rfl, rfl⟩
    go_wp2_with fail
    go_ret
    exact ⟨some ⟨b, o, none⟩, by simp, fun h => by omega, rfl⟩
  · have h1 : l ≤ c := by omega
    have h2 : l ≠ c := by omega
    go_enter Try.func157, Try.ntmps157
    go_wp2_with fail
    (with_reducible refine (HC.out _).mono ?_)
    rintro e v ⟨rfl, rfl⟩
    go_wp2_with fail
    go_ret
    exact ⟨_, rfl, fun h => rfl, rfl⟩

set_option maxRecDepth 100000 in
set_option maxHeartbeats 6400000 in
theorem impl_GridPaste_yes (W H : Nat) (b o n c : Nat) (cs : List CellD) (W2 H2 : Nat) (b2 o2 n2 c2 : Nat) (ds : List CellD) (x y : Int) (w : World) (hr : RdC w w.heap.size (some ⟨b, o, none⟩) cs) (hl : cs.length = n) (hn : n ≤ 1048576) (ho : okG (W : Int) (H : Int) cs = true) (hr2 : RdC w w.heap.size (some ⟨b2, o2, none⟩) ds) (hl2 : ds.length = n2) (hn2 : n2 ≤ 1048576) (ho2 : okG (W2 : Int) (H2 : Int) ds = true) (hb2w : b2 < w.heap.size) (hnc2 : n2 ≤ c2) (hc2 : c2 ≤ 9223372036854775807) (s1 : smallB x = true) (s2 : smallB y = true) (hW1 : 1 ≤ W) (hW : W ≤ 120) (hH1 : 1 ≤ H) (hH : H ≤ 120) (hWH : n = W * H) (hW21 : 1 ≤ W2) (hW2 : W2 ≤ 120) (hH21 : 1 ≤ H2) (hH2 : H2 ≤ 120) (hWH2 : n2 = W2 * H2) :
    Calls Try.prog 149 #[.agg #[.int .i64 (W : Int), .int .i64 (H : Int), .slice (some ⟨b, o, none⟩) n c], .agg #[.int .i64 (W2 : Int), .int .i64 (H2 : Int), .slice (some ⟨b2, o2, none⟩) n2 c2], .int .i64 x, .int .i64 y] w (AnsT w ((W : Int), (H : Int), (mixP cs ds W W2 H2 x y allP))) := by
  have hb0 := Lib.hid ((((Below.refl w.heap.size w).alloc (Nat.le_refl _) (.cells #[.int .i64 (W : Int), .int .i64 (H : Int), .slice (some ⟨b, o, none⟩) n c] 48)).alloc (by simp) (.cells #[.int .i64 (W2 : Int), .int .i64 (H2 : Int), .slice (some ⟨b2, o2, none⟩) n2 c2] 48)).alloc (by simp; omega) (.cells #[.int .i64 0, .int .i64 0, .slice none 0 0] 48))
  have X0 := Lib.hid (((BoxG.new w #[.int .i64 (W : Int), .int .i64 (H : Int), .slice (some ⟨b, o, none⟩) n c]).below ((Below.refl _ _).alloc (Nat.le_refl _) (.cells #[.int .i64 (W2 : Int), .int .i64 (H2 : Int), .slice (some ⟨b2, o2, none⟩) n2 c2] 48)) (by simp)).below ((Below.refl _ _).alloc (Nat.le_refl _) (.cells #[.int .i64 0, .int .i64 0, .slice none 0 0] 48)) (by simp; omega))
  have xb := (BoxG.new (w.alloc (.cells #[.int .i64 (W : Int), .int .i64 (H : Int), .slice (some ⟨b, o, none⟩) n c] 48)) #[.int .i64 (W2 : Int), .int .i64 (H2 : Int), .slice (some ⟨b2, o2, none⟩) n2 c2]).below ((Below.refl _ _).alloc (Nat.le_refl _) (.cells #[.int .i64 0, .int .i64 0, .slice none 0 0] 48)) (by simp)
  simp only [World.size_alloc] at xb
  have XB := Lib.hid xb
  have x1 := BoxG.new ((w.alloc (.cells #[.int .i64 (W : Int), .int .i64 (H : Int), .slice (some ⟨b, o, none⟩) n c] 48)).alloc (.cells #[.int .i64 (W2 : Int), .int .i64 (H2 : Int), .slice (some ⟨b2, o2, none⟩) n2 c2] 48)) #[.int .i64 0, .int .i64 0, .slice none 0 0]
  simp only [World.size_alloc] at x1
  have X1 := Lib.hid x1
  have HO := Lib.hid ho
  have HO2 := Lib.hid ho2
  have S1 := Lib.hid s1
  have S2 := Lib.hid s2
  have HR := Lib.hid hr
  have HL := Lib.hid hl
  have HR2 := Lib.hid hr2
  have HL2 := Lib.hid hl2
  have HK := Lib.hid (fun V (h : Below w.heap.size w V) => impl_GridOk_any (W : Int) (H : Int) (some ⟨b, o, none⟩) n c cs V ((HR.out.below (Nat.le_refl _) h).more h.size) HL.out (by omega))
  have HK2 := Lib.hid (fun V (h : Below w.heap.size w V) => impl_GridOk_any (W2 : Int) (H2 : Int) (some ⟨b2, o2, none⟩) n2 c2 ds V ((HR2.out.below (Nat.le_refl _) h).more h.size) HL2.out (by omega))
  have HCP := Lib.hid (fun V (h : Below w.heap.size w V) => copyGrid_any (W : Int) (H : Int) (some ⟨b, o, none⟩) n c cs V (fun h => by cases h) ((HR.out.below (Nat.le_refl _) h).more h.size) HL.out (by omega))
  have k1 := of_smallB s1
  have k2 := of_smallB s2
  have bd1 := clampV_bdF x 0 (W : Int) (by omega)
  have bd2 := clampV_bdF (-x) 0 (W2 : Int) (by omega)
  have bd3 := clampV_bdF y 0 (H : Int) (by omega)
  have bd4 := clampV_bdF (y + (H2 : Int)) (clampV y 0 (H : Int)) (H : Int) bd3.2
  obtain ⟨lx, hlx⟩ := Int.eq_ofNat_of_zero_le bd1.1
  obtain ⟨l2, hl2'⟩ := Int.eq_ofNat_of_zero_le bd2.1
  obtain ⟨ty, hty⟩ := Int.eq_ofNat_of_zero_le bd3.1
  obtain ⟨ey, hey⟩ := Int.eq_ofNat_of_zero_le (show 0 ≤ clampV (y + (H2 : Int)) (clampV y 0 (H : Int)) (H : Int) by omega)
  have HWy := Lib.hid (fun V => (show Calls Try.prog 156 #[.int .i64 y, .int .i64 (H2 : Int), .int .i64 (H : Int)] V (fun e w' => e = .returned (.tuple #[.int .i64 (ty : Int), .int .i64 (ey : Int)]) ∧ V = w') by have h := within_any y (H2 : Int) (H : Int) V k2 (by omega) (by omega); rw [hey, hty] at h; exact h))
  have HTOP := Lib.hid (pasteR_top (cs := cs) (ds := ds) (W := W) (H := H) (W2 := W2) (H2 := H2) (x := x) (y := y) hty.symm)
  have HEND := Lib.hid (pasteR_end (cs := cs) (ds := ds) (W := W) (H := H) (W2 := W2) (H2 := H2) (x := x) (y := y) hW1 (by omega) hey.symm)
  have HROW := Lib.hid (fun (r s : Nat) (h1 : ty ≤ r) (h2 : r < ey) (hs : (s : Int) = (r : Int) - y) (hs2 : s < H2) => pasteR_row (cs := cs) (ds := ds) (W := W) (H := H) (W2 := W2) (H2 := H2) (x := x) (y := y) (l := lx) (l2 := l2) (m := min (W2 - l2) (W - lx)) (r := r) (s := s) (c := r * W) (c2 := s * W2) hW1 (by omega) (by omega) (by omega) hlx.symm hl2'.symm (by omega) (by omega) (by omega) hs hs2 rfl rfl)
  have HSR := Lib.hid (fun (r : Nat) (h1 : ty ≤ r) (h2 : r < ey) => (show ∃ s : Nat, (s : Int) = (r : Int) - y ∧ s < H2 from ⟨((r : Int) - y).toNat, by unfold clampV at hey hty; split at hty <;> (try split at hty) <;> split at hey <;> (try split at hey) <;> omega, by unfold clampV at hey hty; split at hty <;> (try split at hty) <;> split at hey <;> (try split at hey) <;> omega⟩))
  have q1 : lx ≤ W := by omega
  have q2 : l2 ≤ W2 := by omega
  have q3 : ty ≤ ey := by omega
  have q4 : ey ≤ H := by omega
  have HRB := Lib.hid (fun (r : Nat) (h2 : r < H) => (show r * W + W ≤ n by
    have h1 : (r + 1) * W ≤ H * W := Nat.mul_le_mul_right W h2
    rw [Nat.add_mul, Nat.mul_comm H W] at h1; omega))
  have HRB2 := Lib.hid (fun (r : Nat) (h2 : r < H2) => (show r * W2 + W2 ≤ n2 by
    have h1 : (r + 1) * W2 ≤ H2 * W2 := Nat.mul_le_mul_right W2 h2
    rw [Nat.add_mul, Nat.mul_comm H2 W2] at h1; omega))
  have hn0 : 0 < n := by have := HRB.out 0 (by omega); omega
  have HCL1 := Lib.hid hlx
  have HCL2 := Lib.hid hl2'
  have E2 := Lib.hid (show IntKind.i64.wrap (-x) = -x from IntWalk.i64_in _ (by omega))
  clear hWH hWH2 ho ho2 hr hl hr2 hl2 x1 xb s1 s2 k1 bd1 bd2 bd3 bd4 hlx hl2' hty hey
  obtain ⟨k21, k22⟩ := k2
  go_enter Try.func149, Try.ntmps149
  go_wp2_with fail
  refine (HK.out _ hb0.out).mono ?_
  rintro e v1 ⟨rfl, hb1⟩
  rw [HO.out]
  have x0 := X0.out.below hb1 (by simp; omega)
  have xb := XB.out.below hb1 (by simp)
  have X1a := Lib.hid (X1.out.below hb1 (by simp))
  have X0a := Lib.hid x0
  have XBa := Lib.hid xb
  have HB1 := Lib.hid (hb0.out.trans (hb1.mono (by simp; omega)))
  have c0 := xb.cell 0
  have c1 := xb.cell 1
  have c2_ := xb.cell 2
  have hz1 : w.heap.size + 2 < v1.heap.size := by have := hb1.size; simp at this; omega
  clear hb1 x0 xb X0 X1 XB
  go_wp2_with fail
  refine (HK2.out _ HB1.out).mono ?_
  rintro e v2 ⟨rfl, hb2⟩
  rw [HO2.out]
  clear c0 c1 c2_
  have x0 := X0a.out.below hb2 (by omega)
  have xb := XBa.out.below hb2 (by omega)
  have X1b := Lib.hid (X1a.out.below hb2 (by omega))
  have X0b := Lib.hid x0
  have XBb := Lib.hid xb
  have HB2 := Lib.hid (HB1.out.trans (hb2.mono (by omega)))
  have q0 := x0.cell 0
  have q0' := x0.cell 1
  have q0'' := x0.cell 2
  have hz2 : w.heap.size + 2 < v2.heap.size := by have := hb2.size; omega
  clear hb2 x0 xb X0a X1a XBa
  go_wp2_with fail
  (with_reducible refine (isReach_any x _).mono ?_)
  rintro e v ⟨rfl, rfl⟩
  rw [S1.out]
  go_wp2_with fail
  (with_reducible refine (isReach_any y _).mono ?_)
  rintro e v ⟨rfl, rfl⟩
  rw [S2.out]
  go_wp2_with fail
  refine (HCP.out _ HB2.out).mono ?_
  rintro e v3 ⟨A3, c3, rfl, ho3, hb3⟩
  obtain ⟨g, rfl⟩ := ho3.addr (by omega)
  have hcap := ho3.cap
  clear q0 q0' q0''
  have hg := ho3.blk g rfl
  have HB3 := Lib.hid (HB2.out.trans (hb3.mono (by omega)))
  have hz3 : w.heap.size + 2 < v3.heap.size := by have := hb3.size; omega
  have hal := (Below.refl v3.heap.size v3).alloc (Nat.le_refl _) (.cells #[.int .i64 (W : Int), .int .i64 (H : Int), .slice (some ⟨g, 0, none⟩) n c3] 48)
  have X1c := Lib.hid ((X1b.out.below hb3 (by omega)).below hal (by omega))
  have x0c := (X0b.out.below hb3 (by omega)).below hal (by omega)
  have xbc := (XBb.out.below hb3 (by omega)).below hal (by omega)
  have XBc := Lib.hid xbc
  have X9 := Lib.hid (BoxG.new v3 #[.int .i64 (W : Int), .int .i64 (H : Int), .slice (some ⟨g, 0, none⟩) n c3])
  have HO3 := Lib.hid ((ho3.below (Nat.le_refl _) hal).more (base' := w.heap.size + 3) (by omega))
  have HB3a := Lib.hid (HB3.out.trans (hal.mono (by omega)))
  have hgw : w.heap.size + 3 ≤ g := by omega
  have hgn9 : g ≠ v3.heap.size := by omega
  have HG9 := Lib.hid (show g < v3.heap.size from hg.2)
  have q0 := x0c.cell 1
  have q0' := xbc.cell 1
  clear hal hb3 ho3 X1b X0b XBb HB3 hg
  go_wp2_with fail
  (with_reducible refine (HWy.out _).mono ?_)
  rintro e v ⟨rfl, rfl⟩
  go_wp2_with fail
  clear q0 q0' x0c xbc
  go_loopw [12] (fun s wr => ∃ r : Nat, ty ≤ r ∧ r ≤ ey ∧ s = .int .i64 (r : Int) ∧ BoxG wr (w.heap.size + 1) #[.int .i64 (W2 : Int), .int .i64 (H2 : Int), .slice (some ⟨b2, o2, none⟩) n2 c2] ∧ BoxG wr (w.heap.size + 2) #[.int .i64 0, .int .i64 0, .slice none 0 0] ∧ BoxG wr v3.heap.size #[.int .i64 (W : Int), .int .i64 (H : Int), .slice (some ⟨g, 0, none⟩) n c3] ∧ OwnC wr (w.heap.size + 3) (some ⟨g, 0, none⟩) n c3 (mixP cs ds W W2 H2 x y (rowsP W r)) ∧ Below w.heap.size w wr) (fun s _ => ey - (intOf s).toNat)
  case atStart => exact ⟨ty, Nat.le_refl _, q3, rfl, XBc.out, X1c.out, X9.out, by rw [← HTOP.out]; exact HO3.out, HB3a.out⟩
  case round =>
    clear XBc X1c X9 HO3 HB3a
    obtain ⟨r, htr, hre, rfl, xb, x1, x9, ho, hb⟩ := hrel
    by_cases hlt : r < ey
    · obtain ⟨s, hs, hs2⟩ := HSR.out r htr hlt
      obtain ⟨rw_, hrw⟩ : ∃ k, k = r * W := ⟨_, rfl⟩
      obtain ⟨sw_, hsw⟩ : ∃ k, k = s * W2 := ⟨_, rfl⟩
      have hrb := HRB.out r (by omega)
      have hsb := HRB2.out s hs2
      have HRX := Lib.hid (HROW.out r s htr hlt hs hs2)
      have HRO := Lib.hid (fun V => rowOf_any W (H : Int) g 0 n c3 r V hW1 hrb (by omega) hcap.1 (by omega) hcap.2)
      have HRO2 := Lib.hid (fun V => rowOf_any W2 (H2 : Int) b2 o2 n2 c2 s V hW21 hsb (by omega) hnc2 (by omega) hc2)
      rw [← hrw] at hrb HRX HRO
      rw [← hsw] at hsb HRX HRO2
      rw [Nat.zero_add] at HRO
      have HCF := Lib.hid (fun V => cellsFrom_any g (rw_ * 6) W (c3 - rw_) x lx V HCL1.out (by omega) (by omega))
      have HCF2 := Lib.hid (fun V => cellsFrom_any b2 (o2 + sw_ * 6) W2 (c2 - sw_) (-x) l2 V HCL2.out (by omega) (by omega))
      have lb := xb.lt
      have l9 := x9.lt
      have k0 : wr.cell? ⟨v3.heap.size, 0, none⟩ = some (.int .i64 (W : Int)) := x9.cell 0
      have k1 : wr.cell? ⟨v3.heap.size, 1, none⟩ = some (.int .i64 (H : Int)) := x9.cell 1
      have k2 : wr.cell? ⟨v3.heap.size, 2, none⟩ = some (.slice (some ⟨g, 0, none⟩) n c3) := x9.cell 2
      have m0 : wr.cell? ⟨w.heap.size + 1, 0, none⟩ = some (.int .i64 (W2 : Int)) := xb.cell 0
      have m1 : wr.cell? ⟨w.heap.size + 1, 1, none⟩ = some (.int .i64 (H2 : Int)) := xb.cell 1
      have m2 : wr.cell? ⟨w.heap.size + 1, 2, none⟩ = some (.slice (some ⟨b2, o2, none⟩) n2 c2) := xb.cell 2
      have XBw := Lib.hid xb
      have X1w := Lib.hid x1
      have X9w := Lib.hid x9
      have HOw := Lib.hid ho
      have HBw := Lib.hid hb
      have HM1 := Lib.hid (show ¬ (w.heap.size + 1 = g) by omega)
      have HM2 := Lib.hid (show ¬ (w.heap.size + 2 = g) by omega)
      have HM3 := Lib.hid (show ¬ (v3.heap.size = g) by omega)
      have HM4 := Lib.hid (show w.heap.size ≤ g by omega)
      have hgl : g < wr.heap.size := (ho.blk g rfl).2
      have hdl := HL2.out
      have hnl : ((ds.drop (sw_ + l2)).take (min (W2 - l2) (W - lx))).length = min (W2 - l2) (W - lx) := by rw [List.length_take, List.length_drop]; omega
      have HCPY := Lib.hid (fun (V : World) (A1 A2 : Option Addr) (h : OwnC V (w.heap.size + 3) (some ⟨g, 0, none⟩) n c3 (mixP cs ds W W2 H2 x y (rowsP W r))) (hbv : Below w.heap.size w V) (h1 : 0 < W - lx → A1 = some ⟨g, rw_ * 6 + lx * 6, none⟩) (h2 : 0 < W2 - l2 → A2 = some ⟨b2, o2 + sw_ * 6 + l2 * 6, none⟩) =>
        (show ∃ w', (∀ ty, (Builtin.copy_ #[27, 27] ty #[.slice A1 (W - lx) (c3 - rw_ - lx), .slice A2 (W2 - l2) (c2 - sw_ - l2)]).run Try.prog V = .ok (goInt ((min (W2 - l2) (W - lx) : Nat) : Int)) w') ∧ OwnC w' (w.heap.size + 3) (some ⟨g, 0, none⟩) n c3 (mixP cs ds W W2 H2 x y (rowsP W (r + 1))) ∧ V.grownBy w' (some g) by
          have hrd : RdC V w.heap.size (some ⟨b2, o2, none⟩) ds := HR2.out.below (Nat.le_refl _) hbv
          obtain ⟨w', q1, q2, q3⟩ := run_copy_cellsC (lo := rw_ + lx) (new := (ds.drop (sw_ + l2)).take (min (W2 - l2) (W - lx))) h A1 A2 (W - lx) (c3 - rw_ - lx) (W2 - l2) (c2 - sw_ - l2) (by rw [hnl]) (fun hp => by
            rw [hnl] at hp
            refine ⟨by rw [h1 (by omega), Nat.add_mul], _, h2 (by omega), fun j v hv => ?_⟩
            rw [Addr.add_lit]
            have := rd_seg hrd (sw_ + l2) (min (W2 - l2) (W - lx)) (by rw [hdl]; omega) j v hv
            rw [Nat.add_mul, ← Nat.add_assoc] at this
            exact this) (by rw [hnl]; omega)
          rw [hnl] at q1
          rw [HRX.out] at q2
          exact ⟨w', q1, q2, q3⟩))
      have e1 : IntKind.i64.wrap ((r : Int) - y) = (s : Int) := by rw [← hs]; exact IntWalk.i64_in _ (by omega)
      have e2 := E2.out
      clear xb x1 x9 ho hb hrw hsw hs hdl hnl
      go_wp2_with fail
      go_region_held3 (fun w' => w'.cell? ⟨v3.heap.size, 0, none⟩ = some (.int .i64 (W : Int)) ∧ w'.cell? ⟨v3.heap.size, 1, none⟩ = some (.int .i64 (H : Int)) ∧ w'.cell? ⟨v3.heap.size, 2, none⟩ = some (.slice (some ⟨g, 0, none⟩) n c3) ∧ w'.cell? ⟨w.heap.size + 1, 0, none⟩ = some (.int .i64 (W2 : Int)) ∧ w'.cell? ⟨w.heap.size + 1, 1, none⟩ = some (.int .i64 (H2 : Int)) ∧ w'.cell? ⟨w.heap.size + 1, 2, none⟩ = some (.slice (some ⟨b2, o2, none⟩) n2 c2)) (go_keep) (first | (go_at_call 153; (with_reducible refine (HRO.out _).mono ?_); rintro e v4 ⟨rfl, hb4'⟩; have hb4 : Below wr.heap.size wr v4 := undrew hb4'; have X94 := Lib.hid (X9w.out.below hb4 l9); have XB4 := Lib.hid (XBw.out.below hb4 lb); have X14 := Lib.hid (X1w.out.below hb4 X1w.out.lt); have HO4 := Lib.hid (HOw.out.below (Nat.le_refl _) hb4); have HB4 := Lib.hid (HBw.out.trans (hb4.mono HBw.out.size)); have ak0 : v4.cell? ⟨v3.heap.size, 0, none⟩ = some (.int .i64 (W : Int)) := X94.out.cell 0; have ak1 : v4.cell? ⟨v3.heap.size, 1, none⟩ = some (.int .i64 (H : Int)) := X94.out.cell 1; have ak2 : v4.cell? ⟨v3.heap.size, 2, none⟩ = some (.slice (some ⟨g, 0, none⟩) n c3) := X94.out.cell 2; have am0 : v4.cell? ⟨w.heap.size + 1, 0, none⟩ = some (.int .i64 (W2 : Int)) := XB4.out.cell 0; have am1 : v4.cell? ⟨w.heap.size + 1, 1, none⟩ = some (.int .i64 (H2 : Int)) := XB4.out.cell 1; have am2 : v4.cell? ⟨w.heap.size + 1, 2, none⟩ = some (.slice (some ⟨b2, o2, none⟩) n2 c2) := XB4.out.cell 2; clear hb4 hb4') | (go_at_call 157; (with_reducible refine (HCF.out _).mono ?_); rintro e v4' ⟨A1, rfl, hA1, rfl⟩; have HA1 := Lib.hid hA1; clear hA1) | (go_at_call 153; (with_reducible refine (HRO2.out _).mono ?_); rintro e v5 ⟨rfl, hb5'⟩; have hb5 : Below v4.heap.size v4 v5 := (by first | exact hb5' | exact undrew hb5'); have X95 := Lib.hid (X94.out.below hb5 X94.out.lt); have XB5 := Lib.hid (XB4.out.below hb5 XB4.out.lt); have X15 := Lib.hid (X14.out.below hb5 X14.out.lt); have HO5 := Lib.hid (HO4.out.below (Nat.le_refl _) hb5); have HB5 := Lib.hid (HB4.out.trans (hb5.mono HB4.out.size)); have bk0 : v5.cell? ⟨v3.heap.size, 0, none⟩ = some (.int .i64 (W : Int)) := X95.out.cell 0; have bk1 : v5.cell? ⟨v3.heap.size, 1, none⟩ = some (.int .i64 (H : Int)) := X95.out.cell 1; have bk2 : v5.cell? ⟨v3.heap.size, 2, none⟩ = some (.slice (some ⟨g, 0, none⟩) n c3) := X95.out.cell 2; have bm0 : v5.cell? ⟨w.heap.size + 1, 0, none⟩ = some (.int .i64 (W2 : Int)) := XB5.out.cell 0; have bm1 : v5.cell? ⟨w.heap.size + 1, 1, none⟩ = some (.int .i64 (H2 : Int)) := XB5.out.cell 1; have bm2 : v5.cell? ⟨w.heap.size + 1, 2, none⟩ = some (.slice (some ⟨b2, o2, none⟩) n2 c2) := XB5.out.cell 2; clear hb5 hb5') | (go_at_call 157; (with_reducible refine (HCF2.out _).mono ?_); rintro e v5' ⟨A2, rfl, hA2, rfl⟩; obtain ⟨w6, hcp, ho6, hg6⟩ := HCPY.out _ A1 A2 HO5.out HB5.out HA1.out hA2; have on6 := Only.grown (S := fun i => i = g) hg6 (fun i e => by injection e with e; exact e.symm); have X96 := Lib.hid (X95.out.only on6 HM3.out); have XB6 := Lib.hid (XB5.out.only on6 HM1.out); have X16 := Lib.hid (X15.out.only on6 HM2.out); have HO6 := Lib.hid ho6; have HB6 := Lib.hid (Only.below_ on6 HB5.out HB5.out.size (fun i hi => by rw [hi]; exact HM4.out)); have dk0 : w6.cell? ⟨v3.heap.size, 0, none⟩ = some (.int .i64 (W : Int)) := X96.out.cell 0; have dk1 : w6.cell? ⟨v3.heap.size, 1, none⟩ = some (.int .i64 (H : Int)) := X96.out.cell 1; have dk2 : w6.cell? ⟨v3.heap.size, 2, none⟩ = some (.slice (some ⟨g, 0, none⟩) n c3) := X96.out.cell 2; have dm0 : w6.cell? ⟨w.heap.size + 1, 0, none⟩ = some (.int .i64 (W2 : Int)) := XB6.out.cell 0; have dm1 : w6.cell? ⟨w.heap.size + 1, 1, none⟩ = some (.int .i64 (H2 : Int)) := XB6.out.cell 1; have dm2 : w6.cell? ⟨w.heap.size + 1, 2, none⟩ = some (.slice (some ⟨b2, o2, none⟩) n2 c2) := XB6.out.cell 2; clear ho6 hg6 on6 hA2))
      all_goals
        clear k0 k1 k2 m0 m1 m2 ak0 ak1 ak2 am0 am1 am2 bk0 bk1 bk2 bm0 bm1 bm2 dk0 dk1 dk2 dm0 dm1 dm2 hcp e1 e2
        go_wp2_with fail
        exact ⟨⟨r + 1, by omega, by omega, by go_num, XB6.out, X16.out, X96.out, HO6.out, HB6.out⟩, by simp [intOf]; omega⟩
    · obtain rfl : ey = r := by omega
      have HOw := Lib.hid (show OwnC wr (w.heap.size + 3) (some ⟨g, 0, none⟩) n c3 (mixP cs ds W W2 H2 x y allP) by rw [← HEND.out]; exact ho)
      have HBw := Lib.hid hb
      have q0 := x9.cell 0
      have q0' := x9.cell 1
      have q0'' := x9.cell 2
      have p0 := x1.cell 0
      have p1 := x1.cell 1
      have p2 := x1.cell 2
      have g0 := x1.free 0
      have g1 := x1.free 1
      have g2 := x1.free 2
      clear x1 x9 xb ho hb
      go_wp2_with fail
      refine bodyPost_ret (v := .agg #[.int .i64 (W : Int), .int .i64 (H : Int), .slice (some ⟨g, 0, none⟩) n c3]) (by simp [results, Try.results149, go_sem, p0, p1, p2]) rfl (ansT (by rw [mixP_len]; exact HL.out) ?_ ?_)
      · exact (((HOw.out.setBox (w.heap.size + 2) 0 _ (by omega)).setBox (w.heap.size + 2) 1 _ (by omega)).setBox (w.heap.size + 2) 2 _ (by omega)).more (by omega)
      · exact ((HBw.out.setCell (by simp; omega) _).setCell (by simp; omega) _).setCell (by simp; omega) _
end Go.Proofs.Ytbifbeahakchjaa.Gr
namespace Go.Proofs.Ytbifbeahakchjaa.Gr
open Go.RowKit Go.Proofs.Ytbifbeahakchjaa.Bytes Go.Proofs.Ytbifbeahakchjaa.Rows_ Go.Proofs.Ytbifbeahakchjaa.RowK
set_option linter.unusedVariables false
set_option maxRecDepth 100000 in
set_option maxHeartbeats 6400000 in
theorem spec_GridPaste_yes (W H : Nat) (b o n c : Nat) (cs : List CellD) (W2 H2 : Nat) (b2 o2 n2 c2 : Nat) (ds : List CellD) (x y : Int) (w : World) (hr : RdC w w.heap.size (some ⟨b, o, none⟩) cs) (hl : cs.length = n) (hn : n ≤ 1048576) (ho : okG (W : Int) (H : Int) cs = true) (hr2 : RdC w w.heap.size (some ⟨b2, o2, none⟩) ds) (hl2 : ds.length = n2) (hn2 : n2 ≤ 1048576) (ho2 : okG (W2 : Int) (H2 : Int) ds = true) (s1 : smallB x = true) (s2 : smallB y = true) (hW1 : 1 ≤ W) (hW : W ≤ 120) (hH1 : 1 ≤ H) (hH : H ≤ 120) (hWH : n = W * H) (hW21 : 1 ≤ W2) (hW2 : W2 ≤ 120) (hH21 : 1 ≤ H2) (hH2 : H2 ≤ 120) (hWH2 : n2 = W2 * H2) :
    Calls Try.prog 63 #[.agg #[.int .i64 (W : Int), .int .i64 (H : Int), .slice (some ⟨b, o, none⟩) n c], .agg #[.int .i64 (W2 : Int), .int .i64 (H2 : Int), .slice (some ⟨b2, o2, none⟩) n2 c2], .int .i64 x, .int .i64 y] w (AnsT w ((W : Int), (H : Int), (mixP cs ds W W2 H2 x y allP))) := by
  have hb0 := Lib.hid ((((Below.refl w.heap.size w).alloc (Nat.le_refl _) (.cells #[.int .i64 (W : Int), .int .i64 (H : Int), .slice (some ⟨b, o, none⟩) n c] 48)).alloc (by simp) (.cells #[.int .i64 (W2 : Int), .int .i64 (H2 : Int), .slice (some ⟨b2, o2, none⟩) n2 c2] 48)).alloc (by simp; omega) (.cells #[.int .i64 0, .int .i64 0, .slice none 0 0] 48))
  have X0 := Lib.hid (((BoxG.new w #[.int .i64 (W : Int), .int .i64 (H : Int), .slice (some ⟨b, o, none⟩) n c]).below ((Below.refl _ _).alloc (Nat.le_refl _) (.cells #[.int .i64 (W2 : Int), .int .i64 (H2 : Int), .slice (some ⟨b2, o2, none⟩) n2 c2] 48)) (by simp)).below ((Below.refl _ _).alloc (Nat.le_refl _) (.cells #[.int .i64 0, .int .i64 0, .slice none 0 0] 48)) (by simp; omega))
  have xb := (BoxG.new (w.alloc (.cells #[.int .i64 (W : Int), .int .i64 (H : Int), .slice (some ⟨b, o, none⟩) n c] 48)) #[.int .i64 (W2 : Int), .int .i64 (H2 : Int), .slice (some ⟨b2, o2, none⟩) n2 c2]).below ((Below.refl _ _).alloc (Nat.le_refl _) (.cells #[.int .i64 0, .int .i64 0, .slice none 0 0] 48)) (by simp)
  simp only [World.size_alloc] at xb
  have XB := Lib.hid xb
  have x1 := BoxG.new ((w.alloc (.cells #[.int .i64 (W : Int), .int .i64 (H : Int), .slice (some ⟨b, o, none⟩) n c] 48)).alloc (.cells #[.int .i64 (W2 : Int), .int .i64 (H2 : Int), .slice (some ⟨b2, o2, none⟩) n2 c2] 48)) #[.int .i64 0, .int .i64 0, .slice none 0 0]
  simp only [World.size_alloc] at x1
  have X1 := Lib.hid x1
  have HO := Lib.hid ho
  have HO2 := Lib.hid ho2
  have S1 := Lib.hid s1
  have S2 := Lib.hid s2
  have HR := Lib.hid hr
  have HL := Lib.hid hl
  have HR2 := Lib.hid hr2
  have HL2 := Lib.hid hl2
  have HK := Lib.hid (fun V (h : Below w.heap.size w V) => spec_GridOk_any (W : Int) (H : Int) (some ⟨b, o, none⟩) n c cs V ((HR.out.below (Nat.le_refl _) h).more h.size) HL.out (by omega))
  have HK2 := Lib.hid (fun V (h : Below w.heap.size w V) => spec_GridOk_any (W2 : Int) (H2 : Int) (some ⟨b2, o2, none⟩) n2 c2 ds V ((HR2.out.below (Nat.le_refl _) h).more h.size) HL2.out (by omega))
  have HCP := Lib.hid (fun V (h : Below w.heap.size w V) => l07Copy_any (W : Int) (H : Int) (some ⟨b, o, none⟩) n c cs V (fun h => by cases h) ((HR.out.below (Nat.le_refl _) h).more h.size) HL.out (by omega))
  obtain ⟨k11, k12⟩ := of_smallB s1
  obtain ⟨k21, k22⟩ := of_smallB s2
  have HEND := Lib.hid (pasteS_end (cs := cs) (ds := ds) (W := W) (W2 := W2) (H2 := H2) (x := x) (y := y) (k := n2) hWH2)
  have HNW := Lib.hid (show cs.length = W * H by omega)
  have HND := Lib.hid (show ds.length = W2 * H2 by omega)
  have hn0 : 0 < n := by rw [hWH]; exact Nat.mul_pos hW1 hH1
  have HRL := Lib.hid (fun (a d : Nat) (h1 : a < W) (h2 : d < H) => (show d * W + a < n by rw [hWH]; exact row_lt h1 h2))
  clear hWH hWH2 ho ho2 hr hl hr2 hl2 x1 xb s1 s2
  go_enter Try.func63, Try.ntmps63
  go_wp2_with fail
  refine (HK.out _ hb0.out).mono ?_
  rintro e v1 ⟨rfl, hb1⟩
  rw [HO.out]
  have x0 := X0.out.below hb1 (by simp; omega)
  have xb := XB.out.below hb1 (by simp)
  have X1a := Lib.hid (X1.out.below hb1 (by simp))
  have X0a := Lib.hid x0
  have XBa := Lib.hid xb
  have HB1 := Lib.hid (hb0.out.trans (hb1.mono (by simp; omega)))
  have c0 := xb.cell 0
  have c1 := xb.cell 1
  have c2_ := xb.cell 2
  have hz1 : w.heap.size + 2 < v1.heap.size := by have := hb1.size; simp at this; omega
  clear hb1 x0 xb X0 X1 XB
  go_wp2_with fail
  refine (HK2.out _ HB1.out).mono ?_
  rintro e v2 ⟨rfl, hb2⟩
  rw [HO2.out]
  clear c0 c1 c2_
  have x0 := X0a.out.below hb2 (by omega)
  have xb := XBa.out.below hb2 (by omega)
  have X1b := Lib.hid (X1a.out.below hb2 (by omega))
  have X0b := Lib.hid x0
  have XBb := Lib.hid xb
  have HB2 := Lib.hid (HB1.out.trans (hb2.mono (by omega)))
  have q0 := x0.cell 0
  have q0' := x0.cell 1
  have q0'' := x0.cell 2
  have hz2 : w.heap.size + 2 < v2.heap.size := by have := hb2.size; omega
  clear hb2 x0 xb X0a X1a XBa
  go_wp2_with fail
  (with_reducible refine (l07Small_any x _).mono ?_)
  rintro e v ⟨rfl, rfl⟩
  rw [S1.out]
  go_wp2_with fail
  (with_reducible refine (l07Small_any y _).mono ?_)
  rintro e v ⟨rfl, rfl⟩
  rw [S2.out]
  go_wp2_with fail
  refine (HCP.out _ HB2.out).mono ?_
  rintro e v3 ⟨A3, c3, rfl, ho3, hb3⟩
  obtain ⟨g, rfl⟩ := ho3.addr (by omega)
  have hcap := ho3.cap
  clear q0 q0' q0''
  have hg := ho3.blk g rfl
  have HB3 := Lib.hid (HB2.out.trans (hb3.mono (by omega)))
  have hz3 : w.heap.size + 2 < v3.heap.size := by have := hb3.size; omega
  have hal := (Below.refl v3.heap.size v3).alloc (Nat.le_refl _) (.cells #[.int .i64 (W : Int), .int .i64 (H : Int), .slice (some ⟨g, 0, none⟩) n c3] 48)
  have X1c := Lib.hid ((X1b.out.below hb3 (by omega)).below hal (by omega))
  have X0c := Lib.hid ((X0b.out.below hb3 (by omega)).below hal (by omega))
  have xbc := (XBb.out.below hb3 (by omega)).below hal (by omega)
  have XBc := Lib.hid xbc
  have X9 := Lib.hid (BoxG.new v3 #[.int .i64 (W : Int), .int .i64 (H : Int), .slice (some ⟨g, 0, none⟩) n c3])
  have HO3 := Lib.hid ((ho3.below (Nat.le_refl _) hal).more (base' := w.heap.size + 3) (by omega))
  have HB3a := Lib.hid (HB3.out.trans (hal.mono (by omega)))
  have hgw : w.heap.size + 3 ≤ g := by omega
  have hgn9 : g ≠ v3.heap.size := by omega
  have HG9 := Lib.hid (show g < v3.heap.size from hg.2)
  have q2 := xbc.cell 2
  clear hal hb3 ho3 X1b X0b XBb HB3 hg xbc
  go_wp2_with fail
  clear q2
  go_loopw [38] (fun s wr => ∃ k : Nat, k ≤ n2 ∧ s = .int .i64 (k : Int) ∧ BoxG wr w.heap.size #[.int .i64 (W : Int), .int .i64 (H : Int), .slice (some ⟨b, o, none⟩) n c] ∧ BoxG wr (w.heap.size + 1) #[.int .i64 (W2 : Int), .int .i64 (H2 : Int), .slice (some ⟨b2, o2, none⟩) n2 c2] ∧ BoxG wr (w.heap.size + 2) #[.int .i64 0, .int .i64 0, .slice none 0 0] ∧ BoxG wr v3.heap.size #[.int .i64 (W : Int), .int .i64 (H : Int), .slice (some ⟨g, 0, none⟩) n c3] ∧ OwnC wr (w.heap.size + 3) (some ⟨g, 0, none⟩) n c3 (mixP cs ds W W2 H2 x y (stepsP W W2 x y k)) ∧ Below w.heap.size w wr) (fun s _ => n2 - (intOf s).toNat)
  case atStart => exact ⟨0, Nat.zero_le _, rfl, X0c.out, XBc.out, X1c.out, X9.out, by rw [← pasteS_zero]; exact HO3.out, HB3a.out⟩
  case round =>
    clear X0c X1c XBc X9 HO3 HB3a
    obtain ⟨k, hkn, rfl, xa, xb, x1, x9, ho, hb⟩ := hrel
    by_cases hlt : k < n2
    · have hkd : k < ds.length := by rw [HL2.out]; exact hlt
      obtain ⟨b2', o2', eA, _, d0, d1, d2, d3, d4, d5⟩ := (HR2.out.below (Nat.le_refl _) hb).at_ hkd
      injection eA with eA
      injection eA with eA1 eA2
      subst eA1 eA2
      have HDK := Lib.hid (show ds[k] = ⟨ds[k].r, ds[k].fg, ds[k].bg, ds[k].b, ds[k].u, ds[k].t⟩ from rfl)
      generalize ds[k].r = z0 at d0 HDK
      generalize ds[k].fg = z1 at d1 HDK
      generalize ds[k].bg = z2 at d2 HDK
      generalize ds[k].b = z3 at d3 HDK
      generalize ds[k].u = z4 at d4 HDK
      generalize ds[k].t = z5 at d5 HDK
      have a0 : wr.cell? ⟨w.heap.size, 0, none⟩ = some (.int .i64 (W : Int)) := xa.cell 0
      have a1 : wr.cell? ⟨w.heap.size, 1, none⟩ = some (.int .i64 (H : Int)) := xa.cell 1
      have b0 : wr.cell? ⟨w.heap.size + 1, 0, none⟩ = some (.int .i64 (W2 : Int)) := xb.cell 0
      have q9 : wr.cell? ⟨v3.heap.size, 2, none⟩ = some (.slice (some ⟨g, 0, none⟩) n c3) := x9.cell 2
      obtain ⟨mx, hmx⟩ : ∃ m, m = k % W2 := ⟨_, rfl⟩
      obtain ⟨my, hmy⟩ : ∃ m, m = k / W2 := ⟨_, rfl⟩
      have E1 := Lib.hid (show Int.tmod (k : Int) (W2 : Int) = (mx : Int) by rw [hmx]; rfl)
      have E2 := Lib.hid (show Int.tdiv (k : Int) (W2 : Int) = (my : Int) by rw [hmy]; rfl)
      have hmxb : mx < 120 := by rw [hmx]; exact Nat.lt_of_lt_of_le (Nat.mod_lt _ hW21) hW2
      have hmyb : my ≤ 1048576 := by rw [hmy]; exact Nat.le_trans (Nat.div_le_self _ _) (by omega)
      have HIF := Lib.hid (fun (h : ¬ (0 ≤ x + (mx : Int) ∧ x + (mx : Int) < (W : Int) ∧ 0 ≤ y + (my : Int) ∧ y + (my : Int) < (H : Int))) => (show ¬ (0 ≤ x + ((k % W2 : Nat) : Int) ∧ x + ((k % W2 : Nat) : Int) < (W : Int) ∧ 0 ≤ y + ((k / W2 : Nat) : Int) ∧ y + ((k / W2 : Nat) : Int) < (H : Int)) by rw [← hmx, ← hmy]; exact h))
      have HIT := Lib.hid (fun (cx cy j : Nat) (h1 : (cx : Int) = x + (mx : Int)) (h2 : (cy : Int) = y + (my : Int)) => pasteS_in (cs := cs) (ds := ds) (W := W) (H := H) (W2 := W2) (H2 := H2) (x := x) (y := y) (k := k) (j := j) (cx := cx) (cy := cy) hW21 hW1 HNW.out HND.out hkd (by rw [← hmx]; exact h1) (by rw [← hmy]; exact h2))
      have hal := (Below.refl wr.heap.size wr).alloc (Nat.le_refl _) (.cells #[.int .i64 z0, .int .i64 z1, .int .i64 z2, .bool z3, .bool z4, .bool z5] 69)
      have XA := Lib.hid (xa.below hal xa.lt)
      have XB := Lib.hid (xb.below hal xb.lt)
      have XC := Lib.hid (x1.below hal x1.lt)
      have X9 := Lib.hid (x9.below hal x9.lt)
      have HOw := Lib.hid (ho.below (Nat.le_refl _) hal)
      have HBw := Lib.hid (hb.trans (hal.mono hb.size))
      have la := xa.lt
      have l9 := x9.lt
      have lb := xb.lt
      have lg : g < wr.heap.size := (ho.blk g rfl).2
      clear xa xb x1 x9 ho hb hmx hmy hal
      have hW0 : (W2 : Int) ≠ 0 := by omega
      have e1 := E1.out
      have e2 := E2.out
      have i0 : (0 : Int) ≤ (k : Int) := by omega
      have i1 : (k : Int) < (n2 : Int) := by omega
      by_cases b1 : 0 ≤ x + (mx : Int)
      · by_cases b2_ : x + (mx : Int) < (W : Int)
        · by_cases b3 : 0 ≤ y + (my : Int)
          · by_cases b4 : y + (my : Int) < (H : Int)
            · obtain ⟨cx, hcx⟩ := Int.eq_ofNat_of_zero_le b1
              obtain ⟨cy, hcy⟩ := Int.eq_ofNat_of_zero_le b3
              obtain ⟨cw, hcw⟩ : ∃ m, m = cy * W := ⟨_, rfl⟩
              obtain ⟨j, hj⟩ : ∃ m, m = cw + cx := ⟨_, rfl⟩
              have hjn : j < n := by rw [hj, hcw]; exact HRL.out cx cy (by omega) (by omega)
              have E3 := Lib.hid (show IntKind.i64.wrap ((cy : Int) * (W : Int)) = (cw : Int) by rw [← Int.natCast_mul, ← hcw]; exact IntWalk.i64_in _ (by omega))
              have E4 := Lib.hid (show IntKind.i64.wrap ((cw : Int) + (cx : Int)) = (j : Int) by rw [← Int.natCast_add, ← hj]; exact IntWalk.i64_in _ (by omega))
              have HCX := Lib.hid hcx
              have HCY := Lib.hid hcy
              obtain ⟨wz, hwz⟩ : ∃ v, v = (wr.alloc (.cells #[.int .i64 z0, .int .i64 z1, .int .i64 z2, .bool z3, .bool z4, .bool z5] 69)) := ⟨_, rfl⟩
              have HV := Lib.hid hwz.symm
              rw [← hwz] at XA XB XC X9 HOw HBw
              have m0 : wz.cell? ⟨wr.heap.size, 0, none⟩ = some (.int .i64 z0) := by rw [hwz, World.cell?_alloc_at _ _ _ _ rfl]; rfl
              have m1 : wz.cell? ⟨wr.heap.size, 1, none⟩ = some (.int .i64 z1) := by rw [hwz, World.cell?_alloc_at _ _ _ _ rfl]; rfl
              have m2 : wz.cell? ⟨wr.heap.size, 2, none⟩ = some (.int .i64 z2) := by rw [hwz, World.cell?_alloc_at _ _ _ _ rfl]; rfl
              have m3 : wz.cell? ⟨wr.heap.size, 3, none⟩ = some (.bool z3) := by rw [hwz, World.cell?_alloc_at _ _ _ _ rfl]; rfl
              have m4 : wz.cell? ⟨wr.heap.size, 4, none⟩ = some (.bool z4) := by rw [hwz, World.cell?_alloc_at _ _ _ _ rfl]; rfl
              have m5 : wz.cell? ⟨wr.heap.size, 5, none⟩ = some (.bool z5) := by rw [hwz, World.cell?_alloc_at _ _ _ _ rfl]; rfl
              clear hwz
              have i2 : (0 : Int) ≤ (j : Int) := by omega
              have i3 : (j : Int) < (n : Int) := by omega
              have HN := Lib.hid (HIT.out cx cy j hcx.symm hcy.symm (by omega) (by omega) (by rw [hj, hcw]))
              have hll : (mixP cs ds W W2 H2 x y (stepsP W W2 x y k)).length = n := by rw [mixP_len]; exact HL.out
              have HON := Lib.hid (show OwnC ((((((wz.setCell ⟨g, j * 6, none⟩ (.int .i64 z0)).setCell ⟨g, j * 6 + 1, none⟩ (.int .i64 z1)).setCell ⟨g, j * 6 + 2, none⟩ (.int .i64 z2)).setCell ⟨g, j * 6 + 3, none⟩ (.bool z3)).setCell ⟨g, j * 6 + 4, none⟩ (.bool z4)).setCell ⟨g, j * 6 + 5, none⟩ (.bool z5)) (w.heap.size + 3) (some ⟨g, 0, none⟩) n c3 (mixP cs ds W W2 H2 x y (stepsP W W2 x y (k + 1))) by
                have h := own_setC HOw.out j (by rw [hll]; exact hjn) ⟨z0, z1, z2, z3, z4, z5⟩
                rw [show (mixP cs ds W W2 H2 x y (stepsP W W2 x y k)).set j ⟨z0, z1, z2, z3, z4, z5⟩ = (mixP cs ds W W2 H2 x y (stepsP W W2 x y (k + 1))) by rw [← HDK.out]; exact HN.out] at h
                exact h)
              obtain ⟨u0, hu0⟩ := own_there HOw.out (j * 6) (by omega)
              obtain ⟨u1, hu1⟩ := own_there HOw.out (j * 6 + 1) (by omega)
              obtain ⟨u2, hu2⟩ := own_there HOw.out (j * 6 + 2) (by omega)
              obtain ⟨u3, hu3⟩ := own_there HOw.out (j * 6 + 3) (by omega)
              obtain ⟨u4, hu4⟩ := own_there HOw.out (j * 6 + 4) (by omega)
              obtain ⟨u5, hu5⟩ := own_there HOw.out (j * 6 + 5) (by omega)
              have f0 := World.ownsRow.frozenAt (h := HOw.out) (j * 6)
              have f1 := World.ownsRow.frozenAt (h := HOw.out) (j * 6 + 1)
              have f2 := World.ownsRow.frozenAt (h := HOw.out) (j * 6 + 2)
              have f3 := World.ownsRow.frozenAt (h := HOw.out) (j * 6 + 3)
              have f4 := World.ownsRow.frozenAt (h := HOw.out) (j * 6 + 4)
              have f5 := World.ownsRow.frozenAt (h := HOw.out) (j * 6 + 5)
              have XA2 := Lib.hid (XA.out.only6 (g := g) (by omega) (j * 6) (j * 6 + 1) (j * 6 + 2) (j * 6 + 3) (j * 6 + 4) (j * 6 + 5) (.int .i64 z0) (.int .i64 z1) (.int .i64 z2) (.bool z3) (.bool z4) (.bool z5))
              have XB2 := Lib.hid (XB.out.only6 (g := g) (by omega) (j * 6) (j * 6 + 1) (j * 6 + 2) (j * 6 + 3) (j * 6 + 4) (j * 6 + 5) (.int .i64 z0) (.int .i64 z1) (.int .i64 z2) (.bool z3) (.bool z4) (.bool z5))
              have XC2 := Lib.hid (XC.out.only6 (g := g) (by omega) (j * 6) (j * 6 + 1) (j * 6 + 2) (j * 6 + 3) (j * 6 + 4) (j * 6 + 5) (.int .i64 z0) (.int .i64 z1) (.int .i64 z2) (.bool z3) (.bool z4) (.bool z5))
              have X92 := Lib.hid (X9.out.only6 (g := g) (by omega) (j * 6) (j * 6 + 1) (j * 6 + 2) (j * 6 + 3) (j * 6 + 4) (j * 6 + 5) (.int .i64 z0) (.int .i64 z1) (.int .i64 z2) (.bool z3) (.bool z4) (.bool z5))
              have HB2 := Lib.hid (below6 HBw.out (show w.heap.size ≤ g by omega) (j * 6) (j * 6 + 1) (j * 6 + 2) (j * 6 + 3) (j * 6 + 4) (j * 6 + 5) (.int .i64 z0) (.int .i64 z1) (.int .i64 z2) (.bool z3) (.bool z4) (.bool z5))
              clear hcx hcy hcw hj HIF HIT hll
              go_upto_region 10 with fail
              rw [HV.out, HCX.out, HCY.out]
              clear e1 e2 b1 b2_ b3 b4 k11 k12 k21 k22 a0 a1 b0 q9 d0 d1 d2 d3 d4 d5 hmxb hmyb
              have a0 : wz.cell? ⟨w.heap.size, 0, none⟩ = some (.int .i64 (W : Int)) := XA.out.cell 0
              have q9 : wz.cell? ⟨v3.heap.size, 2, none⟩ = some (.slice (some ⟨g, 0, none⟩) n c3) := X9.out.cell 2
              have e3 := E3.out
              have e4 := E4.out
              go_wp2_with fail
              exact ⟨⟨k + 1, by omega, by go_num, XA2.out, XB2.out, XC2.out, X92.out, HON.out, HB2.out⟩, by simp [intOf]; omega⟩
            · have HN := Lib.hid (pasteS_out (cs := cs) (ds := ds) (W := W) (H := H) (W2 := W2) (H2 := H2) (x := x) (y := y) (k := k) hW21 hW1 HNW.out (HIF.out (by omega)))
              clear HIF HIT
              go_wp2_with fail
              exact ⟨⟨k + 1, by omega, by go_num, XA.out, XB.out, XC.out, X9.out, by rw [← HN.out]; exact HOw.out, HBw.out⟩, by simp [intOf]; omega⟩
          · have HN := Lib.hid (pasteS_out (cs := cs) (ds := ds) (W := W) (H := H) (W2 := W2) (H2 := H2) (x := x) (y := y) (k := k) hW21 hW1 HNW.out (HIF.out (by omega)))
            clear HIF HIT
            go_wp2_with fail
            exact ⟨⟨k + 1, by omega, by go_num, XA.out, XB.out, XC.out, X9.out, by rw [← HN.out]; exact HOw.out, HBw.out⟩, by simp [intOf]; omega⟩
        · have HN := Lib.hid (pasteS_out (cs := cs) (ds := ds) (W := W) (H := H) (W2 := W2) (H2 := H2) (x := x) (y := y) (k := k) hW21 hW1 HNW.out (HIF.out (by omega)))
          clear HIF HIT
          go_wp2_with fail
          exact ⟨⟨k + 1, by omega, by go_num, XA.out, XB.out, XC.out, X9.out, by rw [← HN.out]; exact HOw.out, HBw.out⟩, by simp [intOf]; omega⟩
      · have HN := Lib.hid (pasteS_out (cs := cs) (ds := ds) (W := W) (H := H) (W2 := W2) (H2 := H2) (x := x) (y := y) (k := k) hW21 hW1 HNW.out (HIF.out (by omega)))
        clear HIF HIT
        go_wp2_with fail
        exact ⟨⟨k + 1, by omega, by go_num, XA.out, XB.out, XC.out, X9.out, by rw [← HN.out]; exact HOw.out, HBw.out⟩, by simp [intOf]; omega⟩
    · obtain rfl : n2 = k := by omega
      have HOw := Lib.hid (show OwnC wr (w.heap.size + 3) (some ⟨g, 0, none⟩) n c3 (mixP cs ds W W2 H2 x y allP) by rw [← HEND.out]; exact ho)
      have HBw := Lib.hid hb
      have q0 := x9.cell 0
      have q0' := x9.cell 1
      have q0'' := x9.cell 2
      have p0 := x1.cell 0
      have p1 := x1.cell 1
      have p2 := x1.cell 2
      have g0 := x1.free 0
      have g1 := x1.free 1
      have g2 := x1.free 2
      clear x1 x9 xb xa ho hb
      go_wp2_with fail
      refine bodyPost_ret (v := .agg #[.int .i64 (W : Int), .int .i64 (H : Int), .slice (some ⟨g, 0, none⟩) n c3]) (by simp [results, Try.results63, go_sem, p0, p1, p2]) rfl (ansT (by rw [mixP_len]; exact HL.out) ?_ ?_)
      · exact (((HOw.out.setBox (w.heap.size + 2) 0 _ (by omega)).setBox (w.heap.size + 2) 1 _ (by omega)).setBox (w.heap.size + 2) 2 _ (by omega)).more (by omega)
      · exact ((HBw.out.setCell (by simp; omega) _).setCell (by simp; omega) _).setCell (by simp; omega) _
end Go.Proofs.Ytbifbeahakchjaa.Gr
namespace Go.Proofs.Ytbifbeahakchjaa.Gr
open Go.RowKit Go.Proofs.Ytbifbeahakchjaa.Bytes Go.Proofs.Ytbifbeahakchjaa.Rows_ Go.Proofs.Ytbifbeahakchjaa.RowK
set_option linter.unusedVariables false
theorem pasteT_no {gw gh gw2 gh2 x y : Int} {cs ds : List CellD} (hg : goodP gw gh cs gw2 gh2 ds x y = false) : pasteT gw gh cs gw2 gh2 ds x y = zeroT := by unfold pasteT; rw [hg]; rfl
theorem pasteT_yes {W H W2 H2 : Nat} {x y : Int} {cs ds : List CellD} (hg : goodP (W : Int) (H : Int) cs (W2 : Int) (H2 : Int) ds x y = true) : pasteT (W : Int) (H : Int) cs (W2 : Int) (H2 : Int) ds x y = ((W : Int), (H : Int), mixP cs ds W W2 H2 x y allP) := by unfold pasteT; rw [hg]; rfl
theorem pasteT_len {gw gh gw2 gh2 x y : Int} {cs ds : List CellD} {n : Nat} (hl : cs.length = n) (hn : n ≤ 1048576) : (pasteT gw gh cs gw2 gh2 ds x y).2.2.length ≤ 1048576 := by
  cases hg : goodP gw gh cs gw2 gh2 ds x y
  · rw [pasteT_no hg]; simp [zeroT]
  · unfold pasteT; rw [hg]
    show (mixP cs _ _ _ _ _ _ _).length ≤ 1048576
    rw [mixP_len]; omega
theorem goodP_t {gw gh gw2 gh2 x y : Int} {cs ds : List CellD} (hg : goodP gw gh cs gw2 gh2 ds x y = true) : okG gw gh cs = true ∧ okG gw2 gh2 ds = true ∧ smallB x = true ∧ smallB y = true := by
  unfold goodP at hg
  simp only [Bool.and_eq_true] at hg
  exact hg

set_option maxRecDepth 100000 in
set_option maxHeartbeats 6400000 in
theorem impl_GridPaste_no (gw gh : Int) (A : Option Addr) (n c : Nat) (cs : List CellD) (gw2 gh2 : Int) (A2 : Option Addr) (n2 c2 : Nat) (ds : List CellD) (x y : Int) (w : World) (hr : RdC w w.heap.size A cs) (hl : cs.length = n) (hn : n ≤ 1048576) (hr2 : RdC w w.heap.size A2 ds) (hl2 : ds.length = n2) (hn2 : n2 ≤ 1048576) (hno : goodP gw gh cs gw2 gh2 ds x y = false) :
    Calls Try.prog 149 #[.agg #[.int .i64 gw, .int .i64 gh, .slice A n c], .agg #[.int .i64 gw2, .int .i64 gh2, .slice A2 n2 c2], .int .i64 x, .int .i64 y] w (AnsT w zeroT) := by
  have hb0 := Lib.hid ((((Below.refl w.heap.size w).alloc (Nat.le_refl _) (.cells #[.int .i64 gw, .int .i64 gh, .slice A n c] 48)).alloc (by simp) (.cells #[.int .i64 gw2, .int .i64 gh2, .slice A2 n2 c2] 48)).alloc (by simp; omega) (.cells #[.int .i64 0, .int .i64 0, .slice none 0 0] 48))
  have HK := Lib.hid (fun V (h : Below w.heap.size w V) => impl_GridOk_any gw gh A n c cs V ((hr.below (Nat.le_refl _) h).more h.size) hl (by omega))
  have HK2 := Lib.hid (fun V (h : Below w.heap.size w V) => impl_GridOk_any gw2 gh2 A2 n2 c2 ds V ((hr2.below (Nat.le_refl _) h).more h.size) hl2 (by omega))
  have xc := (BoxG.new (w.alloc (.cells #[.int .i64 gw, .int .i64 gh, .slice A n c] 48)) #[.int .i64 gw2, .int .i64 gh2, .slice A2 n2 c2]).below ((Below.refl _ _).alloc (Nat.le_refl _) (.cells #[.int .i64 0, .int .i64 0, .slice none 0 0] 48)) (by simp)
  simp only [World.size_alloc] at xc
  have XC := Lib.hid xc
  have x1 := BoxG.new ((w.alloc (.cells #[.int .i64 gw, .int .i64 gh, .slice A n c] 48)).alloc (.cells #[.int .i64 gw2, .int .i64 gh2, .slice A2 n2 c2] 48)) #[.int .i64 0, .int .i64 0, .slice none 0 0]
  simp only [World.size_alloc] at x1
  have X1 := Lib.hid x1
  unfold goodP at hno
  clear hr hl hr2 hl2 x1 xc
  cases ho : okG gw gh cs
  · have HO := Lib.hid ho
    clear ho hno
    go_enter Try.func149, Try.ntmps149
    go_wp2_with fail
    refine (HK.out _ hb0.out).mono ?_
    rintro e v1 ⟨rfl, hb1⟩
    rw [HO.out]
    have xc := XC.out.below hb1 (by simp)
    have X1a := Lib.hid (X1.out.below hb1 (by simp))
    have HB1 := Lib.hid (hb0.out.trans (hb1.mono (by simp; omega)))
    have hz1 : w.heap.size + 2 < v1.heap.size := by have := hb1.size; simp at this; omega
    clear hb1 X1 XC
    have p0 := X1a.out.cell 0
    have p1 := X1a.out.cell 1
    have p2 := X1a.out.cell 2
    have g0 := X1a.out.free 0
    have g1 := X1a.out.free 1
    have g2 := X1a.out.free 2
    go_wp2_with fail
    refine bodyPost_ret (v := .agg #[.int .i64 0, .int .i64 0, .slice none 0 0]) (by simp [results, Try.results149, go_sem, p0, p1, p2]) rfl (ansZero ?_)
    exact ((HB1.out.setCell (by simp; omega) _).setCell (by simp; omega) _).setCell (by simp; omega) _
  · rw [ho, Bool.true_and] at hno
    have HO := Lib.hid ho
    clear ho
    cases hz : okG gw2 gh2 ds
    · have HZ := Lib.hid hz
      clear hz hno
      go_enter Try.func149, Try.ntmps149
      go_wp2_with fail
      refine (HK.out _ hb0.out).mono ?_
      rintro e v1 ⟨rfl, hb1⟩
      rw [HO.out]
      have xc := XC.out.below hb1 (by simp)
      have X1a := Lib.hid (X1.out.below hb1 (by simp))
      have HB1 := Lib.hid (hb0.out.trans (hb1.mono (by simp; omega)))
      have hz1 : w.heap.size + 2 < v1.heap.size := by have := hb1.size; simp at this; omega
      clear hb1 X1 XC
      have c0_ := xc.cell 0
      have c1_ := xc.cell 1
      have c2_ := xc.cell 2
      clear xc
      go_wp2_with fail
      refine (HK2.out _ HB1.out).mono ?_
      rintro e v2 ⟨rfl, hb2⟩
      rw [HZ.out]
      clear c0_ c1_ c2_
      have X1b := Lib.hid (X1a.out.below hb2 (by omega))
      have HB2 := Lib.hid (HB1.out.trans (hb2.mono (by omega)))
      have hz2 : w.heap.size + 2 < v2.heap.size := by have := hb2.size; omega
      clear hb2 X1a
      have p0 := X1b.out.cell 0
      have p1 := X1b.out.cell 1
      have p2 := X1b.out.cell 2
      have g0 := X1b.out.free 0
      have g1 := X1b.out.free 1
      have g2 := X1b.out.free 2
      go_wp2_with fail
      refine bodyPost_ret (v := .agg #[.int .i64 0, .int .i64 0, .slice none 0 0]) (by simp [results, Try.results149, go_sem, p0, p1, p2]) rfl (ansZero ?_)
      exact ((HB2.out.setCell (by simp; omega) _).setCell (by simp; omega) _).setCell (by simp; omega) _
    · rw [hz, Bool.true_and] at hno
      have HZ := Lib.hid hz
      clear hz
      cases s1 : smallB x
      · have S1 := Lib.hid s1
        clear s1 hno
        go_enter Try.func149, Try.ntmps149
        go_wp2_with fail
        refine (HK.out _ hb0.out).mono ?_
        rintro e v1 ⟨rfl, hb1⟩
        rw [HO.out]
        have xc := XC.out.below hb1 (by simp)
        have X1a := Lib.hid (X1.out.below hb1 (by simp))
        have HB1 := Lib.hid (hb0.out.trans (hb1.mono (by simp; omega)))
        have hz1 : w.heap.size + 2 < v1.heap.size := by have := hb1.size; simp at this; omega
        clear hb1 X1 XC
        have c0_ := xc.cell 0
        have c1_ := xc.cell 1
        have c2_ := xc.cell 2
        clear xc
        go_wp2_with fail
        refine (HK2.out _ HB1.out).mono ?_
        rintro e v2 ⟨rfl, hb2⟩
        rw [HZ.out]
        clear c0_ c1_ c2_
        have X1b := Lib.hid (X1a.out.below hb2 (by omega))
        have HB2 := Lib.hid (HB1.out.trans (hb2.mono (by omega)))
        have hz2 : w.heap.size + 2 < v2.heap.size := by have := hb2.size; omega
        clear hb2 X1a
        go_wp2_with fail
        (with_reducible refine (isReach_any x _).mono ?_)
        rintro e v ⟨rfl, rfl⟩
        rw [S1.out]
        have p0 := X1b.out.cell 0
        have p1 := X1b.out.cell 1
        have p2 := X1b.out.cell 2
        have g0 := X1b.out.free 0
        have g1 := X1b.out.free 1
        have g2 := X1b.out.free 2
        go_wp2_with fail
        refine bodyPost_ret (v := .agg #[.int .i64 0, .int .i64 0, .slice none 0 0]) (by simp [results, Try.results149, go_sem, p0, p1, p2]) rfl (ansZero ?_)
        exact ((HB2.out.setCell (by simp; omega) _).setCell (by simp; omega) _).setCell (by simp; omega) _
      · rw [s1, Bool.true_and] at hno
        have S1 := Lib.hid s1
        have S2 := Lib.hid hno
        clear s1 hno
        go_enter Try.func149, Try.ntmps149
        go_wp2_with fail
        refine (HK.out _ hb0.out).mono ?_
        rintro e v1 ⟨rfl, hb1⟩
        rw [HO.out]
        have xc := XC.out.below hb1 (by simp)
        have X1a := Lib.hid (X1.out.below hb1 (by simp))
        have HB1 := Lib.hid (hb0.out.trans (hb1.mono (by simp; omega)))
        have hz1 : w.heap.size + 2 < v1.heap.size := by have := hb1.size; simp at this; omega
        clear hb1 X1 XC
        have c0_ := xc.cell 0
        have c1_ := xc.cell 1
        have c2_ := xc.cell 2
        clear xc
        go_wp2_with fail
        refine (HK2.out _ HB1.out).mono ?_
        rintro e v2 ⟨rfl, hb2⟩
        rw [HZ.out]
        clear c0_ c1_ c2_
        have X1b := Lib.hid (X1a.out.below hb2 (by omega))
        have HB2 := Lib.hid (HB1.out.trans (hb2.mono (by omega)))
        have hz2 : w.heap.size + 2 < v2.heap.size := by have := hb2.size; omega
        clear hb2 X1a
        go_wp2_with fail
        (with_reducible refine (isReach_any x _).mono ?_)
        rintro e v ⟨rfl, rfl⟩
        rw [S1.out]
        go_wp2_with fail
        (with_reducible refine (isReach_any y _).mono ?_)
        rintro e v ⟨rfl, rfl⟩
        rw [S2.out]
        have p0 := X1b.out.cell 0
        have p1 := X1b.out.cell 1
        have p2 := X1b.out.cell 2
        have g0 := X1b.out.free 0
        have g1 := X1b.out.free 1
        have g2 := X1b.out.free 2
        go_wp2_with fail
        refine bodyPost_ret (v := .agg #[.int .i64 0, .int .i64 0, .slice none 0 0]) (by simp [results, Try.results149, go_sem, p0, p1, p2]) rfl (ansZero ?_)
        exact ((HB2.out.setCell (by simp; omega) _).setCell (by simp; omega) _).setCell (by simp; omega) _

theorem impl_GridPaste_own (gw gh : Int) {A : Option Addr} {n c : Nat} {cs : List CellD} (gw2 gh2 : Int) {A2 : Option Addr} {n2 c2 : Nat} {ds : List CellD} (x y : Int) {W : World} {B B2 : Nat} (h : OwnC W B A n c cs) (h2 : OwnC W B2 A2 n2 c2 ds) (hn : n ≤ 1048576) (hn2 : n2 ≤ 1048576) :
    Calls Try.prog 149 #[.agg #[.int .i64 gw, .int .i64 gh, .slice A n c], .agg #[.int .i64 gw2, .int .i64 gh2, .slice A2 n2 c2], .int .i64 x, .int .i64 y] W (AnsT W (pasteT gw gh cs gw2 gh2 ds x y)) := by
  cases hg : goodP gw gh cs gw2 gh2 ds x y
  · rw [pasteT_no hg]
    exact impl_GridPaste_no gw gh A n c cs gw2 gh2 A2 n2 c2 ds x y W h.rd h.len hn h2.rd h2.len hn2 hg
  · obtain ⟨h1, hz, s1, s2⟩ := goodP_t hg
    obtain ⟨Wn, Hn, rfl, rfl, w1, w2, w3, w4, w5, hl⟩ := sides h1
    obtain ⟨Wm, Hm, rfl, rfl, u1, u2, u3, u4, u5, hl2⟩ := sides hz
    have hlen := h.len
    have hlen2 := h2.len
    have hpos : 0 < Wn * Hn := Nat.mul_pos w1 w3
    have hpos2 : 0 < Wm * Hm := Nat.mul_pos u1 u3
    obtain ⟨g, rfl⟩ := h.addr (by omega)
    obtain ⟨g2, rfl⟩ := h2.addr (by omega)
    rw [pasteT_yes hg]
    exact impl_GridPaste_yes Wn Hn g 0 n c cs Wm Hm g2 0 n2 c2 ds x y W h.rd h.len hn h1 h2.rd h2.len hn2 hz (h2.blk g2 rfl).2 h2.cap.1 h2.cap.2 s1 s2 w1 w2 w3 w4 (by omega) u1 u2 u3 u4 (by omega)

set_option maxRecDepth 100000 in
set_option maxHeartbeats 6400000 in
theorem spec_GridPaste_no (gw gh : Int) (A : Option Addr) (n c : Nat) (cs : List CellD) (gw2 gh2 : Int) (A2 : Option Addr) (n2 c2 : Nat) (ds : List CellD) (x y : Int) (w : World) (hr : RdC w w.heap.size A cs) (hl : cs.length = n) (hn : n ≤ 1048576) (hr2 : RdC w w.heap.size A2 ds) (hl2 : ds.length = n2) (hn2 : n2 ≤ 1048576) (hno : goodP gw gh cs gw2 gh2 ds x y = false) :
    Calls Try.prog 63 #[.agg #[.int .i64 gw, .int .i64 gh, .slice A n c], .agg #[.int .i64 gw2, .int .i64 gh2, .slice A2 n2 c2], .int .i64 x, .int .i64 y] w (AnsT w zeroT) := by
  have hb0 := Lib.hid ((((Below.refl w.heap.size w).alloc (Nat.le_refl _) (.cells #[.int .i64 gw, .int .i64 gh, .slice A n c] 48)).alloc (by simp) (.cells #[.int .i64 gw2, .int .i64 gh2, .slice A2 n2 c2] 48)).alloc (by simp; omega) (.cells #[.int .i64 0, .int .i64 0, .slice none 0 0] 48))
  have HK := Lib.hid (fun V (h : Below w.heap.size w V) => spec_GridOk_any gw gh A n c cs V ((hr.below (Nat.le_refl _) h).more h.size) hl (by omega))
  have HK2 := Lib.hid (fun V (h : Below w.heap.size w V) => spec_GridOk_any gw2 gh2 A2 n2 c2 ds V ((hr2.below (Nat.le_refl _) h).more h.size) hl2 (by omega))
  have xc := (BoxG.new (w.alloc (.cells #[.int .i64 gw, .int .i64 gh, .slice A n c] 48)) #[.int .i64 gw2, .int .i64 gh2, .slice A2 n2 c2]).below ((Below.refl _ _).alloc (Nat.le_refl _) (.cells #[.int .i64 0, .int .i64 0, .slice none 0 0] 48)) (by simp)
  simp only [World.size_alloc] at xc
  have XC := Lib.hid xc
  have x1 := BoxG.new ((w.alloc (.cells #[.int .i64 gw, .int .i64 gh, .slice A n c] 48)).alloc (.cells #[.int .i64 gw2, .int .i64 gh2, .slice A2 n2 c2] 48)) #[.int .i64 0, .int .i64 0, .slice none 0 0]
  simp only [World.size_alloc] at x1
  have X1 := Lib.hid x1
  unfold goodP at hno
  clear hr hl hr2 hl2 x1 xc
  cases ho : okG gw gh cs
  · have HO := Lib.hid ho
    clear ho hno
    go_enter Try.func63, Try.ntmps63
    go_wp2_with fail
    refine (HK.out _ hb0.out).mono ?_
    rintro e v1 ⟨rfl, hb1⟩
    rw [HO.out]
    have xc := XC.out.below hb1 (by simp)
    have X1a := Lib.hid (X1.out.below hb1 (by simp))
    have HB1 := Lib.hid (hb0.out.trans (hb1.mono (by simp; omega)))
    have hz1 : w.heap.size + 2 < v1.heap.size := by have := hb1.size; simp at this; omega
    clear hb1 X1 XC
    have p0 := X1a.out.cell 0
    have p1 := X1a.out.cell 1
    have p2 := X1a.out.cell 2
    have g0 := X1a.out.free 0
    have g1 := X1a.out.free 1
    have g2 := X1a.out.free 2
    go_wp2_with fail
    refine bodyPost_ret (v := .agg #[.int .i64 0, .int .i64 0, .slice none 0 0]) (by simp [results, Try.results63, go_sem, p0, p1, p2]) rfl (ansZero ?_)
    exact ((HB1.out.setCell (by simp; omega) _).setCell (by simp; omega) _).setCell (by simp; omega) _
  · rw [ho, Bool.true_and] at hno
    have HO := Lib.hid ho
    clear ho
    cases hz : okG gw2 gh2 ds
    · have HZ := Lib.hid hz
      clear hz hno
      go_enter Try.func63, Try.ntmps63
      go_wp2_with fail
      refine (HK.out _ hb0.out).mono ?_
      rintro e v1 ⟨rfl, hb1⟩
      rw [HO.out]
      have xc := XC.out.below hb1 (by simp)
      have X1a := Lib.hid (X1.out.below hb1 (by simp))
      have HB1 := Lib.hid (hb0.out.trans (hb1.mono (by simp; omega)))
      have hz1 : w.heap.size + 2 < v1.heap.size := by have := hb1.size; simp at this; omega
      clear hb1 X1 XC
      have c0_ := xc.cell 0
      have c1_ := xc.cell 1
      have c2_ := xc.cell 2
      clear xc
      go_wp2_with fail
      refine (HK2.out _ HB1.out).mono ?_
      rintro e v2 ⟨rfl, hb2⟩
      rw [HZ.out]
      clear c0_ c1_ c2_
      have X1b := Lib.hid (X1a.out.below hb2 (by omega))
      have HB2 := Lib.hid (HB1.out.trans (hb2.mono (by omega)))
      have hz2 : w.heap.size + 2 < v2.heap.size := by have := hb2.size; omega
      clear hb2 X1a
      have p0 := X1b.out.cell 0
      have p1 := X1b.out.cell 1
      have p2 := X1b.out.cell 2
      have g0 := X1b.out.free 0
      have g1 := X1b.out.free 1
      have g2 := X1b.out.free 2
      go_wp2_with fail
      refine bodyPost_ret (v := .agg #[.int .i64 0, .int .i64 0, .slice none 0 0]) (by simp [results, Try.results63, go_sem, p0, p1, p2]) rfl (ansZero ?_)
      exact ((HB2.out.setCell (by simp; omega) _).setCell (by simp; omega) _).setCell (by simp; omega) _
    · rw [hz, Bool.true_and] at hno
      have HZ := Lib.hid hz
      clear hz
      cases s1 : smallB x
      · have S1 := Lib.hid s1
        clear s1 hno
        go_enter Try.func63, Try.ntmps63
        go_wp2_with fail
        refine (HK.out _ hb0.out).mono ?_
        rintro e v1 ⟨rfl, hb1⟩
        rw [HO.out]
        have xc := XC.out.below hb1 (by simp)
        have X1a := Lib.hid (X1.out.below hb1 (by simp))
        have HB1 := Lib.hid (hb0.out.trans (hb1.mono (by simp; omega)))
        have hz1 : w.heap.size + 2 < v1.heap.size := by have := hb1.size; simp at this; omega
        clear hb1 X1 XC
        have c0_ := xc.cell 0
        have c1_ := xc.cell 1
        have c2_ := xc.cell 2
        clear xc
        go_wp2_with fail
        refine (HK2.out _ HB1.out).mono ?_
        rintro e v2 ⟨rfl, hb2⟩
        rw [HZ.out]
        clear c0_ c1_ c2_
        have X1b := Lib.hid (X1a.out.below hb2 (by omega))
        have HB2 := Lib.hid (HB1.out.trans (hb2.mono (by omega)))
        have hz2 : w.heap.size + 2 < v2.heap.size := by have := hb2.size; omega
        clear hb2 X1a
        go_wp2_with fail
        (with_reducible refine (l07Small_any x _).mono ?_)
        rintro e v ⟨rfl, rfl⟩
        rw [S1.out]
        have p0 := X1b.out.cell 0
        have p1 := X1b.out.cell 1
        have p2 := X1b.out.cell 2
        have g0 := X1b.out.free 0
        have g1 := X1b.out.free 1
        have g2 := X1b.out.free 2
        go_wp2_with fail
        refine bodyPost_ret (v := .agg #[.int .i64 0, .int .i64 0, .slice none 0 0]) (by simp [results, Try.results63, go_sem, p0, p1, p2]) rfl (ansZero ?_)
        exact ((HB2.out.setCell (by simp; omega) _).setCell (by simp; omega) _).setCell (by simp; omega) _
      · rw [s1, Bool.true_and] at hno
        have S1 := Lib.hid s1
        have S2 := Lib.hid hno
        clear s1 hno
        go_enter Try.func63, Try.ntmps63
        go_wp2_with fail
        refine (HK.out _ hb0.out).mono ?_
        rintro e v1 ⟨rfl, hb1⟩
        rw [HO.out]
        have xc := XC.out.below hb1 (by simp)
        have X1a := Lib.hid (X1.out.below hb1 (by simp))
        have HB1 := Lib.hid (hb0.out.trans (hb1.mono (by simp; omega)))
        have hz1 : w.heap.size + 2 < v1.heap.size := by have := hb1.size; simp at this; omega
        clear hb1 X1 XC
        have c0_ := xc.cell 0
        have c1_ := xc.cell 1
        have c2_ := xc.cell 2
        clear xc
        go_wp2_with fail
        refine (HK2.out _ HB1.out).mono ?_
        rintro e v2 ⟨rfl, hb2⟩
        rw [HZ.out]
        clear c0_ c1_ c2_
        have X1b := Lib.hid (X1a.out.below hb2 (by omega))
        have HB2 := Lib.hid (HB1.out.trans (hb2.mono (by omega)))
        have hz2 : w.heap.size + 2 < v2.heap.size := by have := hb2.size; omega
        clear hb2 X1a
        go_wp2_with fail
        (with_reducible refine (l07Small_any x _).mono ?_)
        rintro e v ⟨rfl, rfl⟩
        rw [S1.out]
        go_wp2_with fail
        (with_reducible refine (l07Small_any y _).mono ?_)
        rintro e v ⟨rfl, rfl⟩
        rw [S2.out]
        have p0 := X1b.out.cell 0
        have p1 := X1b.out.cell 1
        have p2 := X1b.out.cell 2
        have g0 := X1b.out.free 0
        have g1 := X1b.out.free 1
        have g2 := X1b.out.free 2
        go_wp2_with fail
        refine bodyPost_ret (v := .agg #[.int .i64 0, .int .i64 0, .slice none 0 0]) (by simp [results, Try.results63, go_sem, p0, p1, p2]) rfl (ansZero ?_)
        exact ((HB2.out.setCell (by simp; omega) _).setCell (by simp; omega) _).setCell (by simp; omega) _

theorem spec_GridPaste_own (gw gh : Int) {A : Option Addr} {n c : Nat} {cs : List CellD} (gw2 gh2 : Int) {A2 : Option Addr} {n2 c2 : Nat} {ds : List CellD} (x y : Int) {W : World} {B B2 : Nat} (h : OwnC W B A n c cs) (h2 : OwnC W B2 A2 n2 c2 ds) (hn : n ≤ 1048576) (hn2 : n2 ≤ 1048576) :
    Calls Try.prog 63 #[.agg #[.int .i64 gw, .int .i64 gh, .slice A n c], .agg #[.int .i64 gw2, .int .i64 gh2, .slice A2 n2 c2], .int .i64 x, .int .i64 y] W (AnsT W (pasteT gw gh cs gw2 gh2 ds x y)) := by
  cases hg : goodP gw gh cs gw2 gh2 ds x y
  · rw [pasteT_no hg]
    exact spec_GridPaste_no gw gh A n c cs gw2 gh2 A2 n2 c2 ds x y W h.rd h.len hn h2.rd h2.len hn2 hg
  · obtain ⟨h1, hz, s1, s2⟩ := goodP_t hg
    obtain ⟨Wn, Hn, rfl, rfl, w1, w2, w3, w4, w5, hl⟩ := sides h1
    obtain ⟨Wm, Hm, rfl, rfl, u1, u2, u3, u4, u5, hl2⟩ := sides hz
    have hlen := h.len
    have hlen2 := h2.len
    have hpos : 0 < Wn * Hn := Nat.mul_pos w1 w3
    have hpos2 : 0 < Wm * Hm := Nat.mul_pos u1 u3
    obtain ⟨g, rfl⟩ := h.addr (by omega)
    obtain ⟨g2, rfl⟩ := h2.addr (by omega)
    rw [pasteT_yes hg]
    exact spec_GridPaste_yes Wn Hn g 0 n c cs Wm Hm g2 0 n2 c2 ds x y W h.rd h.len hn h1 h2.rd h2.len hn2 hz s1 s2 w1 w2 w3 w4 (by omega) u1 u2 u3 u4 (by omega)
end Go.Proofs.Ytbifbeahakchjaa.Gr
