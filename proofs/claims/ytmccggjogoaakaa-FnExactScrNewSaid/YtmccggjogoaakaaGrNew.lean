/- GridNew in the program and in the model: both answer a grid of blanks, or the zero value; at every two sides. -/
import Derived.Test.YtmccggjogoaakaaGrNewB
import Derived.Deep.RegionLaw
import Derived.Deep.DrawnRows
import Derived.Laws.AppendOwn
import Derived.Deep.AppendLies
namespace Go.Proofs.Ytmccggjogoaakaa.Gr
open Go.RowKit Go.Proofs.Ytmccggjogoaakaa.Bytes Go.Proofs.Ytmccggjogoaakaa.Rows_ Go.Proofs.Ytmccggjogoaakaa.RowK
set_option linter.unusedVariables false
attribute [local go_sem ↓] Go.wp_at_zero Go.wp_at_succ
set_option maxRecDepth 100000 in
set_option maxHeartbeats 3200000 in
theorem impl_GridNew_any (gw gh : Int) (w : World) : Calls Try.prog 61 #[.int .i64 gw, .int .i64 gh] w (AnsN w.heap.size w gw gh) := by
  cases hs : sizeB gw gh
  · have HA := Lib.hid (show ∀ e w', AnsN w.heap.size w gw gh e w' = (e = .returned (.tuple #[.agg #[.int .i64 0, .int .i64 0, .slice none 0 0], .bool false]) ∧ Below w.heap.size w w') from fun e w' => by unfold AnsN; rw [hs]; rfl)
    have HS := Lib.hid hs
    have hb0 := Lib.hid ((Below.refl w.heap.size w).alloc (Nat.le_refl _) (.cells #[.int .i64 0, .int .i64 0, .slice none 0 0] 28))
    clear hs
    go_enter Try.func61, Try.ntmps61
    go_wp2_with fail
    refine (isGridSize_any _ _ _).mono ?_
    rintro e v1 ⟨rfl, rfl⟩
    rw [HS.out]
    go_wp2_with fail
    refine bodyPost_ret (v := .tuple #[.agg #[.int .i64 0, .int .i64 0, .slice none 0 0], .bool false]) (by simp [results, Try.results61, go_sem]) rfl ?_
    rw [HA.out]
    exact ⟨rfl, by repeat (first | refine Below.setCell ?_ (by simp <;> omega) _ | refine Below.alloc ?_ (by simp <;> omega) _); exact Below.refl _ _⟩
  · obtain ⟨W, H, rfl, rfl, w1, w2, w3, w4, w5, hN⟩ := sidesS hs
    obtain ⟨N, hN2⟩ : ∃ N, N = W * H := ⟨_, rfl⟩
    have HA := Lib.hid (show ∀ e w', AnsN w.heap.size w (W : Int) (H : Int) e w' = (∃ A c, e = .returned (.tuple #[.agg #[.int .i64 (W : Int), .int .i64 (H : Int), .slice A N c], .bool true]) ∧ OwnC w' w.heap.size A N c (List.replicate N blankC) ∧ Below w.heap.size w w') from fun e w' => by unfold AnsN; rw [hs, hN, hN2]; rfl)
    have HS := Lib.hid hs
    have hNn : N ≤ 4000 := by omega
    have e1 : IntKind.i64.wrap ((W : Int) * (H : Int)) = (N : Int) := by rw [← Int.natCast_mul, ← hN2]; exact IntWalk.i64_in _ (by omega)
    clear hs hN hN2 w5
    obtain ⟨i0, hi, hz0, hz1, hz2⟩ := info_parts cellInfo
    have hmx : N ≤ maxLen := by unfold maxLen; omega
    go_enter Try.func61, Try.ntmps61
    go_wp2_with fail
    refine (isGridSize_any _ _ _).mono ?_
    rintro e v1 ⟨rfl, rfl⟩
    rw [HS.out]
    go_wp2_with (at_make; refine wpList_make_full _ rfl _ _ 26 rfl (w.heap.size + 1) 61 i0 (.agg #[.int .i64 0, .int .i64 0, .int .i64 0, .bool false, .bool false, .bool false]) 6 Try.underlying26 hi hz0 hz1 _ _ _ _ N rfl rfl rfl rfl ?c1 hmx (by simp) ?_)
    case c1 => rw [hz2]; omega
    intro v1 hown hgrow
    have hown' : OwnC v1 (w.heap.size + 1) (some ⟨w.heap.size + 1, 0, none⟩) N N (List.replicate N nilC) := by
      rw [made_flat _ 6 N rfl (by omega)] at hown
      unfold OwnC
      rw [List.map_replicate]
      exact hown
    have hb1 : Below (w.heap.size + 1) (w.alloc (.cells #[.int .i64 0, .int .i64 0, .slice none 0 0] 28)) v1 := by
      have := (Below.refl (w.alloc (.cells #[.int .i64 0, .int .i64 0, .slice none 0 0] 28)).heap.size _).grown hgrow (Nat.le_refl _) (by simp)
      simpa only [World.size_alloc] using this
    have x4 := (BoxG.new w #[.int .i64 0, .int .i64 0, .slice none 0 0]).below hb1 (by omega)
    have z1 : w.heap.size + 1 < v1.heap.size := (hown'.blk _ rfl).2
    have HB1 := Lib.hid ((((Below.refl w.heap.size w).alloc (Nat.le_refl _) (.cells #[.int .i64 0, .int .i64 0, .slice none 0 0] 28)).trans (hb1.mono (by omega))).alloc (by omega) (.cells #[.int .i64 (W : Int), .int .i64 (H : Int), .slice (some ⟨w.heap.size + 1, 0, none⟩) N N] 28))
    have hal := (Below.refl v1.heap.size v1).alloc (Nat.le_refl _) (.cells #[.int .i64 (W : Int), .int .i64 (H : Int), .slice (some ⟨w.heap.size + 1, 0, none⟩) N N] 28)
    have X6 := Lib.hid (BoxG.new v1 #[.int .i64 (W : Int), .int .i64 (H : Int), .slice (some ⟨w.heap.size + 1, 0, none⟩) N N])
    have X4 := Lib.hid (x4.below hal (by omega))
    have HO1 := Lib.hid (hown'.below (Nat.le_refl _) hal)
    clear x4 hal hown' hown hgrow hb1
    go_wp2_with fail
    refine (erase_any _ 0 N N _ HO1.out (by omega) (by omega) (fun _ => rfl)).mono ?_
    rintro e v2 ⟨rfl, ho2, on2⟩
    have x6 := X6.out.only on2 (by omega)
    have x4 := X4.out.only on2 (by omega)
    have HO2 := Lib.hid (show OwnC v2 (w.heap.size + 1) (some ⟨w.heap.size + 1, 0, none⟩) N N (List.replicate N blankC) by
      have h := ho2
      rw [show over (List.replicate N nilC) 0 (List.replicate N blankC) = List.replicate N blankC by unfold over; simp] at h
      exact h)
    have HB2 := Lib.hid (Only.below_ on2 HB1.out (by simp; omega) (fun i hi => by omega))
    clear on2 ho2
    have p0 := x6.cell 0
    have p1 := x6.cell 1
    have p2 := x6.cell 2
    have q0 := x4.cell 0
    have q1 := x4.cell 1
    have q2 := x4.cell 2
    have f0 := x4.free 0
    have f1 := x4.free 1
    have f2 := x4.free 2
    clear x6 x4
    go_wp2_with fail
    refine bodyPost_ret (v := .tuple #[.agg #[.int .i64 (W : Int), .int .i64 (H : Int), .slice (some ⟨w.heap.size + 1, 0, none⟩) N N], .bool true]) (by simp [results, Try.results61, go_sem, q0, q1, q2]) rfl ?_
    rw [HA.out]
    refine ⟨_, _, rfl, ?_, ?_⟩
    · exact ((((HO2.out.setBox w.heap.size 0 _ (by omega)).setBox w.heap.size 1 _ (by omega)).setBox w.heap.size 2 _ (by omega))).more (by omega)
    · exact ((HB2.out.setCell (by simp) _).setCell (by simp) _).setCell (by simp) _

set_option maxRecDepth 100000 in
set_option maxHeartbeats 3200000 in
theorem spec_GridNew_no (gw gh : Int) (w : World) (hs : sizeB gw gh = false) : Calls Try.prog 59 #[.int .i64 gw, .int .i64 gh] w (AnsN w.heap.size w gw gh) := by
  have HA := Lib.hid (show ∀ e w', AnsN w.heap.size w gw gh e w' = (e = .returned (.tuple #[.agg #[.int .i64 0, .int .i64 0, .slice none 0 0], .bool false]) ∧ Below w.heap.size w w') from fun e w' => by unfold AnsN; rw [hs]; rfl)
  have HS := Lib.hid hs
  clear hs
  by_cases h1 : 1 ≤ gw
  · by_cases h2 : gw ≤ 120
    · by_cases h3 : 1 ≤ gh
      · by_cases h4 : gh ≤ 120
        · obtain ⟨m1, m2⟩ := mul_bd h1 h2 h3 h4
          have h5 : 4000 < gw * gh := by
            rcases Int.lt_or_le 4000 (gw * gh) with h | h
            · exact h
            · have := sizeB_t ⟨h1, h2, h3, h4, h⟩; rw [HS.out] at this; cases this
          go_enter Try.func59, Try.ntmps59
          go_wp2_with fail
          refine bodyPost_ret (v := .tuple #[.agg #[.int .i64 0, .int .i64 0, .slice none 0 0], .bool false]) (by simp [results, Try.results59, go_sem]) rfl ?_
          rw [HA.out]
          exact ⟨rfl, by repeat (first | refine Below.setCell ?_ (by simp <;> omega) _ | refine Below.alloc ?_ (by simp <;> omega) _); exact Below.refl _ _⟩
        · go_enter Try.func59, Try.ntmps59
          go_wp2_with fail
          refine bodyPost_ret (v := .tuple #[.agg #[.int .i64 0, .int .i64 0, .slice none 0 0], .bool false]) (by simp [results, Try.results59, go_sem]) rfl ?_
          rw [HA.out]
          exact ⟨rfl, by repeat (first | refine Below.setCell ?_ (by simp <;> omega) _ | refine Below.alloc ?_ (by simp <;> omega) _); exact Below.refl _ _⟩
      · go_enter Try.func59, Try.ntmps59
        go_wp2_with fail
        refine bodyPost_ret (v := .tuple #[.agg #[.int .i64 0, .int .i64 0, .slice none 0 0], .bool false]) (by simp [results, Try.results59, go_sem]) rfl ?_
        rw [HA.out]
        exact ⟨rfl, by repeat (first | refine Below.setCell ?_ (by simp <;> omega) _ | refine Below.alloc ?_ (by simp <;> omega) _); exact Below.refl _ _⟩
    · go_enter Try.func59, Try.ntmps59
      go_wp2_with fail
      refine bodyPost_ret (v := .tuple #[.agg #[.int .i64 0, .int .i64 0, .slice none 0 0], .bool false]) (by simp [results, Try.results59, go_sem]) rfl ?_
      rw [HA.out]
      exact ⟨rfl, by repeat (first | refine Below.setCell ?_ (by simp <;> omega) _ | refine Below.alloc ?_ (by simp <;> omega) _); exact Below.refl _ _⟩
  · go_enter Try.func59, Try.ntmps59
    go_wp2_with fail
    refine bodyPost_ret (v := .tuple #[.agg #[.int .i64 0, .int .i64 0, .slice none 0 0], .bool false]) (by simp [results, Try.results59, go_sem]) rfl ?_
    rw [HA.out]
    exact ⟨rfl, by repeat (first | refine Below.setCell ?_ (by simp <;> omega) _ | refine Below.alloc ?_ (by simp <;> omega) _); exact Below.refl _ _⟩

set_option maxRecDepth 100000 in
set_option maxHeartbeats 6400000 in
theorem spec_GridNew_any (gw gh : Int) (w : World) : Calls Try.prog 59 #[.int .i64 gw, .int .i64 gh] w (AnsN w.heap.size w gw gh) := by
  cases hs : sizeB gw gh
  · exact spec_GridNew_no gw gh w hs
  · obtain ⟨W, H, rfl, rfl, w1, w2, w3, w4, w5, hN⟩ := sidesS hs
    obtain ⟨N, hN2⟩ : ∃ N, N = W * H := ⟨_, rfl⟩
    have HA := Lib.hid (show ∀ e w', AnsN w.heap.size w (W : Int) (H : Int) e w' = (∃ A c, e = .returned (.tuple #[.agg #[.int .i64 (W : Int), .int .i64 (H : Int), .slice A N c], .bool true]) ∧ OwnC w' w.heap.size A N c (List.replicate N blankC) ∧ Below w.heap.size w w') from fun e w' => by unfold AnsN; rw [hs, hN, hN2]; rfl)
    have hNn : N ≤ 4000 := by omega
    have e1 : IntKind.i64.wrap ((W : Int) * (H : Int)) = (N : Int) := by rw [← Int.natCast_mul, ← hN2]; exact IntWalk.i64_in _ (by omega)
    have m1 : ¬ ((N : Int) > 4000) := by omega
    have m2 : decide ((N : Int) > 4000) = false := by simp; omega
    have X6 := Lib.hid (BoxG.new (w.alloc (.cells #[.int .i64 0, .int .i64 0, .slice none 0 0] 28)) #[.int .i64 (W : Int), .int .i64 (H : Int), .slice none 0 0])
    have X4 := Lib.hid ((BoxG.new w #[.int .i64 0, .int .i64 0, .slice none 0 0]).below ((Below.refl _ _).alloc (Nat.le_refl _) (.cells #[.int .i64 (W : Int), .int .i64 (H : Int), .slice none 0 0] 28)) (by simp))
    have hb0 := Lib.hid (((Below.refl w.heap.size w).alloc (Nat.le_refl _) (.cells #[.int .i64 0, .int .i64 0, .slice none 0 0] 28)).alloc (by simp) (.cells #[.int .i64 (W : Int), .int .i64 (H : Int), .slice none 0 0] 28))
    clear hs hN hN2 w5
    go_enter Try.func59, Try.ntmps59
    go_wp2_with fail
    go_loopw [7] (fun i wr => ∃ (k : Nat) (A : Option Addr) (c : Nat), k ≤ N ∧ i = .int .i64 k ∧ BoxG wr (w.heap.size + 1) #[.int .i64 (W : Int), .int .i64 (H : Int), .slice A k c] ∧ BoxG wr w.heap.size #[.int .i64 0, .int .i64 0, .slice none 0 0] ∧ OwnC wr (w.heap.size + 2) A k c (List.replicate k blankC) ∧ Below w.heap.size w wr) (fun i _ => N - (intOf i).toNat)
    case atStart => exact ⟨0, none, 0, Nat.zero_le _, rfl, by simpa using X6.out, X4.out, ownC_nil _ _, hb0.out⟩
    case round =>
      clear X6 X4 hb0
      obtain ⟨k, A, c, hk, rfl, hx6, hx4, ho, hb⟩ := hrel
      have l6 := hx6.lt
      have l4 := hx4.lt
      by_cases hlt : k < N
      · have HX6 := Lib.hid hx6
        have HX4 := Lib.hid hx4
        have HO := Lib.hid ho
        have HB := Lib.hid hb
        have q2 : wr.cell? ⟨w.heap.size + 1, 2, none⟩ = some (.slice A k c) := hx6.cell 2
        have L1 := Lib.hid (show w.heap.size + 1 < w.heap.size + 2 by omega)
        have L2 := Lib.hid (show w.heap.size < w.heap.size + 2 by omega)
        have L3 := Lib.hid (show w.heap.size ≤ w.heap.size + 2 by omega)
        clear hx6 hx4 ho hb
        go_wp2_with fail
        go_region_law (first
          | (go_simp; go_at_call 34; (with_reducible refine (blank_any _).mono ?_); rintro e y1 ⟨rfl, hy'⟩; have hy : Below wr.heap.size wr y1 := undrew hy'; have HOy := Lib.hid (HO.out.below (Nat.le_refl _) hy); have hx := HX6.out.below hy l6; have q2' : y1.cell? ⟨w.heap.size + 1, 2, none⟩ = some (.slice A k c) := hx.cell 2; have HX6y := Lib.hid hx; have HX4y := Lib.hid (HX4.out.below hy l4); have HBy := Lib.hid (HB.out.trans (hy.mono (by omega))); have hyl : w.heap.size + 1 < y1.heap.size := Nat.lt_of_lt_of_le l6 hy.size; have HZy := Lib.hid (show w.heap.size + 2 ≤ y1.heap.size from hyl); clear hx hy hy')
          | (refine step_cell (z := blankC) rfl _ _ rfl rfl _ rfl rfl HOy.out (by omega) HZy.out ?_; intro A' c' w1 ho1 hb1 hg1; have hxx := new_next HX6y.out HX4y.out HOy.out L1.out L2.out hg1; have r2 : w1.cell? ⟨w.heap.size + 1, 2, none⟩ = some (.slice A k c) := hxx.1.cell 2; have f2 := hxx.1.free 2; have HXX := Lib.hid hxx; have HOz := Lib.hid ho1; have HBz := Lib.hid (HBy.out.trans (hb1.mono L3.out)); clear hxx ho1 hb1 hg1))
        all_goals
          go_wp2_with fail
          refine ⟨⟨k + 1, A', c', by omega, by go_num, ?_, ?_, ?_, ?_⟩, by simp [intOf]; omega⟩
          · exact HXX.out.1.set2 _
          · exact HXX.out.2.other (by omega)
          · rw [List.replicate_succ']; exact HOz.out.setBox _ _ _ (by omega)
          · exact HBz.out.setCell (by simp) _
      · obtain rfl : N = k := by omega
        have HO := Lib.hid ho
        have HB := Lib.hid hb
        have p0 := hx6.cell 0
        have p1 := hx6.cell 1
        have p2 := hx6.cell 2
        have q0 := hx4.cell 0
        have q1 := hx4.cell 1
        have q2 := hx4.cell 2
        have f0 := hx4.free 0
        have f1 := hx4.free 1
        have f2 := hx4.free 2
        clear hx6 hx4 ho hb
        go_wp2_with fail
        refine bodyPost_ret (v := .tuple #[.agg #[.int .i64 (W : Int), .int .i64 (H : Int), .slice A N c], .bool true]) (by simp [results, Try.results59, go_sem, q0, q1, q2]) rfl ?_
        rw [HA.out]
        refine ⟨_, _, rfl, ?_, ?_⟩
        · exact ((((HO.out.setBox w.heap.size 0 _ (by omega)).setBox w.heap.size 1 _ (by omega)).setBox w.heap.size 2 _ (by omega))).more (by omega)
        · exact ((HB.out.setCell (by simp) _).setCell (by simp) _).setCell (by simp) _
end Go.Proofs.Ytmccggjogoaakaa.Gr

