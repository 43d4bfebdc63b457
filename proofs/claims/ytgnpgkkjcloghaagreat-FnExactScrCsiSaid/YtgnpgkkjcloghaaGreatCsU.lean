/- What the model makes of cells cleared. -/
import Derived.Test.YtgnpgkkjcloghaaGreatCsQ
import Derived.Test.YtgnpgkkjcloghaaGreatKiX
set_option maxRecDepth 100000
set_option maxHeartbeats 6400000
set_option linter.unusedVariables false
namespace Go.Proofs.YtgnpgkkjcloghaaGreat.Sc
open Lib
open Go.RowKit Bytes Rows_ RowK Gr DOk Opq Attr
attribute [local go_sem ↓] Sc.exec_storeS Sc.exec_loadS
attribute [local go_sem] rowOf_drew blkOf_ptr isHead_ptr aggN_agg setRow_alloc rowZ_at rowZ_past scrA_size one_scr rowOf_alloc_at rowOf_alloc_past
attribute [local go_sem] sa_w sa_h sa_mw sa_mh sa_M sa_aw sa_ah sa_A sa_onAlt sa_x sa_y sa_wrap sa_fg sa_bg sa_b sa_u sa_t sa_top sa_bot sa_noWrap sa_hide sa_sx sa_sy sa_sfg sa_sbg sa_sb sa_su sa_st sa_tabs sa_lim sa_rows
attribute [local go_sem] scr_at0 scr_at1 scr_at2 scr_at3 scr_at4 scr_at5 scr_at6 scr_at7 scr_at8 scr_at9 scr_at10 scr_at11 scr_at12 scr_at13 scr_at14 scr_at15 scr_at16 scr_at17 scr_at18 scr_at19 scr_at20 scr_at21 scr_at22 scr_at23 scr_at24 scr_at25 scr_at26 scr_at27 scr_at28 scr_at29 scr_at30
def stepL (cs : List CellD) (lo hi k : Nat) : List CellD := over cs lo ((List.replicate (hi - lo) blankC).take (k - lo))
theorem stepL_zero (cs : List CellD) (lo hi : Nat) : stepL cs lo hi 0 = cs := by unfold stepL; rw [Nat.zero_sub, List.take_zero, over_nil]
theorem stepL_len {cs : List CellD} {lo hi k : Nat} (h1 : lo ≤ hi) (h2 : hi ≤ cs.length) : (stepL cs lo hi k).length = cs.length := by
  unfold stepL; exact over_len (by rw [List.length_take, List.length_replicate]; omega)
theorem stepL_in {cs : List CellD} {lo hi k : Nat} (h2 : hi ≤ cs.length) (h3 : lo ≤ k) (h4 : k < hi) : (stepL cs lo hi k).set k blankC = stepL cs lo hi (k + 1) := by
  have h := over_next (cs := cs) (l := List.replicate (hi - lo) blankC) (lo := lo) (i := k - lo) (z := blankC) (by rw [List.length_replicate]; omega) (by rw [List.getElem?_replicate, if_pos (by omega)])
  rw [show lo + (k - lo) = k by omega, show k - lo + 1 = k + 1 - lo by omega] at h
  exact h
theorem stepL_lo {cs : List CellD} {lo hi k : Nat} (h : k < lo) : stepL cs lo hi k = stepL cs lo hi (k + 1) := by
  unfold stepL; rw [show k - lo = 0 by omega, show k + 1 - lo = 0 by omega]
theorem stepL_hi {cs : List CellD} {lo hi k : Nat} (h : hi ≤ k) : stepL cs lo hi k = stepL cs lo hi (k + 1) := by
  unfold stepL; rw [List.take_of_length_le (by rw [List.length_replicate]; omega), List.take_of_length_le (by rw [List.length_replicate]; omega)]
theorem stepL_end {cs : List CellD} {lo hi k : Nat} (h : hi ≤ k) : stepL cs lo hi k = over cs lo (List.replicate (hi - lo) blankC) := by
  unfold stepL; rw [List.take_of_length_le (by rw [List.length_replicate]; omega)]
theorem l10Blank_any (s : ScrS) (B lo hi : Nat) (w : World) (hB : B ≤ w.heap.size) (ho : OwnS w B s) (hok : okD s.data = true) (h1 : lo ≤ hi) (h2 : hi ≤ (shC s).cs.length) :
    Calls Tryz.prog 68 #[.agg (scrA s), .int .i64 (lo : Int), .int .i64 (hi : Int)] w (AnsP B (blD s.data lo (hi - lo)) w) := by
  have hone0 : One #[.int .i64 0, .int .i64 0, .int .i64 0, .int .i64 0, .slice none 0 0, .int .i64 0, .int .i64 0, .slice none 0 0, .bool false, .int .i64 0, .int .i64 0, .bool false, .int .i64 0, .int .i64 0, .bool false, .bool false, .bool false, .int .i64 0, .int .i64 0, .bool false, .bool false, .int .i64 0, .int .i64 0, .int .i64 0, .int .i64 0, .bool false, .bool false, .bool false, .slice none 0 0, .int .i64 0, .slice none 0 0] := one_scr zeroS
  obtain ⟨W, H, X, Y, T, Bt, L, fit⟩ := ok_fit hok
  have hlen : (shC s).cs.length = W * H := by rw [sh_data]; exact sh_len fit
  have q7 := fit.wh
  have hpos : 0 < W * H := Nat.mul_pos (by have := fit.w1; omega) (by have := fit.h1; omega)
  obtain ⟨W1, hW⟩ : ∃ W, W = (w.alloc (.cells (scrA s) 38)).alloc (.cells #[.int .i64 0, .int .i64 0, .int .i64 0, .int .i64 0, .slice none 0 0, .int .i64 0, .int .i64 0, .slice none 0 0, .bool false, .int .i64 0, .int .i64 0, .bool false, .int .i64 0, .int .i64 0, .bool false, .bool false, .bool false, .int .i64 0, .int .i64 0, .bool false, .bool false, .int .i64 0, .int .i64 0, .int .i64 0, .int .i64 0, .bool false, .bool false, .bool false, .slice none 0 0, .int .i64 0, .slice none 0 0] 38) := ⟨_, rfl⟩
  have RB1 := hid (show RowS W1 w.heap.size s from by rw [hW]; exact (RowS.new w s).alloc _)
  have RZ1 := hid (show RowS W1 (w.heap.size + 1) zeroS from by
    rw [hW]
    have h := RowS.new (w.alloc (.cells (scrA s) 38)) zeroS
    rw [World.size_alloc] at h; exact h)
  have hal0 : Below w.heap.size w W1 := by rw [hW]; exact ((Below.refl w.heap.size w).alloc (Nat.le_refl _) _).alloc (by simp) _
  have H1 := hid hal0
  have O1 := hid (ho.below (Nat.le_refl _) hal0)
  have hs1 : w.heap.size + 1 < W1.heap.size := RZ1.out.lt
  have row1 : rowOf W1 w.heap.size = scrA s := RB1.out.of
  have rz1 : RowZ W1 (w.heap.size + 1) 31 := RowZ.of RZ1.out.row 31 rfl
  clear hal0
  obtain ⟨cs, hcs⟩ : ∃ cs, cs = (shC s).cs := ⟨_, rfl⟩
  obtain ⟨N, hN⟩ : ∃ N, N = cs.length := ⟨_, rfl⟩
  have hN0 : 0 < N := by rw [hN, hcs, hlen]; exact hpos
  have hNb : N ≤ 4000 := by rw [hN, hcs, hlen]; exact q7
  have h2' : hi ≤ N := by rw [hN, hcs]; exact h2
  have h2c : hi ≤ cs.length := by rw [hcs]; exact h2
  have HCP := hid (fun V (hb : Below w.heap.size w V) => show Calls Tryz.prog 38 #[.agg #[.int .i64 (shW s), .int .i64 (shH s), .slice (shC s).A (shC s).cs.length (shC s).c]] V (AnsG3 V (shW s) (shH s) N cs) from by
    have h := own_sh (ho.below (Nat.le_refl _) hb)
    have h3 := l07Copy_any (shW s) (shH s) (shC s).A (shC s).cs.length (shC s).c (shC s).cs V (fun e => by
      obtain ⟨q, hq⟩ := own_addr h (by rw [hlen]; exact hpos)
      rw [hq] at e; cases e) h.rd rfl (by rw [hlen]; omega)
    rw [hN, hcs]; exact h3)
  have HD := hid (show putD s.data (stepL cs lo hi N) = blD s.data lo (hi - lo) from by rw [stepL_end h2', hcs, sh_data]; rfl)
  have HIN := hid (fun k (h3 : lo ≤ k) (h4 : k < hi) => stepL_in (cs := cs) (lo := lo) (hi := hi) h2c h3 h4)
  have HLN := hid (fun k => show (stepL cs lo hi k).length = N from by rw [stepL_len h1 h2c, hN])
  clear ho hok fit hlen hpos q7 hcs hN h2 h2c
  go_enter Tryz.func68, Tryz.ntmps68
  go_upto_region 1 with fail
  rw [← hW]
  clear hW
  go_wp2_with fail
  refine (l09Shown_any s _).mono ?_
  rintro e v1 ⟨rfl, hb1⟩
  have HB1 := hid hb1
  have hz1 : W1.heap.size ≤ v1.heap.size := hb1.size
  have HW1 := hid (H1.out.trans (hb1.mono (by omega)))
  have HC1 := hid (HCP.out v1 HW1.out)
  have RBv := hid (RB1.out.below hb1 RB1.out.lt)
  have RZv := hid (RZ1.out.below hb1 RZ1.out.lt)
  have Ov := hid (O1.out.below (Nat.le_refl _) hb1)
  clear hb1 row1 rz1 HCP
  go_wp2_with fail
  refine HC1.out.mono ?_
  rintro e v2 ⟨A3, c3, rfl, ho3, hb3⟩
  obtain ⟨g, rfl⟩ := ho3.addr (by omega)
  have hcap := ho3.cap
  have hg := ho3.blk g rfl
  have hz2 : v1.heap.size ≤ v2.heap.size := hb3.size
  have hal := (Below.refl v2.heap.size v2).alloc (Nat.le_refl _) (.cells #[.int .i64 (shW s), .int .i64 (shH s), .slice (some ⟨g, 0, none⟩) N c3] 34)
  have X9 := hid (BoxG.new v2 #[.int .i64 (shW s), .int .i64 (shH s), .slice (some ⟨g, 0, none⟩) N c3])
  have HO3 := hid (ho3.below (Nat.le_refl _) hal)
  have HB3 := hid (hb3.trans (hal.mono hz2))
  have hgw : v1.heap.size ≤ g := hg.1
  have hgn9 : g ≠ v2.heap.size := by have := hg.2; omega
  clear hal hb3 ho3 hg HC1
  go_wp2_with fail
  go_loopw [15] (fun i wr => ∃ k : Nat, k ≤ N ∧ i = .int .i64 (k : Int) ∧ BoxG wr v2.heap.size #[.int .i64 (shW s), .int .i64 (shH s), .slice (some ⟨g, 0, none⟩) N c3] ∧ OwnC wr v1.heap.size (some ⟨g, 0, none⟩) N c3 (stepL cs lo hi k) ∧ Below v1.heap.size v1 wr) (fun i _ => N - (intOf i).toNat)
  case atStart => exact ⟨0, Nat.zero_le _, rfl, X9.out, by rw [stepL_zero]; exact HO3.out, HB3.out⟩
  case round =>
    clear X9 HO3 HB3
    obtain ⟨k, hk, rfl, x9, ho, hb⟩ := hrel
    have l9 := x9.lt
    by_cases hlt : k < N
    · have X9 := hid x9
      have HOw := hid ho
      have HBw := hid hb
      by_cases a1 : (lo : Int) ≤ (k : Int)
      · by_cases a2 : (k : Int) < (hi : Int)
        · have HN := hid (HIN.out k (by omega) (by omega))
          have q9 : wr.cell? ⟨v2.heap.size, 2, none⟩ = some (.slice (some ⟨g, 0, none⟩) N c3) := x9.cell 2
          have hk0 : (0 : Int) ≤ (k : Int) := by omega
          have hk1 : (k : Int) < (N : Int) := by omega
          have T0 := hid (show k * 6 < N * 6 by omega)
          have T1 := hid (show k * 6 + 1 < N * 6 by omega)
          have T2 := hid (show k * 6 + 2 < N * 6 by omega)
          have T3 := hid (show k * 6 + 3 < N * 6 by omega)
          have T4 := hid (show k * 6 + 4 < N * 6 by omega)
          have T5 := hid (show k * 6 + 5 < N * 6 by omega)
          have HLk := hid (HLN.out k)
          clear x9 ho hb
          go_upto_region 6 with fail
          go_region_held3 (fun w' => w'.cell? ⟨v2.heap.size, 2, none⟩ = some (.slice (some ⟨g, 0, none⟩) N c3)) (go_keep)
            ((go_at_call 45; (with_reducible refine (blank_any _).mono ?_); rintro e v ⟨rfl, hv'⟩; have hv : Below wr.heap.size wr v := undrew hv'; have q9' := (hv.cell (p := ⟨v2.heap.size, 2, none⟩) l9).trans q9; have HOv := hid (HOw.out.below (Nat.le_refl _) hv); obtain ⟨u0, hu0⟩ := own_there HOv.out (k * 6) T0.out; have f0 := World.ownsRow.frozenAt (h := HOv.out) (k * 6); obtain ⟨u1, hu1⟩ := own_there HOv.out (k * 6 + 1) T1.out; have f1 := World.ownsRow.frozenAt (h := HOv.out) (k * 6 + 1); obtain ⟨u2, hu2⟩ := own_there HOv.out (k * 6 + 2) T2.out; have f2 := World.ownsRow.frozenAt (h := HOv.out) (k * 6 + 2); obtain ⟨u3, hu3⟩ := own_there HOv.out (k * 6 + 3) T3.out; have f3 := World.ownsRow.frozenAt (h := HOv.out) (k * 6 + 3); obtain ⟨u4, hu4⟩ := own_there HOv.out (k * 6 + 4) T4.out; have f4 := World.ownsRow.frozenAt (h := HOv.out) (k * 6 + 4); obtain ⟨u5, hu5⟩ := own_there HOv.out (k * 6 + 5) T5.out; have f5 := World.ownsRow.frozenAt (h := HOv.out) (k * 6 + 5); have HV := hid hv; clear hv hv'))
          all_goals
            obtain ⟨V, hV⟩ : ∃ V, V = (((((v.setCell ⟨g, k * 6, none⟩ (.int .i64 32)).setCell ⟨g, k * 6 + 1, none⟩ (.int .i64 0)).setCell ⟨g, k * 6 + 2, none⟩ (.int .i64 0)).setCell ⟨g, k * 6 + 3, none⟩ (.bool false)).setCell ⟨g, k * 6 + 4, none⟩ (.bool false)).setCell ⟨g, k * 6 + 5, none⟩ (.bool false) := ⟨_, rfl⟩
            have X9V := hid (show BoxG V v2.heap.size #[.int .i64 (shW s), .int .i64 (shH s), .slice (some ⟨g, 0, none⟩) N c3] by rw [hV]; exact (X9.out.below HV.out l9).only6 (Ne.symm hgn9) _ _ _ _ _ _ _ _ _ _ _ _)
            have HOV := hid (show OwnC V v1.heap.size (some ⟨g, 0, none⟩) N c3 (stepL cs lo hi (k + 1)) by rw [hV, ← HN.out]; exact own_setC HOv.out k (by rw [HLk.out]; exact hlt) blankC)
            have HBV := hid (show Below v1.heap.size v1 V by rw [hV]; exact below6 (HBw.out.trans (HV.out.mono HBw.out.size)) hgw _ _ _ _ _ _ _ _ _ _ _ _)
            have HVV := hid hV.symm
            rw [HVV.out]
            clear hV q9 q9' hu0 hu1 hu2 hu3 hu4 hu5 f0 f1 f2 f3 f4 f5
            go_wp2_with fail
            exact ⟨⟨k + 1, by omega, by go_num, X9V.out, HOV.out, HBV.out⟩, by simp [intOf]; omega⟩
        · have HN := hid (show stepL cs lo hi k = stepL cs lo hi (k + 1) from stepL_hi (by omega))
          clear x9 ho hb
          go_wp2_with fail
          exact ⟨⟨k + 1, by omega, by go_num, X9.out, by rw [← HN.out]; exact HOw.out, HBw.out⟩, by simp [intOf]; omega⟩
      · have HN := hid (show stepL cs lo hi k = stepL cs lo hi (k + 1) from stepL_lo (by omega))
        clear x9 ho hb
        go_wp2_with fail
        exact ⟨⟨k + 1, by omega, by go_num, X9.out, by rw [← HN.out]; exact HOw.out, HBw.out⟩, by simp [intOf]; omega⟩
    · obtain rfl : N = k := by omega
      have RBr := hid (RBv.out.below hb RBv.out.lt)
      have RZr := hid (RZv.out.below hb RZv.out.lt)
      have Hr := hid (HW1.out.trans (hb.mono HW1.out.size))
      obtain ⟨R, hR⟩ : ∃ R, R = stepL cs lo hi N := ⟨_, rfl⟩
      have hRl : R.length = N := by rw [hR]; exact HLN.out N
      have OP := hid (own_put (gw := shW s) (gh := shH s) (A := some ⟨g, 0, none⟩) (c := c3) (cs := R) Ov.out hb (by rw [hRl, hR]; exact ho) (by omega))
      have p0 : wr.cell? ⟨v2.heap.size, 0, none⟩ = some (.int .i64 (shW s)) := x9.cell 0
      have p1 : wr.cell? ⟨v2.heap.size, 1, none⟩ = some (.int .i64 (shH s)) := x9.cell 1
      have p2 : wr.cell? ⟨v2.heap.size, 2, none⟩ = some (.slice (some ⟨g, 0, none⟩) N c3) := x9.cell 2
      have rowr : rowOf wr w.heap.size = scrA s := RBr.out.of
      have lr : w.heap.size < wr.heap.size := RBr.out.lt
      have HPT := hid (show Calls Tryz.prog 42 #[.agg (scrA s), .agg #[.int .i64 (shW s), .int .i64 (shH s), .slice (some ⟨g, 0, none⟩) N c3]] wr fun e w' => e = .returned (.agg (scrA (putS s (shW s) (shH s) ⟨some ⟨g, 0, none⟩, c3, R⟩))) ∧ Below wr.heap.size wr w' from by
        rw [← hRl]; exact l09Put_any s (shW s) (shH s) (some ⟨g, 0, none⟩) c3 R wr)
      obtain ⟨t, ht⟩ : ∃ t, t = putS s (shW s) (shH s) ⟨some ⟨g, 0, none⟩, c3, R⟩ := ⟨_, rfl⟩
      have DT := hid (show t.data = blD s.data lo (hi - lo) from by rw [ht, ← HD.out, ← hR]; exact put_data)
      rw [← ht] at OP HPT
      clear x9 ho hb ht hR hRl
      go_wp2_with fail
      refine HPT.out.mono ?_
      rintro e y ⟨rfl, hy⟩
      have RZy := hid (RZr.out.below hy RZr.out.lt)
      have Oy := hid (OP.out.below (Nat.le_refl _) hy)
      have Hy := hid (Hr.out.trans (hy.mono Hr.out.size))
      have rzy : RowZ y (w.heap.size + 1) 31 := RowZ.of RZy.out.row 31 rfl
      clear hy HPT p0 p1 p2 rowr
      go_wp2_with fail
      refine bodyPost_ret (v := .agg (scrA t)) (res55 Tryz.results68 _ _ (w.heap.size + 1) _ (by simp) ((RZy.out).row.setRow) rfl) rfl ⟨t, rfl, ?_, ?_, ?_⟩
      · exact OwnS.keepRow (Oy.out) (w.heap.size + 1) _ (.inr (RowS.apart (RZy.out) (Oy.out)))
      · exact DT.out
      · exact below_setRow (Hy.out) (by omega) _
theorem l10Erase_any (s : ScrS) (B lo hi : Nat) (k : Int) (w : World) (hB : B ≤ w.heap.size) (ho : OwnS w B s) (hok : okD s.data = true) (h1 : lo ≤ hi) (h2 : hi ≤ (shC s).cs.length) (h3 : lo ≤ atD s.data) (h4 : atD s.data < hi) :
    Calls Tryz.prog 41 #[.agg (scrA s), .int .i64 (lo : Int), .int .i64 (hi : Int), .int .i64 k] w (AnsP B (eraseD s.data lo hi k) w) := by
  have hone0 : One #[.int .i64 0, .int .i64 0, .int .i64 0, .int .i64 0, .slice none 0 0, .int .i64 0, .int .i64 0, .slice none 0 0, .bool false, .int .i64 0, .int .i64 0, .bool false, .int .i64 0, .int .i64 0, .bool false, .bool false, .bool false, .int .i64 0, .int .i64 0, .bool false, .bool false, .int .i64 0, .int .i64 0, .int .i64 0, .int .i64 0, .bool false, .bool false, .bool false, .slice none 0 0, .int .i64 0, .slice none 0 0] := one_scr zeroS
  obtain ⟨W, H, X, Y, T, Bt, L, fit⟩ := ok_fit hok
  obtain ⟨f1, f2, f3⟩ := at_fit fit
  have q7 := fit.wh
  have ew : s.w = (W : Int) := fit.w
  have ex : s.x = (X : Int) := fit.x
  have ey : s.y = (Y : Int) := fit.y
  rw [f1] at h3 h4
  obtain ⟨W1, hW⟩ : ∃ W, W = (w.alloc (.cells (scrA s) 38)).alloc (.cells #[.int .i64 0, .int .i64 0, .int .i64 0, .int .i64 0, .slice none 0 0, .int .i64 0, .int .i64 0, .slice none 0 0, .bool false, .int .i64 0, .int .i64 0, .bool false, .int .i64 0, .int .i64 0, .bool false, .bool false, .bool false, .int .i64 0, .int .i64 0, .bool false, .bool false, .int .i64 0, .int .i64 0, .int .i64 0, .int .i64 0, .bool false, .bool false, .bool false, .slice none 0 0, .int .i64 0, .slice none 0 0] 38) := ⟨_, rfl⟩
  have RB1 := hid (show RowS W1 w.heap.size s from by rw [hW]; exact (RowS.new w s).alloc _)
  have RZ1 := hid (show RowS W1 (w.heap.size + 1) zeroS from by
    rw [hW]
    have h := RowS.new (w.alloc (.cells (scrA s) 38)) zeroS
    rw [World.size_alloc] at h; exact h)
  have hal0 : Below w.heap.size w W1 := by rw [hW]; exact ((Below.refl w.heap.size w).alloc (Nat.le_refl _) _).alloc (by simp) _
  have H1 := hid hal0
  have O1 := hid (ho.below (Nat.le_refl _) hal0)
  have hs1 : w.heap.size + 1 < W1.heap.size := RZ1.out.lt
  have row1 : rowOf W1 w.heap.size = scrA s := RB1.out.of
  have rz1 : RowZ W1 (w.heap.size + 1) 31 := RowZ.of RZ1.out.row 31 rfl
  clear hal0
  have hB1 : B ≤ W1.heap.size := by omega
  have a0 : W1.cell? ⟨w.heap.size, 0, none⟩ = some (.int .i64 (W : Int)) := by rw [← ew]; exact RB1.out.cell 0
  have a9 : W1.cell? ⟨w.heap.size, 9, none⟩ = some (.int .i64 (X : Int)) := by rw [← ex]; exact RB1.out.cell 9
  have a10 : W1.cell? ⟨w.heap.size, 10, none⟩ = some (.int .i64 (Y : Int)) := by rw [← ey]; exact RB1.out.cell 10
  have e1 : IntKind.i64.wrap ((Y : Int) * (W : Int)) = (Y : Int) * (W : Int) := by rw [← Int.natCast_mul]; exact IntWalk.i64_in _ (by omega)
  have e2 : IntKind.i64.wrap ((Y : Int) * (W : Int) + (X : Int)) = (Y : Int) * (W : Int) + (X : Int) := by rw [← Int.natCast_mul, ← Int.natCast_add]; exact IntWalk.i64_in _ (by omega)
  have e3 : IntKind.i64.wrap ((Y : Int) * (W : Int) + (X : Int) + 1) = (Y : Int) * (W : Int) + (X : Int) + 1 := by rw [← Int.natCast_mul, ← Int.natCast_add]; exact IntWalk.i64_in _ (by omega)
  have HC0 := hid (show Calls Tryz.prog 68 #[.agg (scrA s), .int .i64 ((Y : Int) * (W : Int) + (X : Int)), .int .i64 (hi : Int)] W1 (AnsP B (blD s.data (Y * W + X) (hi - (Y * W + X))) W1) from by
    rw [show ((Y : Int) * (W : Int) + (X : Int)) = ((Y * W + X : Nat) : Int) from by rw [Int.natCast_add, Int.natCast_mul]]
    exact l10Blank_any s B (Y * W + X) hi W1 hB1 O1.out hok (by omega) h2)
  have HC1 := hid (show Calls Tryz.prog 68 #[.agg (scrA s), .int .i64 (lo : Int), .int .i64 (((Y : Int) * (W : Int) + (X : Int)) + 1)] W1 (AnsP B (blD s.data lo (Y * W + X + 1 - lo)) W1) from by
    rw [show ((Y : Int) * (W : Int) + (X : Int)) + 1 = ((Y * W + X + 1 : Nat) : Int) from by rw [Int.natCast_add, Int.natCast_add, Int.natCast_mul]; rfl]
    exact l10Blank_any s B lo (Y * W + X + 1) W1 hB1 O1.out hok (by omega) (by omega))
  have HC2 := hid (l10Blank_any s B lo hi W1 hB1 O1.out hok h1 h2)
  by_cases z0 : k = 0
  · subst z0
    have HD := hid (show blD s.data (Y * W + X) (hi - (Y * W + X)) = eraseD s.data lo hi 0 from by unfold eraseD; rw [if_pos rfl, f1])
    clear ho hok fit f1 f2 f3 ew ex ey h2
    go_enter Tryz.func41, Tryz.ntmps41
    go_upto_region 1 with fail
    rw [← hW]
    clear hW
    go_wp2_with fail
    clear row1 rz1
    refine HC0.out.mono ?_
    rintro e v ⟨t, rfl, ht, hd, hb⟩
    have RZ3 := hid (RZ1.out.below hb RZ1.out.lt)
    have H3 := hid (H1.out.trans (hb.mono (by omega)))
    have O3 := hid ht
    have D3 := hid hd
    have rz3 : RowZ v (w.heap.size + 1) 31 := RowZ.of RZ3.out.row 31 rfl
    clear ht hd hb a0 a9 a10
    go_wp2_with fail
    refine bodyPost_ret (v := .agg (scrA t)) (res55 Tryz.results41 _ _ (w.heap.size + 1) _ (by simp) ((RZ3.out).row.setRow) rfl) rfl ⟨t, rfl, ?_, ?_, ?_⟩
    · exact OwnS.keepRow (O3.out) (w.heap.size + 1) _ (.inr (RowS.apart (RZ3.out) (O3.out)))
    · rw [D3.out]; exact HD.out
    · exact below_setRow (H3.out) (by omega) _
  by_cases z1 : k = 1
  · subst z1
    have HD := hid (show blD s.data lo (Y * W + X + 1 - lo) = eraseD s.data lo hi 1 from by unfold eraseD; rw [if_neg (by decide), if_pos rfl, f1])
    clear ho hok fit f1 f2 f3 ew ex ey h2
    go_enter Tryz.func41, Tryz.ntmps41
    go_upto_region 1 with fail
    rw [← hW]
    clear hW
    go_wp2_with fail
    clear row1 rz1
    refine HC1.out.mono ?_
    rintro e v ⟨t, rfl, ht, hd, hb⟩
    have RZ3 := hid (RZ1.out.below hb RZ1.out.lt)
    have H3 := hid (H1.out.trans (hb.mono (by omega)))
    have O3 := hid ht
    have D3 := hid hd
    have rz3 : RowZ v (w.heap.size + 1) 31 := RowZ.of RZ3.out.row 31 rfl
    clear ht hd hb a0 a9 a10
    go_wp2_with fail
    refine bodyPost_ret (v := .agg (scrA t)) (res55 Tryz.results41 _ _ (w.heap.size + 1) _ (by simp) ((RZ3.out).row.setRow) rfl) rfl ⟨t, rfl, ?_, ?_, ?_⟩
    · exact OwnS.keepRow (O3.out) (w.heap.size + 1) _ (.inr (RowS.apart (RZ3.out) (O3.out)))
    · rw [D3.out]; exact HD.out
    · exact below_setRow (H3.out) (by omega) _
  by_cases z2 : k = 2
  · subst z2
    have HD := hid (show blD s.data lo (hi - lo) = eraseD s.data lo hi 2 from by unfold eraseD; rw [if_neg (by decide), if_neg (by decide), if_pos rfl])
    clear ho hok fit f1 f2 f3 ew ex ey h2
    go_enter Tryz.func41, Tryz.ntmps41
    go_upto_region 1 with fail
    rw [← hW]
    clear hW
    go_wp2_with fail
    clear row1 rz1
    refine HC2.out.mono ?_
    rintro e v ⟨t, rfl, ht, hd, hb⟩
    have RZ3 := hid (RZ1.out.below hb RZ1.out.lt)
    have H3 := hid (H1.out.trans (hb.mono (by omega)))
    have O3 := hid ht
    have D3 := hid hd
    have rz3 : RowZ v (w.heap.size + 1) 31 := RowZ.of RZ3.out.row 31 rfl
    clear ht hd hb a0 a9 a10
    go_wp2_with fail
    refine bodyPost_ret (v := .agg (scrA t)) (res55 Tryz.results41 _ _ (w.heap.size + 1) _ (by simp) ((RZ3.out).row.setRow) rfl) rfl ⟨t, rfl, ?_, ?_, ?_⟩
    · exact OwnS.keepRow (O3.out) (w.heap.size + 1) _ (.inr (RowS.apart (RZ3.out) (O3.out)))
    · rw [D3.out]; exact HD.out
    · exact below_setRow (H3.out) (by omega) _
  have HD := hid (show s.data = eraseD s.data lo hi k from by unfold eraseD; rw [if_neg z0, if_neg z1, if_neg z2])
  clear ho hok fit f1 f2 f3 ew ex ey h2
  go_enter Tryz.func41, Tryz.ntmps41
  go_upto_region 1 with fail
  rw [← hW]
  clear hW
  go_wp2_with fail
  refine bodyPost_ret (v := .agg (scrA s)) (res55 Tryz.results41 _ _ (w.heap.size + 1) _ (by simp) ((RZ1.out).row.setRow) rfl) rfl ⟨s, rfl, ?_, ?_, ?_⟩
  · exact OwnS.keepRow (O1.out) (w.heap.size + 1) _ (.inr (RowS.apart (RZ1.out) (O1.out)))
  · exact HD.out
  · exact below_setRow (H1.out) (by omega) _
end Go.Proofs.YtgnpgkkjcloghaaGreat.Sc
