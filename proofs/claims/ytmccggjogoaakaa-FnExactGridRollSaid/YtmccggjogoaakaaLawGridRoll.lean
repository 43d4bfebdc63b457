/- FnExactGridRoll: the walk of the law from the contracts of the program, of its model and of the laws' helpers; at every input, no condition. -/
import Derived.Test.YtmccggjogoaakaaGrLaw
import Derived.Test.YtmccggjogoaakaaGrMark
import Derived.Test.YtmccggjogoaakaaGrRollO
import Derived.Deep.RegionWith
import Derived.Deep.Cut
import Derived.Deep.CutRange
import Derived.Deep.DeepCutAuto
import Derived.Deep.DrawnRows
namespace Go.Proofs.Ytmccggjogoaakaa.fnExactGridRoll
open Go.RowKit Go.Proofs.Ytmccggjogoaakaa.Bytes Go.Proofs.Ytmccggjogoaakaa.Rows_ Go.Proofs.Ytmccggjogoaakaa.RowK Go.Proofs.Ytmccggjogoaakaa.Gr
set_option linter.unusedVariables false
attribute [local go_sem ↓] Go.wp_at_zero Go.wp_at_succ
theorem own : ownKnob Try.prog.godebug = none := by kernel_rfl
set_option maxRecDepth 100000 in
set_option maxHeartbeats 16000000 in
theorem walk (gw gh : Int) (A : Option Addr) (n c : Nat) (cs : List CellD) (x y d : Int) (w : World) (hr : RdC w w.heap.size A cs) (hl : cs.length = n) (hn : n ≤ 9223372036854775807) (wx : (Lit.int .i64 x).wf = true) (wy : (Lit.int .i64 y).wf = true) (wd : (Lit.int .i64 d).wf = true) :
    Calls Try.prog 3 #[.agg #[.int .i64 gw, .int .i64 gh, .slice A n c], .int .i64 x, .int .i64 y, .int .i64 d] w fun e w' => e = .returned (.bool true) ∧ Below w.heap.size w w' := by
  have hb0 := Lib.hid ((Below.refl w.heap.size w).alloc (by simp <;> omega) (.cells #[.int .i64 gw, .int .i64 gh, .slice A n c] 24))
  have x0a : BoxK (w.alloc (.cells #[.int .i64 gw, .int .i64 gh, .slice A n c] 24)) (w.heap.size) [.int .i64 gw, .int .i64 gh, .slice A n c] := by have h := BoxK.new w [.int .i64 gw, .int .i64 gh, .slice A n c] 24; exact h
  have X0a := Lib.hid x0a
  clear x0a
  have HTB := Lib.hid (fun W (h : Below w.heap.size w W) (hn' : n ≤ 1048576) => toG (B := 0) gw gh A n c cs hr hl hn' h)
  have HLN := Lib.hid hl
  clear wx wy wd
  obtain ⟨rw_, rh_, m, rcs, hans⟩ : ∃ (rw_ rh_ : Int) (m : Nat) (rcs : List CellD), ∀ (hn' : n ≤ 1048576), m ≤ 1048576 ∧ ∀ w e w', AnsT w (rollT gw gh cs x y d) e w' → ∃ A c, e = .returned (.agg #[.int .i64 rw_, .int .i64 rh_, .slice A m c]) ∧ OwnC w' w.heap.size A m c rcs ∧ Below w.heap.size w w' := ⟨(rollT gw gh cs x y d).1, (rollT gw gh cs x y d).2.1, (rollT gw gh cs x y d).2.2.length, (rollT gw gh cs x y d).2.2, fun hn' => ⟨rollT_len hl hn', fun w e w' h => h⟩⟩
  have HSpec0 := Lib.hid (fun (hn' : n ≤ 1048576) (W : World) (F : Option Addr) (d_ B : Nat) (h : OwnC W B F n d_ cs) => (spec_GridRoll_own gw gh x y d h hn').mono (fun e w' h => (hans hn').2 _ _ _ h))
  have HImpl0 := Lib.hid (fun (hn' : n ≤ 1048576) (W : World) (F : Option Addr) (d_ B : Nat) (h : OwnC W B F n d_ cs) => (impl_GridRoll_own gw gh x y d h hn').mono (fun e w' h => (hans hn').2 _ _ _ h))
  have HM := Lib.hid (fun (hn' : n ≤ 1048576) => (hans hn').1)
  clear hans
  have HSZ := Lib.hid (fun W => szGrid_any gw gh A n c (1048576) W hn (by omega) (by omega))
  by_cases hbig : (1048576 : Int) < (n : Int)
  · rw [if_pos hbig] at HSZ
    clear hr hl
    go_enter Try.func3, Try.ntmps3
    go_wp2_with fail
    refine (HSZ.out _).mono ?_
    rintro e v1 ⟨rfl, hx1⟩
    have HB1 := Lib.hid (hb0.out.trans (hx1.mono (by simp <;> omega)))
    have z1 : w.heap.size ≤ v1.heap.size := HB1.out.size
    have XXa := Lib.hid (BoxK.below X0a.out hx1 (by simp <;> omega))
    have s1a : w.heap.size < v1.heap.size := by have := hx1.size; simp at this; omega
    have t1a := s1a
    clear hx1 hb0 X0a
    clear HSZ
    go_wp2_with fail
    go_ret
    exact ⟨rfl, HB1.out⟩
  rw [if_neg hbig] at HSZ
  have HT := Lib.hid (fun W (h : Below w.heap.size w W) => HTB.out W h (by omega))
  clear HTB hr hl
  have hlf0 : 0 ≤ (1048576 : Int) - n := by omega
  have hN : n ≤ 1048576 := by omega
  clear hbig
  go_enter Try.func3, Try.ntmps3
  go_wp2_with fail
  refine (HSZ.out _).mono ?_
  rintro e v1 ⟨rfl, hx1⟩
  have HB1 := Lib.hid (hb0.out.trans (hx1.mono (by simp <;> omega)))
  have z1 : w.heap.size ≤ v1.heap.size := HB1.out.size
  have XXa := Lib.hid (BoxK.below X0a.out hx1 (by simp <;> omega))
  have s1a : w.heap.size < v1.heap.size := by have := hx1.size; simp at this; omega
  have t1a := s1a
  clear hx1 hb0 X0a
  clear HSZ
  have hm := HM.out hN
  have HSpec := Lib.hid (fun (W : World) (F : Option Addr) (d_ B : Nat) (h : OwnC W B F n d_ cs) => HSpec0.out hN W F d_ B h)
  have HImpl := Lib.hid (fun (W : World) (F : Option Addr) (d_ B : Nat) (h : OwnC W B F n d_ cs) => HImpl0.out hN W F d_ B h)
  clear HSpec0 HImpl0 HM
  have hne2 : (1 + 6 * (m : Int) != 1 + 6 * (m : Int)) = false := by simp
  have hge : decide (1 + 6 * (m : Int) < 0) = false := decide_eq_false (by omega)
  have hgn : decide (1 + 6 * (n : Int) < 0) = false := decide_eq_false (by omega)
  have aq0 := XXa.out 0 _ rfl
  have aq1 := XXa.out 1 _ rfl
  have aq2 := XXa.out 2 _ rfl
  have HPB := HB1
  go_wp2_with fail
  refine (HT.out _ HPB.out).mono ?_
  rintro e v2 ⟨F2, d2, rfl, ho2, hx2⟩
  clear aq0 aq1 aq2
  have HO2 := Lib.hid ho2
  have HL2 := Lib.hid (show ∀ i, (Value.slice F2 n d2).ownBlock = some i → v1.heap.size ≤ i ∧ (v1.heap.size = i → True) ∧ i < v2.heap.size from fun i hi => by have := ho2.blk i hi; exact ⟨by omega, fun _ => trivial, this.2⟩)
  clear ho2
  have hst2 : Below v1.heap.size v1 v2 := hx2
  have HB2 := Lib.hid (HB1.out.trans (hst2.mono z1))
  clear HB1
  have z2 : w.heap.size ≤ v2.heap.size := HB2.out.size
  clear z1
  have ch2 : v1.heap.size ≤ v2.heap.size := hst2.size
  have XXa_2 := Lib.hid (BoxK.below XXa.out hst2 s1a)
  clear XXa
  have s2a : w.heap.size < v2.heap.size := Nat.lt_of_lt_of_le s1a hst2.size
  clear s1a
  clear hx2 hst2
  have HP0 := HO2
  go_wp2_with fail
  refine (HSpec.out _ _ _ _ HP0.out).mono ?_
  rintro e v3 ⟨F3, d3, rfl, ho3, hx3⟩
  have HO3 := Lib.hid ho3
  have HL3 := Lib.hid (show ∀ i, (Value.slice F3 m d3).ownBlock = some i → v2.heap.size ≤ i ∧ (v2.heap.size = i → True) ∧ i < v3.heap.size from fun i hi => by have := ho3.blk i hi; exact ⟨by omega, fun _ => trivial, this.2⟩)
  clear ho3
  have hst3 : Below v2.heap.size v2 v3 := hx3
  have HO2_3 := Lib.hid (HO2.out.below (Nat.le_refl _) hst3)
  clear HO2
  have HB3 := Lib.hid (HB2.out.trans (hst3.mono z2))
  clear HB2
  have z3 : w.heap.size ≤ v3.heap.size := HB3.out.size
  clear z2
  have ch3 : v2.heap.size ≤ v3.heap.size := hst3.size
  have XXa_2_3 := Lib.hid (BoxK.below XXa_2.out hst3 s2a)
  clear XXa_2
  have s3a : w.heap.size < v3.heap.size := Nat.lt_of_lt_of_le s2a hst3.size
  clear s2a
  clear hx3 hst3
  clear HO2_3 HL2
  have aq0 := XXa_2_3.out 0 _ rfl
  have aq1 := XXa_2_3.out 1 _ rfl
  have aq2 := XXa_2_3.out 2 _ rfl
  have HAL := Lib.hid ((Below.refl v3.heap.size v3).alloc (Nat.le_refl _) (.cells #[.int .i64 rw_, .int .i64 rh_, .slice F3 m d3] 28))
  have HPB := Lib.hid (HB3.out.trans (HAL.out.mono z3))
  go_wp2_with fail
  refine (HT.out _ HPB.out).mono ?_
  rintro e v4 ⟨F4, d4, rfl, ho4, hx4⟩
  clear HPB
  clear aq0 aq1 aq2
  have HO4 := Lib.hid ho4
  have HL4 := Lib.hid (show ∀ i, (Value.slice F4 n d4).ownBlock = some i → v3.heap.size ≤ i ∧ (v3.heap.size = i → False) ∧ i < v4.heap.size from fun i hi => by have := ho4.blk i hi; simp at this; exact ⟨by omega, fun e => by omega, this.2⟩)
  clear ho4
  have hst4 : Below v3.heap.size v3 v4 := HAL.out.trans (hx4.mono (by simp))
  have HO3_4 := Lib.hid (HO3.out.below (Nat.le_refl _) hst4)
  clear HO3
  have HB4 := Lib.hid (HB3.out.trans (hst4.mono z3))
  clear HB3
  have z4 : w.heap.size ≤ v4.heap.size := HB4.out.size
  clear z3
  have ch4 : v3.heap.size ≤ v4.heap.size := hst4.size
  have XXa_2_3_4 := Lib.hid (BoxK.below XXa_2_3.out hst4 s3a)
  clear XXa_2_3
  have s4a : w.heap.size < v4.heap.size := Nat.lt_of_lt_of_le s3a hst4.size
  clear s3a
  have Xbw := Lib.hid (BoxK.below (BoxK.new v3 [.int .i64 rw_, .int .i64 rh_, .slice F3 m d3] 28) hx4 (by simp))
  have s4bw : v3.heap.size < v4.heap.size := by have := hx4.size; simp at this; omega
  have tbw := s4bw
  clear HAL
  clear hx4 hst4
  have HAL := Lib.hid ((Below.refl v4.heap.size v4).alloc (Nat.le_refl _) (.cells #[.int .i64 gw, .int .i64 gh, .slice F4 n d4] 28))
  have HP0 := Lib.hid (HO4.out.below (Nat.le_refl _) HAL.out)
  go_wp2_with fail
  refine (HImpl.out _ _ _ _ HP0.out).mono ?_
  rintro e v5 ⟨F5, d5, rfl, ho5, hx5⟩
  clear HP0
  have HO5 := Lib.hid ho5
  have HL5 := Lib.hid (show ∀ i, (Value.slice F5 m d5).ownBlock = some i → v4.heap.size ≤ i ∧ (v4.heap.size = i → False) ∧ i < v5.heap.size from fun i hi => by have := ho5.blk i hi; simp at this; exact ⟨by omega, fun e => by omega, this.2⟩)
  clear ho5
  have hst5 : Below v4.heap.size v4 v5 := HAL.out.trans (hx5.mono (by simp))
  have HO3_4_5 := Lib.hid (HO3_4.out.below (Nat.le_refl _) hst5)
  clear HO3_4
  have HO4_5 := Lib.hid (HO4.out.below (Nat.le_refl _) hst5)
  clear HO4
  have HB5 := Lib.hid (HB4.out.trans (hst5.mono z4))
  clear HB4
  have z5 : w.heap.size ≤ v5.heap.size := HB5.out.size
  clear z4
  have ch5 : v4.heap.size ≤ v5.heap.size := hst5.size
  have XXa_2_3_4_5 := Lib.hid (BoxK.below XXa_2_3_4.out hst5 s4a)
  clear XXa_2_3_4
  have s5a : w.heap.size < v5.heap.size := Nat.lt_of_lt_of_le s4a hst5.size
  clear s4a
  have Xbw_5 := Lib.hid (BoxK.below Xbw.out hst5 s4bw)
  clear Xbw
  have s5bw : v3.heap.size < v5.heap.size := Nat.lt_of_lt_of_le s4bw hst5.size
  clear s4bw
  have Xbx := Lib.hid (BoxK.below (BoxK.new v4 [.int .i64 gw, .int .i64 gh, .slice F4 n d4] 28) hx5 (by simp))
  have s5bx : v4.heap.size < v5.heap.size := by have := hx5.size; simp at this; omega
  have tbx := s5bx
  clear HAL
  clear hx5 hst5
  have bwq0 := Xbw_5.out 0 _ rfl
  have bwq1 := Xbw_5.out 1 _ rfl
  have bwq2 := Xbw_5.out 2 _ rfl
  have HAL := Lib.hid ((Below.refl v5.heap.size v5).alloc (Nat.le_refl _) (.cells #[.int .i64 rw_, .int .i64 rh_, .slice F5 m d5] 28))
  have HP0 := Lib.hid (HO5.out.below (Nat.le_refl _) HAL.out)
  have HP1 := Lib.hid (HO3_4_5.out.below (Nat.le_refl _) HAL.out)
  go_wp2_with fail
  refine (eqG rw_ rh_ HP0.out HP1.out (by omega)).mono ?_
  rintro e v6 ⟨rfl, hx6⟩
  clear HP0
  clear HP1
  clear bwq0 bwq1 bwq2
  have hst6 : Below v5.heap.size v5 v6 := HAL.out.trans (hx6.mono (by simp))
  have HO3_4_5_6 := Lib.hid (HO3_4_5.out.below (Nat.le_refl _) hst6)
  clear HO3_4_5
  have HO4_5_6 := Lib.hid (HO4_5.out.below (Nat.le_refl _) hst6)
  clear HO4_5
  have HO5_6 := Lib.hid (HO5.out.below (Nat.le_refl _) hst6)
  clear HO5
  have HB6 := Lib.hid (HB5.out.trans (hst6.mono z5))
  clear HB5
  have z6 : w.heap.size ≤ v6.heap.size := HB6.out.size
  clear z5
  have ch6 : v5.heap.size ≤ v6.heap.size := hst6.size
  have XXa_2_3_4_5_6 := Lib.hid (BoxK.below XXa_2_3_4_5.out hst6 s5a)
  clear XXa_2_3_4_5
  have s6a : w.heap.size < v6.heap.size := Nat.lt_of_lt_of_le s5a hst6.size
  clear s5a
  have Xbw_5_6 := Lib.hid (BoxK.below Xbw_5.out hst6 s5bw)
  clear Xbw_5
  have s6bw : v3.heap.size < v6.heap.size := Nat.lt_of_lt_of_le s5bw hst6.size
  clear s5bw
  have Xbx_6 := Lib.hid (BoxK.below Xbx.out hst6 s5bx)
  clear Xbx
  have s6bx : v4.heap.size < v6.heap.size := Nat.lt_of_lt_of_le s5bx hst6.size
  clear s5bx
  have Xbg := Lib.hid (BoxK.below (BoxK.new v5 [.int .i64 rw_, .int .i64 rh_, .slice F5 m d5] 28) hx6 (by simp))
  have s6bg : v5.heap.size < v6.heap.size := by have := hx6.size; simp at this; omega
  have tbg := s6bg
  clear HAL
  clear hx6 hst6
  have aq0 := XXa_2_3_4_5_6.out 0 _ rfl
  have aq1 := XXa_2_3_4_5_6.out 1 _ rfl
  have aq2 := XXa_2_3_4_5_6.out 2 _ rfl
  have bxq0 := Xbx_6.out 0 _ rfl
  have bxq1 := Xbx_6.out 1 _ rfl
  have bxq2 := Xbx_6.out 2 _ rfl
  go_upto_region 10 with fail
  go_cut [43] (fun s wx => s = .bool false ∧ Below v6.heap.size v6 wx)
  case first =>
    go_region_with (first
      | (go_at_call 11; refine (HT.out _ ?_).mono ?_; exact ⟨HB6.out.os, HB6.out.tape, HB6.out.output, HB6.out.size, HB6.out.block⟩; rintro e y1 ⟨Fy, dy, rfl, hoy, hxy'⟩; have hxy : Below v6.heap.size v6 y1 := undrew hxy'; clear hxy'; have HOY := Lib.hid hoy; have HPY := Lib.hid (HO4_5_6.out.below (Nat.le_refl _) hxy); obtain ⟨r0, r1, r2⟩ : y1.cell? ⟨v4.heap.size, 0, none⟩ = some (.int .i64 gw) ∧ y1.cell? ⟨v4.heap.size, 1, none⟩ = some (.int .i64 gh) ∧ y1.cell? ⟨v4.heap.size, 2, none⟩ = some (.slice F4 n d4) := ⟨BoxK.below Xbx_6.out hxy s6bx 0 _ rfl, BoxK.below Xbx_6.out hxy s6bx 1 _ rfl, BoxK.below Xbx_6.out hxy s6bx 2 _ rfl⟩; have HXY := Lib.hid hxy; have zy := hxy.size; clear hoy hxy)
      | (go_at_call 13; refine (eqG gw gh HPY.out HOY.out (by omega)).mono ?_; rintro e y2 ⟨rfl, hxz⟩))
    all_goals
      have HE := Lib.hid (HXY.out.trans (hxz.mono zy))
      clear hxz
      go_wp2_with fail
      go_meet
      case rel => exact ⟨rfl, HE.out⟩
  case rest =>
    obtain ⟨rfl, hx⟩ := hcut
    clear aq0 aq1 aq2
    clear bxq0 bxq1 bxq2
    have HO3_4_5_6_7 := Lib.hid (HO3_4_5_6.out.below (Nat.le_refl _) hx)
    clear HO3_4_5_6
    have HO4_5_6_7 := Lib.hid (HO4_5_6.out.below (Nat.le_refl _) hx)
    clear HO4_5_6
    have HO5_6_7 := Lib.hid (HO5_6.out.below (Nat.le_refl _) hx)
    clear HO5_6
    have HB7 := Lib.hid (HB6.out.trans (hx.mono z6))
    clear HB6
    have z7 : w.heap.size ≤ wc.heap.size := HB7.out.size
    clear z6
    have ch7 : v6.heap.size ≤ wc.heap.size := hx.size
    have XXa_2_3_4_5_6_7 := Lib.hid (BoxK.below XXa_2_3_4_5_6.out hx s6a)
    clear XXa_2_3_4_5_6
    have s7a : w.heap.size < wc.heap.size := Nat.lt_of_lt_of_le s6a hx.size
    clear s6a
    have Xbw_5_6_7 := Lib.hid (BoxK.below Xbw_5_6.out hx s6bw)
    clear Xbw_5_6
    have s7bw : v3.heap.size < wc.heap.size := Nat.lt_of_lt_of_le s6bw hx.size
    clear s6bw
    have Xbx_6_7 := Lib.hid (BoxK.below Xbx_6.out hx s6bx)
    clear Xbx_6
    have s7bx : v4.heap.size < wc.heap.size := Nat.lt_of_lt_of_le s6bx hx.size
    clear s6bx
    have Xbg_7 := Lib.hid (BoxK.below Xbg.out hx s6bg)
    clear Xbg
    have s7bg : v5.heap.size < wc.heap.size := Nat.lt_of_lt_of_le s6bg hx.size
    clear s6bg
    clear hx
    obtain ⟨wk, rfl⟩ : ∃ v : World, v = wc := ⟨_, rfl⟩
    have bxq0 := Xbx_6_7.out 0 _ rfl
    have bxq1 := Xbx_6_7.out 1 _ rfl
    have bxq2 := Xbx_6_7.out 2 _ rfl
    go_wp2_with fail
    refine (markGrid_any gw gh _ n _ _ cs (1) _ HO4_5_6_7.out (by omega) (by omega) (by omega)).mono ?_
    rintro e v8 ⟨rfl, ho8, on8⟩
    clear bxq0 bxq1 bxq2
    have HO8 := Lib.hid ho8
    clear ho8
    have HO3_4_5_6_7_8 := Lib.hid (HO3_4_5_6_7.out.only on8 (fun i hi hs => by have h1 := HL3.out i hi; have h2 := HL4.out i hs; have hq1 := h1.2.1; have hq2 := h2.2.1; omega))
    clear HO3_4_5_6_7
    have HO5_6_7_8 := Lib.hid (HO5_6_7.out.only on8 (fun i hi hs => by have h1 := HL5.out i hi; have h2 := HL4.out i hs; have hq1 := h1.2.1; have hq2 := h2.2.1; omega))
    clear HO5_6_7
    have HB8 := Lib.hid (Only.below_ on8 HB7.out z7 (fun i hs => by have h2 := HL4.out i hs; omega))
    clear HB7
    have z8 : w.heap.size ≤ v8.heap.size := HB8.out.size
    clear z7
    have ch8 : wk.heap.size ≤ v8.heap.size := on8.size
    have XXa_2_3_4_5_6_7_8 := Lib.hid (BoxK.only XXa_2_3_4_5_6_7.out on8 (fun hs => by have h2 := HL4.out _ hs; first | omega | exact h2.2.1 rfl))
    clear XXa_2_3_4_5_6_7
    have s8a : w.heap.size < v8.heap.size := Nat.lt_of_lt_of_le s7a on8.size
    clear s7a
    have Xbw_5_6_7_8 := Lib.hid (BoxK.only Xbw_5_6_7.out on8 (fun hs => by have h2 := HL4.out _ hs; first | omega | exact h2.2.1 rfl))
    clear Xbw_5_6_7
    have s8bw : v3.heap.size < v8.heap.size := Nat.lt_of_lt_of_le s7bw on8.size
    clear s7bw
    have Xbx_6_7_8 := Lib.hid (BoxK.only Xbx_6_7.out on8 (fun hs => by have h2 := HL4.out _ hs; first | omega | exact h2.2.1 rfl))
    clear Xbx_6_7
    have s8bx : v4.heap.size < v8.heap.size := Nat.lt_of_lt_of_le s7bx on8.size
    clear s7bx
    have Xbg_7_8 := Lib.hid (BoxK.only Xbg_7.out on8 (fun hs => by have h2 := HL4.out _ hs; first | omega | exact h2.2.1 rfl))
    clear Xbg_7
    have s8bg : v5.heap.size < v8.heap.size := Nat.lt_of_lt_of_le s7bg on8.size
    clear s7bg
    clear on8 HO4_5_6_7
    clear HO8 HL4
    have bgq0 := Xbg_7_8.out 0 _ rfl
    have bgq1 := Xbg_7_8.out 1 _ rfl
    have bgq2 := Xbg_7_8.out 2 _ rfl
    have bwq0 := Xbw_5_6_7_8.out 0 _ rfl
    have bwq1 := Xbw_5_6_7_8.out 1 _ rfl
    have bwq2 := Xbw_5_6_7_8.out 2 _ rfl
    have HP0 := HO5_6_7_8
    have HP1 := HO3_4_5_6_7_8
    go_wp2_with fail
    refine (eqG rw_ rh_ HP0.out HP1.out (by omega)).mono ?_
    rintro e v9 ⟨rfl, hx9⟩
    clear bgq0 bgq1 bgq2
    clear bwq0 bwq1 bwq2
    have hst9 : Below v8.heap.size v8 v9 := hx9
    have HO3_4_5_6_7_8_9 := Lib.hid (HO3_4_5_6_7_8.out.below (Nat.le_refl _) hst9)
    clear HO3_4_5_6_7_8
    have HO5_6_7_8_9 := Lib.hid (HO5_6_7_8.out.below (Nat.le_refl _) hst9)
    clear HO5_6_7_8
    have HB9 := Lib.hid (HB8.out.trans (hst9.mono z8))
    clear HB8
    have z9 : w.heap.size ≤ v9.heap.size := HB9.out.size
    clear z8
    have ch9 : v8.heap.size ≤ v9.heap.size := hst9.size
    have XXa_2_3_4_5_6_7_8_9 := Lib.hid (BoxK.below XXa_2_3_4_5_6_7_8.out hst9 s8a)
    clear XXa_2_3_4_5_6_7_8
    have s9a : w.heap.size < v9.heap.size := Nat.lt_of_lt_of_le s8a hst9.size
    clear s8a
    have Xbw_5_6_7_8_9 := Lib.hid (BoxK.below Xbw_5_6_7_8.out hst9 s8bw)
    clear Xbw_5_6_7_8
    have s9bw : v3.heap.size < v9.heap.size := Nat.lt_of_lt_of_le s8bw hst9.size
    clear s8bw
    have Xbx_6_7_8_9 := Lib.hid (BoxK.below Xbx_6_7_8.out hst9 s8bx)
    clear Xbx_6_7_8
    have s9bx : v4.heap.size < v9.heap.size := Nat.lt_of_lt_of_le s8bx hst9.size
    clear s8bx
    have Xbg_7_8_9 := Lib.hid (BoxK.below Xbg_7_8.out hst9 s8bg)
    clear Xbg_7_8
    have s9bg : v5.heap.size < v9.heap.size := Nat.lt_of_lt_of_le s8bg hst9.size
    clear s8bg
    clear hx9 hst9
    have bgq0 := Xbg_7_8_9.out 0 _ rfl
    have bgq1 := Xbg_7_8_9.out 1 _ rfl
    have bgq2 := Xbg_7_8_9.out 2 _ rfl
    go_wp2_with fail
    refine (markGrid_any rw_ rh_ _ m _ _ rcs (1) _ HO5_6_7_8_9.out (by omega) (by omega) (by omega)).mono ?_
    rintro e v10 ⟨rfl, ho10, on10⟩
    clear bgq0 bgq1 bgq2
    have HO10 := Lib.hid ho10
    clear ho10
    have HO3_4_5_6_7_8_9_10 := Lib.hid (HO3_4_5_6_7_8_9.out.only on10 (fun i hi hs => by have h1 := HL3.out i hi; have h2 := HL5.out i hs; have hq1 := h1.2.1; have hq2 := h2.2.1; omega))
    clear HO3_4_5_6_7_8_9
    have HB10 := Lib.hid (Only.below_ on10 HB9.out z9 (fun i hs => by have h2 := HL5.out i hs; omega))
    clear HB9
    have z10 : w.heap.size ≤ v10.heap.size := HB10.out.size
    clear z9
    have ch10 : v9.heap.size ≤ v10.heap.size := on10.size
    have XXa_2_3_4_5_6_7_8_9_10 := Lib.hid (BoxK.only XXa_2_3_4_5_6_7_8_9.out on10 (fun hs => by have h2 := HL5.out _ hs; first | omega | exact h2.2.1 rfl))
    clear XXa_2_3_4_5_6_7_8_9
    have s10a : w.heap.size < v10.heap.size := Nat.lt_of_lt_of_le s9a on10.size
    clear s9a
    have Xbw_5_6_7_8_9_10 := Lib.hid (BoxK.only Xbw_5_6_7_8_9.out on10 (fun hs => by have h2 := HL5.out _ hs; first | omega | exact h2.2.1 rfl))
    clear Xbw_5_6_7_8_9
    have s10bw : v3.heap.size < v10.heap.size := Nat.lt_of_lt_of_le s9bw on10.size
    clear s9bw
    have Xbx_6_7_8_9_10 := Lib.hid (BoxK.only Xbx_6_7_8_9.out on10 (fun hs => by have h2 := HL5.out _ hs; first | omega | exact h2.2.1 rfl))
    clear Xbx_6_7_8_9
    have s10bx : v4.heap.size < v10.heap.size := Nat.lt_of_lt_of_le s9bx on10.size
    clear s9bx
    have Xbg_7_8_9_10 := Lib.hid (BoxK.only Xbg_7_8_9.out on10 (fun hs => by have h2 := HL5.out _ hs; first | omega | exact h2.2.1 rfl))
    clear Xbg_7_8_9
    have s10bg : v5.heap.size < v10.heap.size := Nat.lt_of_lt_of_le s9bg on10.size
    clear s9bg
    clear on10 HO5_6_7_8_9
    have bgq0 := Xbg_7_8_9_10.out 0 _ rfl
    have bgq1 := Xbg_7_8_9_10.out 1 _ rfl
    have bgq2 := Xbg_7_8_9_10.out 2 _ rfl
    have HP0 := HO10
    go_wp2_with fail
    refine (heldGrid_any rw_ rh_ _ m _ (1) _ HP0.out.rd (by omega) (by omega) (by omega)).mono ?_
    rintro e v11 ⟨rfl, hx11⟩
    clear bgq0 bgq1 bgq2
    have hst11 : Below v10.heap.size v10 v11 := hx11
    have HO3_4_5_6_7_8_9_10_11 := Lib.hid (HO3_4_5_6_7_8_9_10.out.below (Nat.le_refl _) hst11)
    clear HO3_4_5_6_7_8_9_10
    have HO10_11 := Lib.hid (HO10.out.below (Nat.le_refl _) hst11)
    clear HO10
    have HB11 := Lib.hid (HB10.out.trans (hst11.mono z10))
    clear HB10
    have z11 : w.heap.size ≤ v11.heap.size := HB11.out.size
    clear z10
    have ch11 : v10.heap.size ≤ v11.heap.size := hst11.size
    have XXa_2_3_4_5_6_7_8_9_10_11 := Lib.hid (BoxK.below XXa_2_3_4_5_6_7_8_9_10.out hst11 s10a)
    clear XXa_2_3_4_5_6_7_8_9_10
    have s11a : w.heap.size < v11.heap.size := Nat.lt_of_lt_of_le s10a hst11.size
    clear s10a
    have Xbw_5_6_7_8_9_10_11 := Lib.hid (BoxK.below Xbw_5_6_7_8_9_10.out hst11 s10bw)
    clear Xbw_5_6_7_8_9_10
    have s11bw : v3.heap.size < v11.heap.size := Nat.lt_of_lt_of_le s10bw hst11.size
    clear s10bw
    have Xbx_6_7_8_9_10_11 := Lib.hid (BoxK.below Xbx_6_7_8_9_10.out hst11 s10bx)
    clear Xbx_6_7_8_9_10
    have s11bx : v4.heap.size < v11.heap.size := Nat.lt_of_lt_of_le s10bx hst11.size
    clear s10bx
    have Xbg_7_8_9_10_11 := Lib.hid (BoxK.below Xbg_7_8_9_10.out hst11 s10bg)
    clear Xbg_7_8_9_10
    have s11bg : v5.heap.size < v11.heap.size := Nat.lt_of_lt_of_le s10bg hst11.size
    clear s10bg
    clear hx11 hst11
    have aq0 := XXa_2_3_4_5_6_7_8_9_10_11.out 0 _ rfl
    have aq1 := XXa_2_3_4_5_6_7_8_9_10_11.out 1 _ rfl
    have aq2 := XXa_2_3_4_5_6_7_8_9_10_11.out 2 _ rfl
    have HPB := HB11
    go_wp2_with fail
    refine (HT.out _ HPB.out).mono ?_
    rintro e v12 ⟨F12, d12, rfl, ho12, hx12⟩
    clear aq0 aq1 aq2
    have HO12 := Lib.hid ho12
    have HL12 := Lib.hid (show ∀ i, (Value.slice F12 n d12).ownBlock = some i → v11.heap.size ≤ i ∧ (v11.heap.size = i → True) ∧ i < v12.heap.size from fun i hi => by have := ho12.blk i hi; exact ⟨by omega, fun _ => trivial, this.2⟩)
    clear ho12
    have hst12 : Below v11.heap.size v11 v12 := hx12
    have HO3_4_5_6_7_8_9_10_11_12 := Lib.hid (HO3_4_5_6_7_8_9_10_11.out.below (Nat.le_refl _) hst12)
    clear HO3_4_5_6_7_8_9_10_11
    have HO10_11_12 := Lib.hid (HO10_11.out.below (Nat.le_refl _) hst12)
    clear HO10_11
    have HB12 := Lib.hid (HB11.out.trans (hst12.mono z11))
    clear HB11
    have z12 : w.heap.size ≤ v12.heap.size := HB12.out.size
    clear z11
    have ch12 : v11.heap.size ≤ v12.heap.size := hst12.size
    have XXa_2_3_4_5_6_7_8_9_10_11_12 := Lib.hid (BoxK.below XXa_2_3_4_5_6_7_8_9_10_11.out hst12 s11a)
    clear XXa_2_3_4_5_6_7_8_9_10_11
    have s12a : w.heap.size < v12.heap.size := Nat.lt_of_lt_of_le s11a hst12.size
    clear s11a
    have Xbw_5_6_7_8_9_10_11_12 := Lib.hid (BoxK.below Xbw_5_6_7_8_9_10_11.out hst12 s11bw)
    clear Xbw_5_6_7_8_9_10_11
    have s12bw : v3.heap.size < v12.heap.size := Nat.lt_of_lt_of_le s11bw hst12.size
    clear s11bw
    have Xbx_6_7_8_9_10_11_12 := Lib.hid (BoxK.below Xbx_6_7_8_9_10_11.out hst12 s11bx)
    clear Xbx_6_7_8_9_10_11
    have s12bx : v4.heap.size < v12.heap.size := Nat.lt_of_lt_of_le s11bx hst12.size
    clear s11bx
    have Xbg_7_8_9_10_11_12 := Lib.hid (BoxK.below Xbg_7_8_9_10_11.out hst12 s11bg)
    clear Xbg_7_8_9_10_11
    have s12bg : v5.heap.size < v12.heap.size := Nat.lt_of_lt_of_le s11bg hst12.size
    clear s11bg
    clear hx12 hst12
    have HP0 := HO12
    go_wp2_with fail
    refine (HImpl.out _ _ _ _ HP0.out).mono ?_
    rintro e v13 ⟨F13, d13, rfl, ho13, hx13⟩
    have HO13 := Lib.hid ho13
    have HL13 := Lib.hid (show ∀ i, (Value.slice F13 m d13).ownBlock = some i → v12.heap.size ≤ i ∧ (v12.heap.size = i → True) ∧ i < v13.heap.size from fun i hi => by have := ho13.blk i hi; exact ⟨by omega, fun _ => trivial, this.2⟩)
    clear ho13
    have hst13 : Below v12.heap.size v12 v13 := hx13
    have HO3_4_5_6_7_8_9_10_11_12_13 := Lib.hid (HO3_4_5_6_7_8_9_10_11_12.out.below (Nat.le_refl _) hst13)
    clear HO3_4_5_6_7_8_9_10_11_12
    have HO10_11_12_13 := Lib.hid (HO10_11_12.out.below (Nat.le_refl _) hst13)
    clear HO10_11_12
    have HO12_13 := Lib.hid (HO12.out.below (Nat.le_refl _) hst13)
    clear HO12
    have HB13 := Lib.hid (HB12.out.trans (hst13.mono z12))
    clear HB12
    have z13 : w.heap.size ≤ v13.heap.size := HB13.out.size
    clear z12
    have ch13 : v12.heap.size ≤ v13.heap.size := hst13.size
    have XXa_2_3_4_5_6_7_8_9_10_11_12_13 := Lib.hid (BoxK.below XXa_2_3_4_5_6_7_8_9_10_11_12.out hst13 s12a)
    clear XXa_2_3_4_5_6_7_8_9_10_11_12
    have s13a : w.heap.size < v13.heap.size := Nat.lt_of_lt_of_le s12a hst13.size
    clear s12a
    have Xbw_5_6_7_8_9_10_11_12_13 := Lib.hid (BoxK.below Xbw_5_6_7_8_9_10_11_12.out hst13 s12bw)
    clear Xbw_5_6_7_8_9_10_11_12
    have s13bw : v3.heap.size < v13.heap.size := Nat.lt_of_lt_of_le s12bw hst13.size
    clear s12bw
    have Xbx_6_7_8_9_10_11_12_13 := Lib.hid (BoxK.below Xbx_6_7_8_9_10_11_12.out hst13 s12bx)
    clear Xbx_6_7_8_9_10_11_12
    have s13bx : v4.heap.size < v13.heap.size := Nat.lt_of_lt_of_le s12bx hst13.size
    clear s12bx
    have Xbg_7_8_9_10_11_12_13 := Lib.hid (BoxK.below Xbg_7_8_9_10_11_12.out hst13 s12bg)
    clear Xbg_7_8_9_10_11_12
    have s13bg : v5.heap.size < v13.heap.size := Nat.lt_of_lt_of_le s12bg hst13.size
    clear s12bg
    clear hx13 hst13
    clear HO12_13 HL12
    have bwq0 := Xbw_5_6_7_8_9_10_11_12_13.out 0 _ rfl
    have bwq1 := Xbw_5_6_7_8_9_10_11_12_13.out 1 _ rfl
    have bwq2 := Xbw_5_6_7_8_9_10_11_12_13.out 2 _ rfl
    have HAL := Lib.hid ((Below.refl v13.heap.size v13).alloc (Nat.le_refl _) (.cells #[.int .i64 rw_, .int .i64 rh_, .slice F13 m d13] 28))
    have HP0 := Lib.hid (HO13.out.below (Nat.le_refl _) HAL.out)
    have HP1 := Lib.hid (HO3_4_5_6_7_8_9_10_11_12_13.out.below (Nat.le_refl _) HAL.out)
    go_wp2_with fail
    refine (eqG rw_ rh_ HP0.out HP1.out (by omega)).mono ?_
    rintro e v14 ⟨rfl, hx14⟩
    clear HP0
    clear HP1
    clear bwq0 bwq1 bwq2
    have hst14 : Below v13.heap.size v13 v14 := HAL.out.trans (hx14.mono (by simp))
    have HO3_4_5_6_7_8_9_10_11_12_13_14 := Lib.hid (HO3_4_5_6_7_8_9_10_11_12_13.out.below (Nat.le_refl _) hst14)
    clear HO3_4_5_6_7_8_9_10_11_12_13
    have HO10_11_12_13_14 := Lib.hid (HO10_11_12_13.out.below (Nat.le_refl _) hst14)
    clear HO10_11_12_13
    have HO13_14 := Lib.hid (HO13.out.below (Nat.le_refl _) hst14)
    clear HO13
    have HB14 := Lib.hid (HB13.out.trans (hst14.mono z13))
    clear HB13
    have z14 : w.heap.size ≤ v14.heap.size := HB14.out.size
    clear z13
    have ch14 : v13.heap.size ≤ v14.heap.size := hst14.size
    have XXa_2_3_4_5_6_7_8_9_10_11_12_13_14 := Lib.hid (BoxK.below XXa_2_3_4_5_6_7_8_9_10_11_12_13.out hst14 s13a)
    clear XXa_2_3_4_5_6_7_8_9_10_11_12_13
    have s14a : w.heap.size < v14.heap.size := Nat.lt_of_lt_of_le s13a hst14.size
    clear s13a
    have Xbw_5_6_7_8_9_10_11_12_13_14 := Lib.hid (BoxK.below Xbw_5_6_7_8_9_10_11_12_13.out hst14 s13bw)
    clear Xbw_5_6_7_8_9_10_11_12_13
    have s14bw : v3.heap.size < v14.heap.size := Nat.lt_of_lt_of_le s13bw hst14.size
    clear s13bw
    have Xbx_6_7_8_9_10_11_12_13_14 := Lib.hid (BoxK.below Xbx_6_7_8_9_10_11_12_13.out hst14 s13bx)
    clear Xbx_6_7_8_9_10_11_12_13
    have s14bx : v4.heap.size < v14.heap.size := Nat.lt_of_lt_of_le s13bx hst14.size
    clear s13bx
    have Xbg_7_8_9_10_11_12_13_14 := Lib.hid (BoxK.below Xbg_7_8_9_10_11_12_13.out hst14 s13bg)
    clear Xbg_7_8_9_10_11_12_13
    have s14bg : v5.heap.size < v14.heap.size := Nat.lt_of_lt_of_le s13bg hst14.size
    clear s13bg
    have Xbh := Lib.hid (BoxK.below (BoxK.new v13 [.int .i64 rw_, .int .i64 rh_, .slice F13 m d13] 28) hx14 (by simp))
    have s14bh : v13.heap.size < v14.heap.size := by have := hx14.size; simp at this; omega
    have tbh := s14bh
    clear HAL
    clear hx14 hst14
    have bgq0 := Xbg_7_8_9_10_11_12_13_14.out 0 _ rfl
    have bgq1 := Xbg_7_8_9_10_11_12_13_14.out 1 _ rfl
    have bgq2 := Xbg_7_8_9_10_11_12_13_14.out 2 _ rfl
    have HP0 := HO10_11_12_13_14
    go_wp2_with fail
    refine (heldGrid_any rw_ rh_ _ m _ (1) _ HP0.out.rd (by omega) (by omega) (by omega)).mono ?_
    rintro e v15 ⟨rfl, hx15⟩
    clear bgq0 bgq1 bgq2
    have hst15 : Below v14.heap.size v14 v15 := hx15
    have HO3_4_5_6_7_8_9_10_11_12_13_14_15 := Lib.hid (HO3_4_5_6_7_8_9_10_11_12_13_14.out.below (Nat.le_refl _) hst15)
    clear HO3_4_5_6_7_8_9_10_11_12_13_14
    have HO10_11_12_13_14_15 := Lib.hid (HO10_11_12_13_14.out.below (Nat.le_refl _) hst15)
    clear HO10_11_12_13_14
    have HO13_14_15 := Lib.hid (HO13_14.out.below (Nat.le_refl _) hst15)
    clear HO13_14
    have HB15 := Lib.hid (HB14.out.trans (hst15.mono z14))
    clear HB14
    have z15 : w.heap.size ≤ v15.heap.size := HB15.out.size
    clear z14
    have ch15 : v14.heap.size ≤ v15.heap.size := hst15.size
    have XXa_2_3_4_5_6_7_8_9_10_11_12_13_14_15 := Lib.hid (BoxK.below XXa_2_3_4_5_6_7_8_9_10_11_12_13_14.out hst15 s14a)
    clear XXa_2_3_4_5_6_7_8_9_10_11_12_13_14
    have s15a : w.heap.size < v15.heap.size := Nat.lt_of_lt_of_le s14a hst15.size
    clear s14a
    have Xbw_5_6_7_8_9_10_11_12_13_14_15 := Lib.hid (BoxK.below Xbw_5_6_7_8_9_10_11_12_13_14.out hst15 s14bw)
    clear Xbw_5_6_7_8_9_10_11_12_13_14
    have s15bw : v3.heap.size < v15.heap.size := Nat.lt_of_lt_of_le s14bw hst15.size
    clear s14bw
    have Xbx_6_7_8_9_10_11_12_13_14_15 := Lib.hid (BoxK.below Xbx_6_7_8_9_10_11_12_13_14.out hst15 s14bx)
    clear Xbx_6_7_8_9_10_11_12_13_14
    have s15bx : v4.heap.size < v15.heap.size := Nat.lt_of_lt_of_le s14bx hst15.size
    clear s14bx
    have Xbg_7_8_9_10_11_12_13_14_15 := Lib.hid (BoxK.below Xbg_7_8_9_10_11_12_13_14.out hst15 s14bg)
    clear Xbg_7_8_9_10_11_12_13_14
    have s15bg : v5.heap.size < v15.heap.size := Nat.lt_of_lt_of_le s14bg hst15.size
    clear s14bg
    have Xbh_15 := Lib.hid (BoxK.below Xbh.out hst15 s14bh)
    clear Xbh
    have s15bh : v13.heap.size < v15.heap.size := Nat.lt_of_lt_of_le s14bh hst15.size
    clear s14bh
    clear hx15 hst15
    go_wp2_with fail
    go_ret
    exact ⟨rfl, HB15.out⟩
end Go.Proofs.Ytmccggjogoaakaa.fnExactGridRoll

