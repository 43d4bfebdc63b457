/- FnExactVpOk: the walk of the law from the contracts of the program, of its model and of the laws' helpers; at every input, under the row's own condition on the listed variables. -/
import Derived.Test.YtgdjbpgfplcjpaaDoorVpTo
import Derived.Deep.RegionWith
import Derived.Deep.Cut
import Derived.Deep.CutRange
import Derived.Deep.DeepCutAuto
import Derived.Deep.DrawnRows
namespace Go.Proofs.YtgdjbpgfplcjpaaDoor.VpOkL
open Go.RowKit Go.Proofs.YtgdjbpgfplcjpaaDoor.Bytes Go.Proofs.YtgdjbpgfplcjpaaDoor.DOk Go.Proofs.YtgdjbpgfplcjpaaDoor.Rune Go.Proofs.YtgdjbpgfplcjpaaDoor.RowK Go.Proofs.YtgdjbpgfplcjpaaDoor.Gr Go.Proofs.YtgdjbpgfplcjpaaDoor.Vp
set_option linter.unusedVariables false
attribute [local go_sem ↓] Go.wp_at_zero Go.wp_at_succ
set_option maxRecDepth 100000 in
set_option maxHeartbeats 16000000 in
theorem walk (st : Int) (mk : Bool) (A : Option Addr) (na ca : Nat) (zs : List Int) (P : Option Addr) (np cp : Nat) (bs : List Int) (w : World) (hr : RdI w w.heap.size A zs) (hl : zs.length = na) (hn : na ≤ 9223372036854775807) (hp : Rd w w.heap.size P bs) (hpl : bs.length = np) (hpn : np ≤ 9223372036854775807) (hg : Rng bs) (hT : Dec.Tabs8 w) :
    Calls Tryd.prog 4 #[.agg #[.int .i64 st, .bool mk, .slice A na ca, .slice P np cp]] w fun e w' => e = .returned (.bool true) ∧ Below w.heap.size w w' := by
  have hb0 := Lib.hid ((Below.refl w.heap.size w).alloc (Nat.le_refl _) (.cells #[.int .i64 st, .bool mk, .slice A na ca, .slice P np cp] 37))
  have X0a := Lib.hid (BoxK.new w [.int .i64 st, .bool mk, .slice A na ca, .slice P np cp] 37)
  by_cases hbig : ¬ na + np ≤ 1048576
  · have HSZ := Lib.hid (fun W => szVp_big st mk A na ca P np cp W hn hpn hbig)
    clear hr hl hp hpl hg hT
    go_enter Tryd.func4, Tryd.ntmps4
    go_wp2_with fail
    refine (HSZ.out _).mono ?_
    rintro e v1 ⟨rfl, hx1⟩
    have HB1 := Lib.hid (hb0.out.trans (hx1.mono (by simp <;> omega)))
    clear hx1
    go_wp2_with fail
    go_ret
    exact ⟨rfl, HB1.out⟩
  have hN : na + np ≤ 1048576 := by omega
  clear hbig
  have HSZ := Lib.hid (fun W => szVp_ok st mk A na ca P np cp W hN)
  have HT := Lib.hid (fun W (h : Below w.heap.size w W) => toV (W := W) st mk A na ca zs P np cp bs hr hl hp hpl hN h)
  have HG := Lib.hid hg
  have HTB := Lib.hid (fun W (h : Below w.heap.size w W) => tabs_below hT h)
  clear hr hl hp hpl hg hT
  have hlf : 0 ≤ 1048576 - (na : Int) - (np : Int) := by omega
  obtain ⟨ok, hok⟩ : ∃ b, b = okVp st mk zs bs := ⟨_, rfl⟩
  have HOK := Lib.hid hok.symm
  clear hok
  have hne : (ok != ok) = false := by simp
  go_enter Tryd.func4, Tryd.ntmps4
  go_wp2_with fail
  refine (HSZ.out _).mono ?_
  rintro e v1 ⟨rfl, hx1⟩
  have HB1 := Lib.hid (hb0.out.trans (hx1.mono (by simp <;> omega)))
  have z1 : w.heap.size ≤ v1.heap.size := HB1.out.size
  have XXa := Lib.hid (BoxK.below X0a.out hx1 (by simp <;> omega))
  have s1a : w.heap.size < v1.heap.size := by have := hx1.size; simp at this; omega
  have t1a := s1a
  clear hx1 hb0 X0a HSZ
  have aq0 := XXa.out 0 _ rfl
  have aq1 := XXa.out 1 _ rfl
  have aq2 := XXa.out 2 _ rfl
  have aq3 := XXa.out 3 _ rfl
  have HPB := HB1
  go_wp2_with fail
  refine (HT.out _ HPB.out).mono ?_
  rintro e v2 ⟨F2, d2, G2, c2, rfl, ho2, hx2⟩
  clear aq0 aq1 aq2 aq3
  have HO2 := Lib.hid ho2
  clear ho2
  have hst2 : Below v1.heap.size v1 v2 := hx2
  have HB2 := Lib.hid (HB1.out.trans (hst2.mono z1))
  clear HB1
  have z2 : w.heap.size ≤ v2.heap.size := HB2.out.size
  clear z1
  have ch2 : v1.heap.size ≤ v2.heap.size := hst2.size
  have XXa_2 := Lib.hid (BoxK.below XXa.out hst2 s1a)
  clear XXa
  have s2a : w.heap.size < v2.heap.size := Nat.lt_of_lt_of_le s1a hst2.size
  clear s1a
  clear hx2 hst2
  have HP0 := HO2
  go_wp2_with fail
  refine (spec_VpOk_own st mk HP0.out HG.out hN).mono ?_
  rintro e v3 ⟨rfl, hx3⟩
  have hst3 : Below v2.heap.size v2 v3 := hx3
  have HO2_3 := Lib.hid (HO2.out.below (Nat.le_refl _) hst3)
  clear HO2
  have HB3 := Lib.hid (HB2.out.trans (hst3.mono z2))
  clear HB2
  have z3 : w.heap.size ≤ v3.heap.size := HB3.out.size
  clear z2
  have ch3 : v2.heap.size ≤ v3.heap.size := hst3.size
  have XXa_2_3 := Lib.hid (BoxK.below XXa_2.out hst3 s2a)
  clear XXa_2
  have s3a : w.heap.size < v3.heap.size := Nat.lt_of_lt_of_le s2a hst3.size
  clear s2a
  clear hx3 hst3
  rw [HOK.out]
  clear HO2_3
  have aq0 := XXa_2_3.out 0 _ rfl
  have aq1 := XXa_2_3.out 1 _ rfl
  have aq2 := XXa_2_3.out 2 _ rfl
  have aq3 := XXa_2_3.out 3 _ rfl
  have HPB := HB3
  go_wp2_with fail
  refine (HT.out _ HPB.out).mono ?_
  rintro e v4 ⟨F4, d4, G4, c4, rfl, ho4, hx4⟩
  clear aq0 aq1 aq2 aq3
  have HO4 := Lib.hid ho4
  clear ho4
  have hst4 : Below v3.heap.size v3 v4 := hx4
  have HB4 := Lib.hid (HB3.out.trans (hst4.mono z3))
  clear HB3
  have z4 : w.heap.size ≤ v4.heap.size := HB4.out.size
  clear z3
  have ch4 : v3.heap.size ≤ v4.heap.size := hst4.size
  have XXa_2_3_4 := Lib.hid (BoxK.below XXa_2_3.out hst4 s3a)
  clear XXa_2_3
  have s4a : w.heap.size < v4.heap.size := Nat.lt_of_lt_of_le s3a hst4.size
  clear s3a
  clear hx4 hst4
  have HAL := Lib.hid ((Below.refl v4.heap.size v4).alloc (Nat.le_refl _) (.cells #[.int .i64 st, .bool mk, .slice F4 na d4, .slice G4 np c4] 26))
  have HP0 := Lib.hid (HO4.out.below (Nat.le_refl _) HAL.out)
  have HPB := Lib.hid (HB4.out.trans (HAL.out.mono z4))
  go_wp2_with fail
  refine (impl_VpOk_own st mk HP0.out (HTB.out _ HPB.out) HG.out hN).mono ?_
  rintro e v5 ⟨rfl, hx5⟩
  clear HP0
  clear HPB
  have hst5 : Below v4.heap.size v4 v5 := HAL.out.trans (hx5.mono (by simp))
  have HO4_5 := Lib.hid (HO4.out.below (Nat.le_refl _) hst5)
  clear HO4
  have HB5 := Lib.hid (HB4.out.trans (hst5.mono z4))
  clear HB4
  have z5 : w.heap.size ≤ v5.heap.size := HB5.out.size
  clear z4
  have ch5 : v4.heap.size ≤ v5.heap.size := hst5.size
  have XXa_2_3_4_5 := Lib.hid (BoxK.below XXa_2_3_4.out hst5 s4a)
  clear XXa_2_3_4
  have s5a : w.heap.size < v5.heap.size := Nat.lt_of_lt_of_le s4a hst5.size
  clear s4a
  have Xbx := Lib.hid (BoxK.below (BoxK.new v4 [.int .i64 st, .bool mk, .slice F4 na d4, .slice G4 np c4] 26) hx5 (by simp))
  have s5bx : v4.heap.size < v5.heap.size := by have := hx5.size; simp at this; omega
  have tbx := s5bx
  clear HAL
  clear hx5 hst5
  rw [HOK.out]
  have aq0 := XXa_2_3_4_5.out 0 _ rfl
  have aq1 := XXa_2_3_4_5.out 1 _ rfl
  have aq2 := XXa_2_3_4_5.out 2 _ rfl
  have aq3 := XXa_2_3_4_5.out 3 _ rfl
  have bxq0 := Xbx.out 0 _ rfl
  have bxq1 := Xbx.out 1 _ rfl
  have bxq2 := Xbx.out 2 _ rfl
  have bxq3 := Xbx.out 3 _ rfl
  go_upto_region 10 with fail
  go_cut [26] (fun s wx => s = .bool false ∧ Below v5.heap.size v5 wx)
  case first =>
    go_region_with (first
      | (go_at_call 16; refine (HT.out _ ?_).mono ?_; exact ⟨HB5.out.os, HB5.out.tape, HB5.out.output, HB5.out.size, HB5.out.block⟩; rintro e y1 ⟨Fy, dy, Gy, cy, rfl, hoy, hxy'⟩; have hxy : Below v5.heap.size v5 y1 := undrew hxy'; clear hxy'; have HOY := Lib.hid hoy; have HPY := Lib.hid (HO4_5.out.below (Nat.le_refl _) hxy); obtain ⟨r0, r1, r2, r3⟩ : y1.cell? ⟨v4.heap.size, 0, none⟩ = some (.int .i64 st) ∧ y1.cell? ⟨v4.heap.size, 1, none⟩ = some (.bool mk) ∧ y1.cell? ⟨v4.heap.size, 2, none⟩ = some (.slice F4 na d4) ∧ y1.cell? ⟨v4.heap.size, 3, none⟩ = some (.slice G4 np c4) := ⟨BoxK.below Xbx.out hxy s5bx 0 _ rfl, BoxK.below Xbx.out hxy s5bx 1 _ rfl, BoxK.below Xbx.out hxy s5bx 2 _ rfl, BoxK.below Xbx.out hxy s5bx 3 _ rfl⟩; have HXY := Lib.hid hxy; have zy := hxy.size; clear hoy hxy)
      | (go_at_call 17; refine (eqV st mk HPY.out HOY.out hN).mono ?_; rintro e y2 ⟨rfl, hxz⟩))
    all_goals
      have HE := Lib.hid (HXY.out.trans (hxz.mono zy))
      clear hxz
      go_wp2_with fail
      go_meet
      case rel => exact ⟨rfl, HE.out⟩
  case rest =>
    obtain ⟨rfl, hx⟩ := hcut
    clear aq0 aq1 aq2 aq3
    clear bxq0 bxq1 bxq2 bxq3
    have HO4_5_6 := Lib.hid (HO4_5.out.below (Nat.le_refl _) hx)
    clear HO4_5
    have HB6 := Lib.hid (HB5.out.trans (hx.mono z5))
    clear HB5
    have z6 : w.heap.size ≤ wc.heap.size := HB6.out.size
    clear z5
    have ch6 : v5.heap.size ≤ wc.heap.size := hx.size
    have XXa_2_3_4_5_6 := Lib.hid (BoxK.below XXa_2_3_4_5.out hx s5a)
    clear XXa_2_3_4_5
    have s6a : w.heap.size < wc.heap.size := Nat.lt_of_lt_of_le s5a hx.size
    clear s5a
    have Xbx_6 := Lib.hid (BoxK.below Xbx.out hx s5bx)
    clear Xbx
    have s6bx : v4.heap.size < wc.heap.size := Nat.lt_of_lt_of_le s5bx hx.size
    clear s5bx
    clear hx
    go_wp2_with fail
    go_ret
    exact ⟨rfl, HB6.out⟩
end Go.Proofs.YtgdjbpgfplcjpaaDoor.VpOkL
