/- FnExactVpBytes: the walk of the law from the contracts of the program, of its model and of the laws' helpers; at every input, under the row's own condition on the listed variables. -/
import Derived.Test.YtfdbmhelcmifoaaDoorVbX
import Derived.Deep.RegionWith
import Derived.Deep.Cut
import Derived.Deep.CutRange
import Derived.Deep.DeepCutAuto
import Derived.Deep.DrawnRows
namespace Go.Proofs.YtfdbmhelcmifoaaDoor.VpBytesL
open Go.RowKit Go.Proofs.YtfdbmhelcmifoaaDoor.Bytes Go.Proofs.YtfdbmhelcmifoaaDoor.DOk Go.Proofs.YtfdbmhelcmifoaaDoor.Rune Go.Proofs.YtfdbmhelcmifoaaDoor.RowK Go.Proofs.YtfdbmhelcmifoaaDoor.Gr Go.Proofs.YtfdbmhelcmifoaaDoor.Vp
set_option linter.unusedVariables false
attribute [local go_sem ↓] Go.wp_at_zero Go.wp_at_succ
set_option maxRecDepth 100000 in
set_option maxHeartbeats 16000000 in
theorem walk (st : Int) (mk : Bool) (A : Option Addr) (na ca : Nat) (zs : List Int) (P : Option Addr) (np cp : Nat) (bs : List Int) (Y : Option Addr) (ny cy : Nat) (y0 : List Int) (w : World) (hr : RdI w w.heap.size A zs) (hl : zs.length = na) (hn : na ≤ 9223372036854775807) (hp : Rd w w.heap.size P bs) (hpl : bs.length = np) (hpn : np ≤ 9223372036854775807) (hg : Rng bs) (wy : IsRow .u8 w Y ny cy y0) (hT : Dec.Tabs8 w) :
    Calls Tryd.prog 5 #[.agg #[.int .i64 st, .bool mk, .slice A na ca, .slice P np cp], .slice Y ny cy] w fun e w' => e = .returned (.bool true) ∧ Below w.heap.size w w' := by
  have HB0 := Lib.hid (Below.refl w.heap.size w)
  have z0 : w.heap.size ≤ w.heap.size := Nat.le_refl _
  have hym : ny ≤ 9223372036854775807 := by
    rcases wy with ⟨_, rfl, _, _⟩ | ⟨a, _, h1, h2, h3, _⟩
    · omega
    · unfold maxLen at h2; omega
  obtain ⟨hy, hyl, _, hyr⟩ := wy.open_
  clear wy
  generalize y0.take ny = ys at *
  have hb0 := Lib.hid ((Below.refl w.heap.size w).alloc (Nat.le_refl _) (.cells #[.int .i64 st, .bool mk, .slice A na ca, .slice P np cp] 25))
  by_cases hbig0 : 1048576 < ny
  · have hbi : (1048576 : Int) < (ny : Int) := by omega
    clear hr hl hp hpl hg hT hy hyl hyr
    go_enter Tryd.func5, Tryd.ntmps5
    go_wp2_with fail
    go_ret
    exact ⟨rfl, hb0.out⟩
  have hny : ny ≤ 1048576 := by omega
  have hnyi : ¬ (1048576 : Int) < (ny : Int) := by omega
  clear hbig0 hym
  by_cases hbig : ¬ na + np ≤ 1048576
  · have HSZ := Lib.hid (fun W => szVp_big st mk A na ca P np cp W hn hpn hbig)
    clear hr hl hp hpl hg hT hy hyl hyr
    go_enter Tryd.func5, Tryd.ntmps5
    go_wp2_with fail
    refine (HSZ.out _).mono ?_
    rintro e v1 ⟨rfl, hx1⟩
    have HB1 := Lib.hid (hb0.out.trans (hx1.mono (by simp <;> omega)))
    clear hx1
    go_wp2_with fail
    go_ret
    exact ⟨rfl, HB1.out⟩
  have hN : na + np ≤ 1048576 := by omega
  clear hbig hb0
  have HSZ := Lib.hid (fun W => szVp_ok st mk A na ca P np cp W hN)
  have HT := Lib.hid (fun W (h : Below w.heap.size w W) => toV (W := W) st mk A na ca zs P np cp bs hr hl hp hpl hN h)
  have HTB := Lib.hid (fun W (h : Below w.heap.size w W) => tabs_below hT h)
  have HTY := Lib.hid (fun W (h : Below w.heap.size w W) => toByteS_any Y ny cy ys W ((hy.below (Nat.le_refl _) h).more h.size) hyl (by omega))
  obtain ⟨s1, s2, s3, s4, as_, n1, n2, n3, ⟨hn1, hn2, hn3, hn4⟩, hsp, him⟩ := vb_letters st mk na zs np bs ny ys hg hN hyl hny hyr
  have HSP := Lib.hid hsp
  have HIM := Lib.hid him
  have H8 := Lib.hid hn4
  clear hr hl hp hpl hg hT hsp him hy hyl hyr hn4
  have hlf : 0 ≤ 1048576 - (na : Int) - (np : Int) := by omega
  have hk0 : 0 ≤ 1 + (na : Int) + np := by omega
  have hk1 : 0 ≤ 1 + (na : Int) + np + ny := by omega
  have hm1 : 0 ≤ 1 + (n1 : Int) + n2 := by omega
  go_enter Tryd.func5, Tryd.ntmps5
  have HX := Lib.hid (show Below w.heap.size w (w.alloc (.cells #[.int .i64 st, .bool mk, .slice A na ca, .slice P np cp] 25)) from (Below.refl w.heap.size w).alloc (Nat.le_refl _) _)
  have PBa := Lib.hid (show BoxK (w.alloc (.cells #[.int .i64 st, .bool mk, .slice A na ca, .slice P np cp] 25)) (w.heap.size) [.int .i64 st, .bool mk, .slice A na ca, .slice P np cp] from by have h := BoxK.new w [.int .i64 st, .bool mk, .slice A na ca, .slice P np cp] 25; (try simp only [World.size_alloc] at h); exact h)
  have HBX := Lib.hid (HB0.out.trans (HX.out.mono z0))
  go_wp2_with fail
  refine (HSZ.out _).mono ?_
  rintro e v1 ⟨rfl, hx⟩
  have hst : Below w.heap.size w v1 := HX.out.trans (hx.mono HX.out.size)
  have lta_1 : w.heap.size < v1.heap.size := by have h1 := hx.size; simp at h1; omega
  have boa := lta_1
  have Fa_1 := Lib.hid (BoxK.below PBa.out hx (by simp; try omega))
  clear PBa
  have HB1 := Lib.hid (HB0.out.trans (hst.mono z0))
  have z1 : w.heap.size ≤ v1.heap.size := HB1.out.size
  have ch1 : w.heap.size ≤ v1.heap.size := hst.size
  clear HB0 HBX hst
  clear HSZ hx HX
  have HX := Lib.hid (show Below v1.heap.size v1 v1 from Below.refl v1.heap.size v1)
  have HBX := Lib.hid (HB1.out.trans (HX.out.mono z1))
  have aq0 : v1.cell? ⟨w.heap.size, 0, none⟩ = some (.int .i64 st) := Fa_1.out 0 _ rfl
  have aq1 : v1.cell? ⟨w.heap.size, 1, none⟩ = some (.bool mk) := Fa_1.out 1 _ rfl
  have aq2 : v1.cell? ⟨w.heap.size, 2, none⟩ = some (.slice A na ca) := Fa_1.out 2 _ rfl
  have aq3 : v1.cell? ⟨w.heap.size, 3, none⟩ = some (.slice P np cp) := Fa_1.out 3 _ rfl
  go_wp2_with fail
  refine (HT.out _ HBX.out).mono ?_
  rintro e v2 ⟨F2, d2, G2, c2, rfl, ho, hx⟩
  clear aq0 aq1 aq2 aq3
  have hst : Below v1.heap.size v1 v2 := HX.out.trans (hx.mono HX.out.size)
  have Fa_2 := Lib.hid (BoxK.below Fa_1.out hst lta_1)
  have lta_2 : w.heap.size < v2.heap.size := Nat.lt_of_lt_of_le lta_1 hst.size
  clear Fa_1 lta_1
  have HB2 := Lib.hid (HB1.out.trans (hst.mono z1))
  have z2 : w.heap.size ≤ v2.heap.size := HB2.out.size
  have ch2 : v1.heap.size ≤ v2.heap.size := hst.size
  clear HB1 HBX hst
  have ho1 := ho.i
  have ho2 := ho.b
  clear ho
  have EcI_2 := Lib.hid (show OwnI v2 (v1.heap.size) F2 na d2 zs from by have h := ho1; first | exact h | (simp only [World.size_alloc] at h; exact h))
  have LcI := Lib.hid (show ∀ i, Blk F2 na d2 i → v1.heap.size ≤ i ∧ i < v2.heap.size from fun i hi => EcI_2.out.blk i hi)
  clear ho1
  have EcB_2 := Lib.hid (show Own v2 (v1.heap.size) G2 np c2 bs from by have h := ho2; first | exact h | (simp only [World.size_alloc] at h; exact h))
  have LcB := Lib.hid (show ∀ i, Blk G2 np c2 i → v1.heap.size ≤ i ∧ i < v2.heap.size from fun i hi => EcB_2.out.blk i hi)
  clear ho2
  clear hx HX
  have HX := Lib.hid (show Below v2.heap.size v2 v2 from Below.refl v2.heap.size v2)
  have HBX := Lib.hid (HB2.out.trans (HX.out.mono z2))
  go_wp2_with fail
  refine (HTY.out _ HBX.out).mono ?_
  rintro e v3 ⟨F3, d3, rfl, ho1, hx⟩
  have hst : Below v2.heap.size v2 v3 := HX.out.trans (hx.mono HX.out.size)
  have Fa_3 := Lib.hid (BoxK.below Fa_2.out hst lta_2)
  have lta_3 : w.heap.size < v3.heap.size := Nat.lt_of_lt_of_le lta_2 hst.size
  clear Fa_2 lta_2
  have EcI_3 := Lib.hid (EcI_2.out.below (Nat.le_refl _) hst)
  clear EcI_2
  have EcB_3 := Lib.hid (EcB_2.out.below (Nat.le_refl _) hst)
  clear EcB_2
  have HB3 := Lib.hid (HB2.out.trans (hst.mono z2))
  have z3 : w.heap.size ≤ v3.heap.size := HB3.out.size
  have ch3 : v2.heap.size ≤ v3.heap.size := hst.size
  clear HB2 HBX hst
  have Ecy_3 := Lib.hid (show Own v3 (v2.heap.size) F3 ny d3 ys from by have h := ho1; first | exact h | (simp only [World.size_alloc] at h; exact h))
  have Lcy := Lib.hid (show ∀ i, Blk F3 ny d3 i → v2.heap.size ≤ i ∧ i < v3.heap.size from fun i hi => Ecy_3.out.blk i hi)
  clear ho1
  clear hx HX
  have HX := Lib.hid (show Below v3.heap.size v3 v3 from Below.refl v3.heap.size v3)
  have NcI := Lib.hid (EcI_3.out.below (Nat.le_refl _) HX.out)
  have NcB := Lib.hid (EcB_3.out.below (Nat.le_refl _) HX.out)
  have Ncy := Lib.hid (Ecy_3.out.below (Nat.le_refl _) HX.out)
  have HBX := Lib.hid (HB3.out.trans (HX.out.mono z3))
  go_wp2_with fail
  refine (HSP.out _ _ _ _ _ _ _ _ _ ⟨NcI.out, NcB.out⟩ Ncy.out).mono ?_
  rintro e v4 ⟨F4, d4, G4, c4, A4, e4, ds4, rfl, ho1, ho2, ho3, ho4, hma, hap, hx⟩
  have hst : Below v3.heap.size v3 v4 := HX.out.trans (hx.mono HX.out.size)
  have Fa_4 := Lib.hid (BoxK.below Fa_3.out hst lta_3)
  have lta_4 : w.heap.size < v4.heap.size := Nat.lt_of_lt_of_le lta_3 hst.size
  clear Fa_3 lta_3
  have EcI_4 := Lib.hid (EcI_3.out.below (Nat.le_refl _) hst)
  clear EcI_3
  have EcB_4 := Lib.hid (EcB_3.out.below (Nat.le_refl _) hst)
  clear EcB_3
  have Ecy_4 := Lib.hid (Ecy_3.out.below (Nat.le_refl _) hst)
  clear Ecy_3
  have HB4 := Lib.hid (HB3.out.trans (hst.mono z3))
  have z4 : w.heap.size ≤ v4.heap.size := HB4.out.size
  have ch4 : v3.heap.size ≤ v4.heap.size := hst.size
  clear HB3 HBX hst NcI NcB Ncy
  have APw := Lib.hid hap
  have MAw := Lib.hid hma
  have N8w := Lib.hid (acts_n ho4 hma H8.out)
  clear hap hma
  have EwI_4 := Lib.hid (show OwnI v4 (v3.heap.size) F4 n1 d4 s3 from by have h := ho1; first | exact h | (simp only [World.size_alloc] at h; exact h))
  have LwI := Lib.hid (show ∀ i, Blk F4 n1 d4 i → v3.heap.size ≤ i ∧ i < v4.heap.size from fun i hi => EwI_4.out.blk i hi)
  clear ho1
  have EwB_4 := Lib.hid (show Own v4 (v3.heap.size) G4 n2 c4 s4 from by have h := ho2; first | exact h | (simp only [World.size_alloc] at h; exact h))
  have LwB := Lib.hid (show ∀ i, Blk G4 n2 c4 i → v3.heap.size ≤ i ∧ i < v4.heap.size from fun i hi => EwB_4.out.blk i hi)
  clear ho2
  have EwF_4 := Lib.hid (show OwnF4 v4 (v3.heap.size) A4 n3 e4 ds4 from by have h := ho3; first | exact h | (simp only [World.size_alloc] at h; exact h))
  have LwF := Lib.hid (show ∀ i, Blk A4 n3 e4 i → v3.heap.size ≤ i ∧ i < v4.heap.size from blkF_lt EwF_4.out)
  clear ho3
  have EwS_4 := Lib.hid (show OwnAs v4 (v3.heap.size) ds4 from by have h := ho4; first | exact h | (simp only [World.size_alloc] at h; exact h))
  have LwS := Lib.hid (show ∀ i, BlkAs ds4 i → v3.heap.size ≤ i ∧ i < v4.heap.size from blkAs_lt EwS_4.out)
  clear ho4
  clear hx HX
  clear EcI_4 LcI
  clear EcB_4 LcB
  clear Ecy_4 Lcy
  have HX := Lib.hid (show Below v4.heap.size v4 (v4.alloc (.cells #[.int .i64 s1, .bool s2, .slice F4 n1 d4, .slice G4 n2 c4] 38)) from (Below.refl v4.heap.size v4).alloc (Nat.le_refl _) _)
  have PBwv := Lib.hid (show BoxK (v4.alloc (.cells #[.int .i64 s1, .bool s2, .slice F4 n1 d4, .slice G4 n2 c4] 38)) (v4.heap.size) [.int .i64 s1, .bool s2, .slice F4 n1 d4, .slice G4 n2 c4] from by have h := BoxK.new v4 [.int .i64 s1, .bool s2, .slice F4 n1 d4, .slice G4 n2 c4] 38; (try simp only [World.size_alloc] at h); exact h)
  have HBX := Lib.hid (HB4.out.trans (HX.out.mono z4))
  have aq0 : v4.cell? ⟨w.heap.size, 0, none⟩ = some (.int .i64 st) := Fa_4.out 0 _ rfl
  have aq1 : v4.cell? ⟨w.heap.size, 1, none⟩ = some (.bool mk) := Fa_4.out 1 _ rfl
  have aq2 : v4.cell? ⟨w.heap.size, 2, none⟩ = some (.slice A na ca) := Fa_4.out 2 _ rfl
  have aq3 : v4.cell? ⟨w.heap.size, 3, none⟩ = some (.slice P np cp) := Fa_4.out 3 _ rfl
  go_wp2_with fail
  refine (HT.out _ HBX.out).mono ?_
  rintro e v5 ⟨F5, d5, G5, c5, rfl, ho, hx⟩
  clear aq0 aq1 aq2 aq3
  have hst : Below v4.heap.size v4 v5 := HX.out.trans (hx.mono HX.out.size)
  have Fa_5 := Lib.hid (BoxK.below Fa_4.out hst lta_4)
  have lta_5 : w.heap.size < v5.heap.size := Nat.lt_of_lt_of_le lta_4 hst.size
  clear Fa_4 lta_4
  have ltwv_5 : v4.heap.size < v5.heap.size := by have h1 := hx.size; simp at h1; omega
  have bowv := ltwv_5
  have Fwv_5 := Lib.hid (BoxK.below PBwv.out hx (by simp; try omega))
  clear PBwv
  have EwI_5 := Lib.hid (EwI_4.out.below (Nat.le_refl _) hst)
  clear EwI_4
  have EwB_5 := Lib.hid (EwB_4.out.below (Nat.le_refl _) hst)
  clear EwB_4
  have EwF_5 := Lib.hid (EwF_4.out.below (Nat.le_refl _) hst)
  clear EwF_4
  have EwS_5 := Lib.hid (EwS_4.out.below (Nat.le_refl _) hst)
  clear EwS_4
  have HB5 := Lib.hid (HB4.out.trans (hst.mono z4))
  have z5 : w.heap.size ≤ v5.heap.size := HB5.out.size
  have ch5 : v4.heap.size ≤ v5.heap.size := hst.size
  clear HB4 HBX hst
  have ho1 := ho.i
  have ho2 := ho.b
  clear ho
  have ExI_5 := Lib.hid (show OwnI v5 (v4.heap.size + 1) F5 na d5 zs from by have h := ho1; first | exact h | (simp only [World.size_alloc] at h; exact h))
  have LxI := Lib.hid (show ∀ i, Blk F5 na d5 i → v4.heap.size + 1 ≤ i ∧ i < v5.heap.size from fun i hi => ExI_5.out.blk i hi)
  clear ho1
  have ExB_5 := Lib.hid (show Own v5 (v4.heap.size + 1) G5 np c5 bs from by have h := ho2; first | exact h | (simp only [World.size_alloc] at h; exact h))
  have LxB := Lib.hid (show ∀ i, Blk G5 np c5 i → v4.heap.size + 1 ≤ i ∧ i < v5.heap.size from fun i hi => ExB_5.out.blk i hi)
  clear ho2
  clear hx HX
  have HX := Lib.hid (show Below v5.heap.size v5 (v5.alloc (.cells #[.int .i64 st, .bool mk, .slice F5 na d5, .slice G5 np c5] 38)) from (Below.refl v5.heap.size v5).alloc (Nat.le_refl _) _)
  have PBxv := Lib.hid (show BoxK (v5.alloc (.cells #[.int .i64 st, .bool mk, .slice F5 na d5, .slice G5 np c5] 38)) (v5.heap.size) [.int .i64 st, .bool mk, .slice F5 na d5, .slice G5 np c5] from by have h := BoxK.new v5 [.int .i64 st, .bool mk, .slice F5 na d5, .slice G5 np c5] 38; (try simp only [World.size_alloc] at h); exact h)
  have HBX := Lib.hid (HB5.out.trans (HX.out.mono z5))
  go_wp2_with fail
  refine (HTY.out _ HBX.out).mono ?_
  rintro e v6 ⟨F6, d6, rfl, ho1, hx⟩
  have hst : Below v5.heap.size v5 v6 := HX.out.trans (hx.mono HX.out.size)
  have Fa_6 := Lib.hid (BoxK.below Fa_5.out hst lta_5)
  have lta_6 : w.heap.size < v6.heap.size := Nat.lt_of_lt_of_le lta_5 hst.size
  clear Fa_5 lta_5
  have Fwv_6 := Lib.hid (BoxK.below Fwv_5.out hst ltwv_5)
  have ltwv_6 : v4.heap.size < v6.heap.size := Nat.lt_of_lt_of_le ltwv_5 hst.size
  clear Fwv_5 ltwv_5
  have ltxv_6 : v5.heap.size < v6.heap.size := by have h1 := hx.size; simp at h1; omega
  have boxv := ltxv_6
  have Fxv_6 := Lib.hid (BoxK.below PBxv.out hx (by simp; try omega))
  clear PBxv
  have EwI_6 := Lib.hid (EwI_5.out.below (Nat.le_refl _) hst)
  clear EwI_5
  have EwB_6 := Lib.hid (EwB_5.out.below (Nat.le_refl _) hst)
  clear EwB_5
  have EwF_6 := Lib.hid (EwF_5.out.below (Nat.le_refl _) hst)
  clear EwF_5
  have EwS_6 := Lib.hid (EwS_5.out.below (Nat.le_refl _) hst)
  clear EwS_5
  have ExI_6 := Lib.hid (ExI_5.out.below (Nat.le_refl _) hst)
  clear ExI_5
  have ExB_6 := Lib.hid (ExB_5.out.below (Nat.le_refl _) hst)
  clear ExB_5
  have HB6 := Lib.hid (HB5.out.trans (hst.mono z5))
  have z6 : w.heap.size ≤ v6.heap.size := HB6.out.size
  have ch6 : v5.heap.size ≤ v6.heap.size := hst.size
  clear HB5 HBX hst
  have Exy_6 := Lib.hid (show Own v6 (v5.heap.size + 1) F6 ny d6 ys from by have h := ho1; first | exact h | (simp only [World.size_alloc] at h; exact h))
  have Lxy := Lib.hid (show ∀ i, Blk F6 ny d6 i → v5.heap.size + 1 ≤ i ∧ i < v6.heap.size from fun i hi => Exy_6.out.blk i hi)
  clear ho1
  clear hx HX
  have HX := Lib.hid (show Below v6.heap.size v6 v6 from Below.refl v6.heap.size v6)
  have NxI := Lib.hid (ExI_6.out.below (Nat.le_refl _) HX.out)
  have NxB := Lib.hid (ExB_6.out.below (Nat.le_refl _) HX.out)
  have Nxy := Lib.hid (Exy_6.out.below (Nat.le_refl _) HX.out)
  have HBX := Lib.hid (HB6.out.trans (HX.out.mono z6))
  have xvq0 : v6.cell? ⟨v5.heap.size, 0, none⟩ = some (.int .i64 st) := Fxv_6.out 0 _ rfl
  have xvq1 : v6.cell? ⟨v5.heap.size, 1, none⟩ = some (.bool mk) := Fxv_6.out 1 _ rfl
  have xvq2 : v6.cell? ⟨v5.heap.size, 2, none⟩ = some (.slice F5 na d5) := Fxv_6.out 2 _ rfl
  have xvq3 : v6.cell? ⟨v5.heap.size, 3, none⟩ = some (.slice G5 np c5) := Fxv_6.out 3 _ rfl
  go_wp2_with fail
  refine (HIM.out _ _ _ _ _ _ _ _ _ (HTB.out _ HBX.out) ⟨NxI.out, NxB.out⟩ Nxy.out).mono ?_
  rintro e v7 ⟨F7, d7, G7, c7, A7, e7, ds7, rfl, ho1, ho2, ho3, ho4, hma, hap, hx⟩
  clear xvq0 xvq1 xvq2 xvq3
  have hst : Below v6.heap.size v6 v7 := HX.out.trans (hx.mono HX.out.size)
  have Fa_7 := Lib.hid (BoxK.below Fa_6.out hst lta_6)
  have lta_7 : w.heap.size < v7.heap.size := Nat.lt_of_lt_of_le lta_6 hst.size
  clear Fa_6 lta_6
  have Fwv_7 := Lib.hid (BoxK.below Fwv_6.out hst ltwv_6)
  have ltwv_7 : v4.heap.size < v7.heap.size := Nat.lt_of_lt_of_le ltwv_6 hst.size
  clear Fwv_6 ltwv_6
  have Fxv_7 := Lib.hid (BoxK.below Fxv_6.out hst ltxv_6)
  have ltxv_7 : v5.heap.size < v7.heap.size := Nat.lt_of_lt_of_le ltxv_6 hst.size
  clear Fxv_6 ltxv_6
  have EwI_7 := Lib.hid (EwI_6.out.below (Nat.le_refl _) hst)
  clear EwI_6
  have EwB_7 := Lib.hid (EwB_6.out.below (Nat.le_refl _) hst)
  clear EwB_6
  have EwF_7 := Lib.hid (EwF_6.out.below (Nat.le_refl _) hst)
  clear EwF_6
  have EwS_7 := Lib.hid (EwS_6.out.below (Nat.le_refl _) hst)
  clear EwS_6
  have ExI_7 := Lib.hid (ExI_6.out.below (Nat.le_refl _) hst)
  clear ExI_6
  have ExB_7 := Lib.hid (ExB_6.out.below (Nat.le_refl _) hst)
  clear ExB_6
  have Exy_7 := Lib.hid (Exy_6.out.below (Nat.le_refl _) hst)
  clear Exy_6
  have HB7 := Lib.hid (HB6.out.trans (hst.mono z6))
  have z7 : w.heap.size ≤ v7.heap.size := HB7.out.size
  have ch7 : v6.heap.size ≤ v7.heap.size := hst.size
  clear HB6 HBX hst NxI NxB Nxy
  have APg := Lib.hid hap
  have MAg := Lib.hid hma
  have N8g := Lib.hid (acts_n ho4 hma H8.out)
  clear hap hma
  have EgI_7 := Lib.hid (show OwnI v7 (v6.heap.size) F7 n1 d7 s3 from by have h := ho1; first | exact h | (simp only [World.size_alloc] at h; exact h))
  have LgI := Lib.hid (show ∀ i, Blk F7 n1 d7 i → v6.heap.size ≤ i ∧ i < v7.heap.size from fun i hi => EgI_7.out.blk i hi)
  clear ho1
  have EgB_7 := Lib.hid (show Own v7 (v6.heap.size) G7 n2 c7 s4 from by have h := ho2; first | exact h | (simp only [World.size_alloc] at h; exact h))
  have LgB := Lib.hid (show ∀ i, Blk G7 n2 c7 i → v6.heap.size ≤ i ∧ i < v7.heap.size from fun i hi => EgB_7.out.blk i hi)
  clear ho2
  have EgF_7 := Lib.hid (show OwnF4 v7 (v6.heap.size) A7 n3 e7 ds7 from by have h := ho3; first | exact h | (simp only [World.size_alloc] at h; exact h))
  have LgF := Lib.hid (show ∀ i, Blk A7 n3 e7 i → v6.heap.size ≤ i ∧ i < v7.heap.size from blkF_lt EgF_7.out)
  clear ho3
  have EgS_7 := Lib.hid (show OwnAs v7 (v6.heap.size) ds7 from by have h := ho4; first | exact h | (simp only [World.size_alloc] at h; exact h))
  have LgS := Lib.hid (show ∀ i, BlkAs ds7 i → v6.heap.size ≤ i ∧ i < v7.heap.size from blkAs_lt EgS_7.out)
  clear ho4
  clear hx HX
  have HX := Lib.hid (show Below v7.heap.size v7 (v7.alloc (.cells #[.int .i64 s1, .bool s2, .slice F7 n1 d7, .slice G7 n2 c7] 38)) from (Below.refl v7.heap.size v7).alloc (Nat.le_refl _) _)
  have PBgv := Lib.hid (show BoxK (v7.alloc (.cells #[.int .i64 s1, .bool s2, .slice F7 n1 d7, .slice G7 n2 c7] 38)) (v7.heap.size) [.int .i64 s1, .bool s2, .slice F7 n1 d7, .slice G7 n2 c7] from by have h := BoxK.new v7 [.int .i64 s1, .bool s2, .slice F7 n1 d7, .slice G7 n2 c7] 38; (try simp only [World.size_alloc] at h); exact h)
  have NgI := Lib.hid (EgI_7.out.below (Nat.le_refl _) HX.out)
  have NgB := Lib.hid (EgB_7.out.below (Nat.le_refl _) HX.out)
  have NwI := Lib.hid (EwI_7.out.below (Nat.le_refl _) HX.out)
  have NwB := Lib.hid (EwB_7.out.below (Nat.le_refl _) HX.out)
  have HBX := Lib.hid (HB7.out.trans (HX.out.mono z7))
  have wvq0 : v7.cell? ⟨v4.heap.size, 0, none⟩ = some (.int .i64 s1) := Fwv_7.out 0 _ rfl
  have wvq1 : v7.cell? ⟨v4.heap.size, 1, none⟩ = some (.bool s2) := Fwv_7.out 1 _ rfl
  have wvq2 : v7.cell? ⟨v4.heap.size, 2, none⟩ = some (.slice F4 n1 d4) := Fwv_7.out 2 _ rfl
  have wvq3 : v7.cell? ⟨v4.heap.size, 3, none⟩ = some (.slice G4 n2 c4) := Fwv_7.out 3 _ rfl
  go_wp2_with fail
  refine (eqV s1 s2 ⟨NgI.out, NgB.out⟩ ⟨NwI.out, NwB.out⟩ (by omega)).mono ?_
  rintro e v8 ⟨rfl, hx⟩
  clear wvq0 wvq1 wvq2 wvq3
  have hst : Below v7.heap.size v7 v8 := HX.out.trans (hx.mono HX.out.size)
  have Fa_8 := Lib.hid (BoxK.below Fa_7.out hst lta_7)
  have lta_8 : w.heap.size < v8.heap.size := Nat.lt_of_lt_of_le lta_7 hst.size
  clear Fa_7 lta_7
  have Fwv_8 := Lib.hid (BoxK.below Fwv_7.out hst ltwv_7)
  have ltwv_8 : v4.heap.size < v8.heap.size := Nat.lt_of_lt_of_le ltwv_7 hst.size
  clear Fwv_7 ltwv_7
  have Fxv_8 := Lib.hid (BoxK.below Fxv_7.out hst ltxv_7)
  have ltxv_8 : v5.heap.size < v8.heap.size := Nat.lt_of_lt_of_le ltxv_7 hst.size
  clear Fxv_7 ltxv_7
  have ltgv_8 : v7.heap.size < v8.heap.size := by have h1 := hx.size; simp at h1; omega
  have bogv := ltgv_8
  have Fgv_8 := Lib.hid (BoxK.below PBgv.out hx (by simp; try omega))
  clear PBgv
  have EwI_8 := Lib.hid (EwI_7.out.below (Nat.le_refl _) hst)
  clear EwI_7
  have EwB_8 := Lib.hid (EwB_7.out.below (Nat.le_refl _) hst)
  clear EwB_7
  have EwF_8 := Lib.hid (EwF_7.out.below (Nat.le_refl _) hst)
  clear EwF_7
  have EwS_8 := Lib.hid (EwS_7.out.below (Nat.le_refl _) hst)
  clear EwS_7
  have ExI_8 := Lib.hid (ExI_7.out.below (Nat.le_refl _) hst)
  clear ExI_7
  have ExB_8 := Lib.hid (ExB_7.out.below (Nat.le_refl _) hst)
  clear ExB_7
  have Exy_8 := Lib.hid (Exy_7.out.below (Nat.le_refl _) hst)
  clear Exy_7
  have EgI_8 := Lib.hid (EgI_7.out.below (Nat.le_refl _) hst)
  clear EgI_7
  have EgB_8 := Lib.hid (EgB_7.out.below (Nat.le_refl _) hst)
  clear EgB_7
  have EgF_8 := Lib.hid (EgF_7.out.below (Nat.le_refl _) hst)
  clear EgF_7
  have EgS_8 := Lib.hid (EgS_7.out.below (Nat.le_refl _) hst)
  clear EgS_7
  have HB8 := Lib.hid (HB7.out.trans (hst.mono z7))
  have z8 : w.heap.size ≤ v8.heap.size := HB8.out.size
  have ch8 : v7.heap.size ≤ v8.heap.size := hst.size
  clear HB7 HBX hst NgI NgB NwI NwB
  clear hx HX
  have HX := Lib.hid (show Below v8.heap.size v8 v8 from Below.refl v8.heap.size v8)
  have NgF := Lib.hid (EgF_8.out.below (Nat.le_refl _) HX.out)
  have NgS := Lib.hid (EgS_8.out.below (Nat.le_refl _) HX.out)
  have NwF := Lib.hid (EwF_8.out.below (Nat.le_refl _) HX.out)
  have NwS := Lib.hid (EwS_8.out.below (Nat.le_refl _) HX.out)
  have HBX := Lib.hid (HB8.out.trans (HX.out.mono z8))
  go_wp2_with fail
  refine (eqActS_yes _ _ n3 _ _ _ _ _ _ _ NgF.out NgS.out NwF.out NwS.out (MAg.out.trans MAw.out.symm) (fun d hd => (N8g.out d hd).2) (by omega)).mono ?_
  rintro e v9 ⟨rfl, hx⟩
  have hst : Below v8.heap.size v8 v9 := HX.out.trans (hx.mono HX.out.size)
  have Fa_9 := Lib.hid (BoxK.below Fa_8.out hst lta_8)
  have lta_9 : w.heap.size < v9.heap.size := Nat.lt_of_lt_of_le lta_8 hst.size
  clear Fa_8 lta_8
  have Fwv_9 := Lib.hid (BoxK.below Fwv_8.out hst ltwv_8)
  have ltwv_9 : v4.heap.size < v9.heap.size := Nat.lt_of_lt_of_le ltwv_8 hst.size
  clear Fwv_8 ltwv_8
  have Fxv_9 := Lib.hid (BoxK.below Fxv_8.out hst ltxv_8)
  have ltxv_9 : v5.heap.size < v9.heap.size := Nat.lt_of_lt_of_le ltxv_8 hst.size
  clear Fxv_8 ltxv_8
  have Fgv_9 := Lib.hid (BoxK.below Fgv_8.out hst ltgv_8)
  have ltgv_9 : v7.heap.size < v9.heap.size := Nat.lt_of_lt_of_le ltgv_8 hst.size
  clear Fgv_8 ltgv_8
  have EwI_9 := Lib.hid (EwI_8.out.below (Nat.le_refl _) hst)
  clear EwI_8
  have EwB_9 := Lib.hid (EwB_8.out.below (Nat.le_refl _) hst)
  clear EwB_8
  have EwF_9 := Lib.hid (EwF_8.out.below (Nat.le_refl _) hst)
  clear EwF_8
  have EwS_9 := Lib.hid (EwS_8.out.below (Nat.le_refl _) hst)
  clear EwS_8
  have ExI_9 := Lib.hid (ExI_8.out.below (Nat.le_refl _) hst)
  clear ExI_8
  have ExB_9 := Lib.hid (ExB_8.out.below (Nat.le_refl _) hst)
  clear ExB_8
  have Exy_9 := Lib.hid (Exy_8.out.below (Nat.le_refl _) hst)
  clear Exy_8
  have EgI_9 := Lib.hid (EgI_8.out.below (Nat.le_refl _) hst)
  clear EgI_8
  have EgB_9 := Lib.hid (EgB_8.out.below (Nat.le_refl _) hst)
  clear EgB_8
  have EgF_9 := Lib.hid (EgF_8.out.below (Nat.le_refl _) hst)
  clear EgF_8
  have EgS_9 := Lib.hid (EgS_8.out.below (Nat.le_refl _) hst)
  clear EgS_8
  have HB9 := Lib.hid (HB8.out.trans (hst.mono z8))
  have z9 : w.heap.size ≤ v9.heap.size := HB9.out.size
  have ch9 : v8.heap.size ≤ v9.heap.size := hst.size
  clear HB8 HBX hst NgF NgS NwF NwS
  clear hx HX
  have aq0 : v9.cell? ⟨w.heap.size, 0, none⟩ = some (.int .i64 st) := Fa_9.out 0 _ rfl
  have aq1 : v9.cell? ⟨w.heap.size, 1, none⟩ = some (.bool mk) := Fa_9.out 1 _ rfl
  have aq2 : v9.cell? ⟨w.heap.size, 2, none⟩ = some (.slice A na ca) := Fa_9.out 2 _ rfl
  have aq3 : v9.cell? ⟨w.heap.size, 3, none⟩ = some (.slice P np cp) := Fa_9.out 3 _ rfl
  have xvq0 : v9.cell? ⟨v5.heap.size, 0, none⟩ = some (.int .i64 st) := Fxv_9.out 0 _ rfl
  have xvq1 : v9.cell? ⟨v5.heap.size, 1, none⟩ = some (.bool mk) := Fxv_9.out 1 _ rfl
  have xvq2 : v9.cell? ⟨v5.heap.size, 2, none⟩ = some (.slice F5 na d5) := Fxv_9.out 2 _ rfl
  have xvq3 : v9.cell? ⟨v5.heap.size, 3, none⟩ = some (.slice G5 np c5) := Fxv_9.out 3 _ rfl
  go_upto_region 13 with fail
  go_cut [57] (fun s wx => s = .bool false ∧ Below v9.heap.size v9 wx)
  case first =>
    go_region_with (first
      | (go_at_call 13; refine (HT.out _ ?_).mono ?_; exact ⟨HB9.out.os, HB9.out.tape, HB9.out.output, HB9.out.size, HB9.out.block⟩; rintro e y1 ⟨Fy, dy, Gy, cy9, rfl, hoy, hxy'⟩; have hxy : Below v9.heap.size v9 y1 := undrew hxy'; clear hxy'; have HOY := Lib.hid hoy; have HP1 := Lib.hid (ExI_9.out.below (Nat.le_refl _) hxy); have HP2 := Lib.hid (ExB_9.out.below (Nat.le_refl _) hxy); obtain ⟨r0, r1, r2, r3⟩ : y1.cell? ⟨v5.heap.size, 0, none⟩ = some (.int .i64 st) ∧ y1.cell? ⟨v5.heap.size, 1, none⟩ = some (.bool mk) ∧ y1.cell? ⟨v5.heap.size, 2, none⟩ = some (.slice F5 na d5) ∧ y1.cell? ⟨v5.heap.size, 3, none⟩ = some (.slice G5 np c5) := ⟨BoxK.below Fxv_9.out hxy ltxv_9 0 _ rfl, BoxK.below Fxv_9.out hxy ltxv_9 1 _ rfl, BoxK.below Fxv_9.out hxy ltxv_9 2 _ rfl, BoxK.below Fxv_9.out hxy ltxv_9 3 _ rfl⟩; have HXY := Lib.hid hxy; have zy := hxy.size; clear hoy hxy)
      | (go_at_call 15; refine (eqV st mk ⟨HP1.out, HP2.out⟩ HOY.out hN).mono ?_; rintro e y2 ⟨rfl, hxz⟩))
    all_goals
      have HE := Lib.hid (HXY.out.trans (hxz.mono zy))
      clear hxz
      go_wp2_with fail
      go_meet
      case rel => exact ⟨rfl, HE.out⟩
  case rest =>
    obtain ⟨rfl, hst⟩ := hcut
    clear aq0 aq1 aq2 aq3
    clear xvq0 xvq1 xvq2 xvq3
    obtain ⟨v10, rfl⟩ : ∃ v : World, v = wc := ⟨_, rfl⟩
    have Fa_10 := Lib.hid (BoxK.below Fa_9.out hst lta_9)
    have lta_10 : w.heap.size < v10.heap.size := Nat.lt_of_lt_of_le lta_9 hst.size
    clear Fa_9 lta_9
    have Fwv_10 := Lib.hid (BoxK.below Fwv_9.out hst ltwv_9)
    have ltwv_10 : v4.heap.size < v10.heap.size := Nat.lt_of_lt_of_le ltwv_9 hst.size
    clear Fwv_9 ltwv_9
    have Fxv_10 := Lib.hid (BoxK.below Fxv_9.out hst ltxv_9)
    have ltxv_10 : v5.heap.size < v10.heap.size := Nat.lt_of_lt_of_le ltxv_9 hst.size
    clear Fxv_9 ltxv_9
    have Fgv_10 := Lib.hid (BoxK.below Fgv_9.out hst ltgv_9)
    have ltgv_10 : v7.heap.size < v10.heap.size := Nat.lt_of_lt_of_le ltgv_9 hst.size
    clear Fgv_9 ltgv_9
    have EwI_10 := Lib.hid (EwI_9.out.below (Nat.le_refl _) hst)
    clear EwI_9
    have EwB_10 := Lib.hid (EwB_9.out.below (Nat.le_refl _) hst)
    clear EwB_9
    have EwF_10 := Lib.hid (EwF_9.out.below (Nat.le_refl _) hst)
    clear EwF_9
    have EwS_10 := Lib.hid (EwS_9.out.below (Nat.le_refl _) hst)
    clear EwS_9
    have ExI_10 := Lib.hid (ExI_9.out.below (Nat.le_refl _) hst)
    clear ExI_9
    have ExB_10 := Lib.hid (ExB_9.out.below (Nat.le_refl _) hst)
    clear ExB_9
    have Exy_10 := Lib.hid (Exy_9.out.below (Nat.le_refl _) hst)
    clear Exy_9
    have EgI_10 := Lib.hid (EgI_9.out.below (Nat.le_refl _) hst)
    clear EgI_9
    have EgB_10 := Lib.hid (EgB_9.out.below (Nat.le_refl _) hst)
    clear EgB_9
    have EgF_10 := Lib.hid (EgF_9.out.below (Nat.le_refl _) hst)
    clear EgF_9
    have EgS_10 := Lib.hid (EgS_9.out.below (Nat.le_refl _) hst)
    clear EgS_9
    have HB10 := Lib.hid (HB9.out.trans (hst.mono z9))
    have z10 : w.heap.size ≤ v10.heap.size := HB10.out.size
    have ch10 : v9.heap.size ≤ v10.heap.size := hst.size
    clear HB9 hst
    have HX := Lib.hid (show Below v10.heap.size v10 v10 from Below.refl v10.heap.size v10)
    have HBX := Lib.hid (HB10.out.trans (HX.out.mono z10))
    go_wp2_with fail
    refine (HTY.out _ HBX.out).mono ?_
    rintro e v11 ⟨F11, d11, rfl, ho1, hx⟩
    have hst : Below v10.heap.size v10 v11 := HX.out.trans (hx.mono HX.out.size)
    have Fa_11 := Lib.hid (BoxK.below Fa_10.out hst lta_10)
    have lta_11 : w.heap.size < v11.heap.size := Nat.lt_of_lt_of_le lta_10 hst.size
    clear Fa_10 lta_10
    have Fwv_11 := Lib.hid (BoxK.below Fwv_10.out hst ltwv_10)
    have ltwv_11 : v4.heap.size < v11.heap.size := Nat.lt_of_lt_of_le ltwv_10 hst.size
    clear Fwv_10 ltwv_10
    have Fxv_11 := Lib.hid (BoxK.below Fxv_10.out hst ltxv_10)
    have ltxv_11 : v5.heap.size < v11.heap.size := Nat.lt_of_lt_of_le ltxv_10 hst.size
    clear Fxv_10 ltxv_10
    have Fgv_11 := Lib.hid (BoxK.below Fgv_10.out hst ltgv_10)
    have ltgv_11 : v7.heap.size < v11.heap.size := Nat.lt_of_lt_of_le ltgv_10 hst.size
    clear Fgv_10 ltgv_10
    have EwI_11 := Lib.hid (EwI_10.out.below (Nat.le_refl _) hst)
    clear EwI_10
    have EwB_11 := Lib.hid (EwB_10.out.below (Nat.le_refl _) hst)
    clear EwB_10
    have EwF_11 := Lib.hid (EwF_10.out.below (Nat.le_refl _) hst)
    clear EwF_10
    have EwS_11 := Lib.hid (EwS_10.out.below (Nat.le_refl _) hst)
    clear EwS_10
    have ExI_11 := Lib.hid (ExI_10.out.below (Nat.le_refl _) hst)
    clear ExI_10
    have ExB_11 := Lib.hid (ExB_10.out.below (Nat.le_refl _) hst)
    clear ExB_10
    have Exy_11 := Lib.hid (Exy_10.out.below (Nat.le_refl _) hst)
    clear Exy_10
    have EgI_11 := Lib.hid (EgI_10.out.below (Nat.le_refl _) hst)
    clear EgI_10
    have EgB_11 := Lib.hid (EgB_10.out.below (Nat.le_refl _) hst)
    clear EgB_10
    have EgF_11 := Lib.hid (EgF_10.out.below (Nat.le_refl _) hst)
    clear EgF_10
    have EgS_11 := Lib.hid (EgS_10.out.below (Nat.le_refl _) hst)
    clear EgS_10
    have HB11 := Lib.hid (HB10.out.trans (hst.mono z10))
    have z11 : w.heap.size ≤ v11.heap.size := HB11.out.size
    have ch11 : v10.heap.size ≤ v11.heap.size := hst.size
    clear HB10 HBX hst
    have Ety_11 := Lib.hid (show Own v11 (v10.heap.size) F11 ny d11 ys from by have h := ho1; first | exact h | (simp only [World.size_alloc] at h; exact h))
    have Lty := Lib.hid (show ∀ i, Blk F11 ny d11 i → v10.heap.size ≤ i ∧ i < v11.heap.size from fun i hi => Ety_11.out.blk i hi)
    clear ho1
    clear hx HX
    have HX := Lib.hid (show Below v11.heap.size v11 v11 from Below.refl v11.heap.size v11)
    have Nxy := Lib.hid (Exy_11.out.below (Nat.le_refl _) HX.out)
    have Nty := Lib.hid (Ety_11.out.below (Nat.le_refl _) HX.out)
    have HBX := Lib.hid (HB11.out.trans (HX.out.mono z11))
    go_wp2_with fail
    refine (eqByteS_yes _ _ ny _ ny _ ys _ Nxy.out.rd Nty.out.rd Nxy.out.len Nxy.out.len (by omega)).mono ?_
    rintro e v12 ⟨rfl, hx⟩
    have hst : Below v11.heap.size v11 v12 := HX.out.trans (hx.mono HX.out.size)
    have Fa_12 := Lib.hid (BoxK.below Fa_11.out hst lta_11)
    have lta_12 : w.heap.size < v12.heap.size := Nat.lt_of_lt_of_le lta_11 hst.size
    clear Fa_11 lta_11
    have Fwv_12 := Lib.hid (BoxK.below Fwv_11.out hst ltwv_11)
    have ltwv_12 : v4.heap.size < v12.heap.size := Nat.lt_of_lt_of_le ltwv_11 hst.size
    clear Fwv_11 ltwv_11
    have Fxv_12 := Lib.hid (BoxK.below Fxv_11.out hst ltxv_11)
    have ltxv_12 : v5.heap.size < v12.heap.size := Nat.lt_of_lt_of_le ltxv_11 hst.size
    clear Fxv_11 ltxv_11
    have Fgv_12 := Lib.hid (BoxK.below Fgv_11.out hst ltgv_11)
    have ltgv_12 : v7.heap.size < v12.heap.size := Nat.lt_of_lt_of_le ltgv_11 hst.size
    clear Fgv_11 ltgv_11
    have EwI_12 := Lib.hid (EwI_11.out.below (Nat.le_refl _) hst)
    clear EwI_11
    have EwB_12 := Lib.hid (EwB_11.out.below (Nat.le_refl _) hst)
    clear EwB_11
    have EwF_12 := Lib.hid (EwF_11.out.below (Nat.le_refl _) hst)
    clear EwF_11
    have EwS_12 := Lib.hid (EwS_11.out.below (Nat.le_refl _) hst)
    clear EwS_11
    have ExI_12 := Lib.hid (ExI_11.out.below (Nat.le_refl _) hst)
    clear ExI_11
    have ExB_12 := Lib.hid (ExB_11.out.below (Nat.le_refl _) hst)
    clear ExB_11
    have Exy_12 := Lib.hid (Exy_11.out.below (Nat.le_refl _) hst)
    clear Exy_11
    have EgI_12 := Lib.hid (EgI_11.out.below (Nat.le_refl _) hst)
    clear EgI_11
    have EgB_12 := Lib.hid (EgB_11.out.below (Nat.le_refl _) hst)
    clear EgB_11
    have EgF_12 := Lib.hid (EgF_11.out.below (Nat.le_refl _) hst)
    clear EgF_11
    have EgS_12 := Lib.hid (EgS_11.out.below (Nat.le_refl _) hst)
    clear EgS_11
    have Ety_12 := Lib.hid (Ety_11.out.below (Nat.le_refl _) hst)
    clear Ety_11
    have HB12 := Lib.hid (HB11.out.trans (hst.mono z11))
    have z12 : w.heap.size ≤ v12.heap.size := HB12.out.size
    have ch12 : v11.heap.size ≤ v12.heap.size := hst.size
    clear HB11 HBX hst Nxy Nty
    clear hx HX
    clear Ety_12 Lty
    have xvq0 : v12.cell? ⟨v5.heap.size, 0, none⟩ = some (.int .i64 st) := Fxv_12.out 0 _ rfl
    have xvq1 : v12.cell? ⟨v5.heap.size, 1, none⟩ = some (.bool mk) := Fxv_12.out 1 _ rfl
    have xvq2 : v12.cell? ⟨v5.heap.size, 2, none⟩ = some (.slice F5 na d5) := Fxv_12.out 2 _ rfl
    have xvq3 : v12.cell? ⟨v5.heap.size, 3, none⟩ = some (.slice G5 np c5) := Fxv_12.out 3 _ rfl
    go_wp2_with fail
    refine (markVp_any st mk _ na _ _ _ np _ _ _ 1 _ ExI_12.out ExB_12.out (by omega) (by omega) (by omega) (by omega)).mono ?_
    rintro e v13 ⟨rfl, ho1, ho2, on⟩
    clear xvq0 xvq1 xvq2 xvq3
    have Fa_13 := Lib.hid (BoxK.only Fa_12.out on (fun hs => by
      rcases hs with hs | hs
      · have h2 := LxI.out _ hs; omega
      · have h2 := LxB.out _ hs; omega))
    have lta_13 : w.heap.size < v13.heap.size := Nat.lt_of_lt_of_le lta_12 on.size
    clear Fa_12 lta_12
    have Fwv_13 := Lib.hid (BoxK.only Fwv_12.out on (fun hs => by
      rcases hs with hs | hs
      · have h2 := LxI.out _ hs; omega
      · have h2 := LxB.out _ hs; omega))
    have ltwv_13 : v4.heap.size < v13.heap.size := Nat.lt_of_lt_of_le ltwv_12 on.size
    clear Fwv_12 ltwv_12
    have Fxv_13 := Lib.hid (BoxK.only Fxv_12.out on (fun hs => by
      rcases hs with hs | hs
      · have h2 := LxI.out _ hs; omega
      · have h2 := LxB.out _ hs; omega))
    have ltxv_13 : v5.heap.size < v13.heap.size := Nat.lt_of_lt_of_le ltxv_12 on.size
    clear Fxv_12 ltxv_12
    have Fgv_13 := Lib.hid (BoxK.only Fgv_12.out on (fun hs => by
      rcases hs with hs | hs
      · have h2 := LxI.out _ hs; omega
      · have h2 := LxB.out _ hs; omega))
    have ltgv_13 : v7.heap.size < v13.heap.size := Nat.lt_of_lt_of_le ltgv_12 on.size
    clear Fgv_12 ltgv_12
    have EwI_13 := Lib.hid (show OwnI v13 (v3.heap.size) F4 n1 d4 s3 from Only.own EwI_12.out on (fun i hi hs => by
      have h1 := LwI.out i hi
      rcases hs with hs | hs
      · have h2 := LxI.out _ hs; omega
      · have h2 := LxB.out _ hs; omega))
    have EwB_13 := Lib.hid (show Own v13 (v3.heap.size) G4 n2 c4 s4 from Only.own EwB_12.out on (fun i hi hs => by
      have h1 := LwB.out i hi
      rcases hs with hs | hs
      · have h2 := LxI.out _ hs; omega
      · have h2 := LxB.out _ hs; omega))
    have EwF_13 := Lib.hid (show OwnF4 v13 (v3.heap.size) A4 n3 e4 ds4 from Only.own EwF_12.out on (fun i hi hs => by
      have h1 := LwF.out i hi
      rcases hs with hs | hs
      · have h2 := LxI.out _ hs; omega
      · have h2 := LxB.out _ hs; omega))
    have EwS_13 := Lib.hid (show OwnAs v13 (v3.heap.size) ds4 from OwnAs.only EwS_12.out on (fun d hd i hi hs => by
      have h1 := LwS.out i ⟨d, hd, hi⟩
      rcases hs with hs | hs
      · have h2 := LxI.out _ hs; omega
      · have h2 := LxB.out _ hs; omega))
    have Exy_13 := Lib.hid (show Own v13 (v5.heap.size + 1) F6 ny d6 ys from Only.own Exy_12.out on (fun i hi hs => by
      have h1 := Lxy.out i hi
      rcases hs with hs | hs
      · have h2 := LxI.out _ hs; omega
      · have h2 := LxB.out _ hs; omega))
    have EgI_13 := Lib.hid (show OwnI v13 (v6.heap.size) F7 n1 d7 s3 from Only.own EgI_12.out on (fun i hi hs => by
      have h1 := LgI.out i hi
      rcases hs with hs | hs
      · have h2 := LxI.out _ hs; omega
      · have h2 := LxB.out _ hs; omega))
    have EgB_13 := Lib.hid (show Own v13 (v6.heap.size) G7 n2 c7 s4 from Only.own EgB_12.out on (fun i hi hs => by
      have h1 := LgB.out i hi
      rcases hs with hs | hs
      · have h2 := LxI.out _ hs; omega
      · have h2 := LxB.out _ hs; omega))
    have EgF_13 := Lib.hid (show OwnF4 v13 (v6.heap.size) A7 n3 e7 ds7 from Only.own EgF_12.out on (fun i hi hs => by
      have h1 := LgF.out i hi
      rcases hs with hs | hs
      · have h2 := LxI.out _ hs; omega
      · have h2 := LxB.out _ hs; omega))
    have EgS_13 := Lib.hid (show OwnAs v13 (v6.heap.size) ds7 from OwnAs.only EgS_12.out on (fun d hd i hi hs => by
      have h1 := LgS.out i ⟨d, hd, hi⟩
      rcases hs with hs | hs
      · have h2 := LxI.out _ hs; omega
      · have h2 := LxB.out _ hs; omega))
    clear EwI_12
    clear EwB_12
    clear EwF_12
    clear EwS_12
    clear Exy_12
    clear EgI_12
    clear EgB_12
    clear EgF_12
    clear EgS_12
    have HB13 := Lib.hid (Only.below_ on HB12.out z12 (fun i hs => by
      rcases hs with hs | hs
      · have h2 := LxI.out _ hs; omega
      · have h2 := LxB.out _ hs; omega))
    have z13 : w.heap.size ≤ v13.heap.size := HB13.out.size
    have ch13 : v12.heap.size ≤ v13.heap.size := on.size
    clear on HB12
    clear ho1 ho2
    clear ExI_12 LxI
    clear ExB_12 LxB
    go_wp2_with fail
    refine (markByteS_any _ ny _ _ _ (1 + na + np) _ Exy_13.out (by omega) (by omega) (by omega)).mono ?_
    rintro e v14 ⟨rfl, ho1, hgr⟩
    have on := Only.grown (S := fun i => Blk F6 ny d6 i) hgr (fun i hi => hi)
    clear hgr
    have Fa_14 := Lib.hid (BoxK.only Fa_13.out on (fun hs => by
      skip
      · have h2 := Lxy.out _ hs; omega))
    have lta_14 : w.heap.size < v14.heap.size := Nat.lt_of_lt_of_le lta_13 on.size
    clear Fa_13 lta_13
    have Fwv_14 := Lib.hid (BoxK.only Fwv_13.out on (fun hs => by
      skip
      · have h2 := Lxy.out _ hs; omega))
    have ltwv_14 : v4.heap.size < v14.heap.size := Nat.lt_of_lt_of_le ltwv_13 on.size
    clear Fwv_13 ltwv_13
    have Fxv_14 := Lib.hid (BoxK.only Fxv_13.out on (fun hs => by
      skip
      · have h2 := Lxy.out _ hs; omega))
    have ltxv_14 : v5.heap.size < v14.heap.size := Nat.lt_of_lt_of_le ltxv_13 on.size
    clear Fxv_13 ltxv_13
    have Fgv_14 := Lib.hid (BoxK.only Fgv_13.out on (fun hs => by
      skip
      · have h2 := Lxy.out _ hs; omega))
    have ltgv_14 : v7.heap.size < v14.heap.size := Nat.lt_of_lt_of_le ltgv_13 on.size
    clear Fgv_13 ltgv_13
    have EwI_14 := Lib.hid (show OwnI v14 (v3.heap.size) F4 n1 d4 s3 from Only.own EwI_13.out on (fun i hi hs => by
      have h1 := LwI.out i hi
      skip
      · have h2 := Lxy.out _ hs; omega))
    have EwB_14 := Lib.hid (show Own v14 (v3.heap.size) G4 n2 c4 s4 from Only.own EwB_13.out on (fun i hi hs => by
      have h1 := LwB.out i hi
      skip
      · have h2 := Lxy.out _ hs; omega))
    have EwF_14 := Lib.hid (show OwnF4 v14 (v3.heap.size) A4 n3 e4 ds4 from Only.own EwF_13.out on (fun i hi hs => by
      have h1 := LwF.out i hi
      skip
      · have h2 := Lxy.out _ hs; omega))
    have EwS_14 := Lib.hid (show OwnAs v14 (v3.heap.size) ds4 from OwnAs.only EwS_13.out on (fun d hd i hi hs => by
      have h1 := LwS.out i ⟨d, hd, hi⟩
      skip
      · have h2 := Lxy.out _ hs; omega))
    have EgI_14 := Lib.hid (show OwnI v14 (v6.heap.size) F7 n1 d7 s3 from Only.own EgI_13.out on (fun i hi hs => by
      have h1 := LgI.out i hi
      skip
      · have h2 := Lxy.out _ hs; omega))
    have EgB_14 := Lib.hid (show Own v14 (v6.heap.size) G7 n2 c7 s4 from Only.own EgB_13.out on (fun i hi hs => by
      have h1 := LgB.out i hi
      skip
      · have h2 := Lxy.out _ hs; omega))
    have EgF_14 := Lib.hid (show OwnF4 v14 (v6.heap.size) A7 n3 e7 ds7 from Only.own EgF_13.out on (fun i hi hs => by
      have h1 := LgF.out i hi
      skip
      · have h2 := Lxy.out _ hs; omega))
    have EgS_14 := Lib.hid (show OwnAs v14 (v6.heap.size) ds7 from OwnAs.only EgS_13.out on (fun d hd i hi hs => by
      have h1 := LgS.out i ⟨d, hd, hi⟩
      skip
      · have h2 := Lxy.out _ hs; omega))
    clear EwI_13
    clear EwB_13
    clear EwF_13
    clear EwS_13
    clear EgI_13
    clear EgB_13
    clear EgF_13
    clear EgS_13
    have HB14 := Lib.hid (Only.below_ on HB13.out z13 (fun i hs => by
      skip
      · have h2 := Lxy.out _ hs; omega))
    have z14 : w.heap.size ≤ v14.heap.size := HB14.out.size
    have ch14 : v13.heap.size ≤ v14.heap.size := on.size
    clear on HB13
    clear ho1
    clear Exy_13 Lxy
    have HX := Lib.hid (show Below v14.heap.size v14 v14 from Below.refl v14.heap.size v14)
    have NgI := Lib.hid (EgI_14.out.below (Nat.le_refl _) HX.out)
    have NgB := Lib.hid (EgB_14.out.below (Nat.le_refl _) HX.out)
    have NwI := Lib.hid (EwI_14.out.below (Nat.le_refl _) HX.out)
    have NwB := Lib.hid (EwB_14.out.below (Nat.le_refl _) HX.out)
    have HBX := Lib.hid (HB14.out.trans (HX.out.mono z14))
    have gvq0 : v14.cell? ⟨v7.heap.size, 0, none⟩ = some (.int .i64 s1) := Fgv_14.out 0 _ rfl
    have gvq1 : v14.cell? ⟨v7.heap.size, 1, none⟩ = some (.bool s2) := Fgv_14.out 1 _ rfl
    have gvq2 : v14.cell? ⟨v7.heap.size, 2, none⟩ = some (.slice F7 n1 d7) := Fgv_14.out 2 _ rfl
    have gvq3 : v14.cell? ⟨v7.heap.size, 3, none⟩ = some (.slice G7 n2 c7) := Fgv_14.out 3 _ rfl
    have wvq0 : v14.cell? ⟨v4.heap.size, 0, none⟩ = some (.int .i64 s1) := Fwv_14.out 0 _ rfl
    have wvq1 : v14.cell? ⟨v4.heap.size, 1, none⟩ = some (.bool s2) := Fwv_14.out 1 _ rfl
    have wvq2 : v14.cell? ⟨v4.heap.size, 2, none⟩ = some (.slice F4 n1 d4) := Fwv_14.out 2 _ rfl
    have wvq3 : v14.cell? ⟨v4.heap.size, 3, none⟩ = some (.slice G4 n2 c4) := Fwv_14.out 3 _ rfl
    go_wp2_with fail
    refine (eqV s1 s2 ⟨NgI.out, NgB.out⟩ ⟨NwI.out, NwB.out⟩ (by omega)).mono ?_
    rintro e v15 ⟨rfl, hx⟩
    clear gvq0 gvq1 gvq2 gvq3
    clear wvq0 wvq1 wvq2 wvq3
    have hst : Below v14.heap.size v14 v15 := HX.out.trans (hx.mono HX.out.size)
    have Fa_15 := Lib.hid (BoxK.below Fa_14.out hst lta_14)
    have lta_15 : w.heap.size < v15.heap.size := Nat.lt_of_lt_of_le lta_14 hst.size
    clear Fa_14 lta_14
    have Fwv_15 := Lib.hid (BoxK.below Fwv_14.out hst ltwv_14)
    have ltwv_15 : v4.heap.size < v15.heap.size := Nat.lt_of_lt_of_le ltwv_14 hst.size
    clear Fwv_14 ltwv_14
    have Fxv_15 := Lib.hid (BoxK.below Fxv_14.out hst ltxv_14)
    have ltxv_15 : v5.heap.size < v15.heap.size := Nat.lt_of_lt_of_le ltxv_14 hst.size
    clear Fxv_14 ltxv_14
    have Fgv_15 := Lib.hid (BoxK.below Fgv_14.out hst ltgv_14)
    have ltgv_15 : v7.heap.size < v15.heap.size := Nat.lt_of_lt_of_le ltgv_14 hst.size
    clear Fgv_14 ltgv_14
    have EwI_15 := Lib.hid (EwI_14.out.below (Nat.le_refl _) hst)
    clear EwI_14
    have EwB_15 := Lib.hid (EwB_14.out.below (Nat.le_refl _) hst)
    clear EwB_14
    have EwF_15 := Lib.hid (EwF_14.out.below (Nat.le_refl _) hst)
    clear EwF_14
    have EwS_15 := Lib.hid (EwS_14.out.below (Nat.le_refl _) hst)
    clear EwS_14
    have EgI_15 := Lib.hid (EgI_14.out.below (Nat.le_refl _) hst)
    clear EgI_14
    have EgB_15 := Lib.hid (EgB_14.out.below (Nat.le_refl _) hst)
    clear EgB_14
    have EgF_15 := Lib.hid (EgF_14.out.below (Nat.le_refl _) hst)
    clear EgF_14
    have EgS_15 := Lib.hid (EgS_14.out.below (Nat.le_refl _) hst)
    clear EgS_14
    have HB15 := Lib.hid (HB14.out.trans (hst.mono z14))
    have z15 : w.heap.size ≤ v15.heap.size := HB15.out.size
    have ch15 : v14.heap.size ≤ v15.heap.size := hst.size
    clear HB14 HBX hst NgI NgB NwI NwB
    clear hx HX
    have HX := Lib.hid (show Below v15.heap.size v15 v15 from Below.refl v15.heap.size v15)
    have NgF := Lib.hid (EgF_15.out.below (Nat.le_refl _) HX.out)
    have NgS := Lib.hid (EgS_15.out.below (Nat.le_refl _) HX.out)
    have NwF := Lib.hid (EwF_15.out.below (Nat.le_refl _) HX.out)
    have NwS := Lib.hid (EwS_15.out.below (Nat.le_refl _) HX.out)
    have HBX := Lib.hid (HB15.out.trans (HX.out.mono z15))
    go_wp2_with fail
    refine (eqActS_yes _ _ n3 _ _ _ _ _ _ _ NgF.out NgS.out NwF.out NwS.out (MAg.out.trans MAw.out.symm) (fun d hd => (N8g.out d hd).2) (by omega)).mono ?_
    rintro e v16 ⟨rfl, hx⟩
    have hst : Below v15.heap.size v15 v16 := HX.out.trans (hx.mono HX.out.size)
    have Fa_16 := Lib.hid (BoxK.below Fa_15.out hst lta_15)
    have lta_16 : w.heap.size < v16.heap.size := Nat.lt_of_lt_of_le lta_15 hst.size
    clear Fa_15 lta_15
    have Fwv_16 := Lib.hid (BoxK.below Fwv_15.out hst ltwv_15)
    have ltwv_16 : v4.heap.size < v16.heap.size := Nat.lt_of_lt_of_le ltwv_15 hst.size
    clear Fwv_15 ltwv_15
    have Fxv_16 := Lib.hid (BoxK.below Fxv_15.out hst ltxv_15)
    have ltxv_16 : v5.heap.size < v16.heap.size := Nat.lt_of_lt_of_le ltxv_15 hst.size
    clear Fxv_15 ltxv_15
    have Fgv_16 := Lib.hid (BoxK.below Fgv_15.out hst ltgv_15)
    have ltgv_16 : v7.heap.size < v16.heap.size := Nat.lt_of_lt_of_le ltgv_15 hst.size
    clear Fgv_15 ltgv_15
    have EwI_16 := Lib.hid (EwI_15.out.below (Nat.le_refl _) hst)
    clear EwI_15
    have EwB_16 := Lib.hid (EwB_15.out.below (Nat.le_refl _) hst)
    clear EwB_15
    have EwF_16 := Lib.hid (EwF_15.out.below (Nat.le_refl _) hst)
    clear EwF_15
    have EwS_16 := Lib.hid (EwS_15.out.below (Nat.le_refl _) hst)
    clear EwS_15
    have EgI_16 := Lib.hid (EgI_15.out.below (Nat.le_refl _) hst)
    clear EgI_15
    have EgB_16 := Lib.hid (EgB_15.out.below (Nat.le_refl _) hst)
    clear EgB_15
    have EgF_16 := Lib.hid (EgF_15.out.below (Nat.le_refl _) hst)
    clear EgF_15
    have EgS_16 := Lib.hid (EgS_15.out.below (Nat.le_refl _) hst)
    clear EgS_15
    have HB16 := Lib.hid (HB15.out.trans (hst.mono z15))
    have z16 : w.heap.size ≤ v16.heap.size := HB16.out.size
    have ch16 : v15.heap.size ≤ v16.heap.size := hst.size
    clear HB15 HBX hst NgF NgS NwF NwS
    clear hx HX
    have gvq0 : v16.cell? ⟨v7.heap.size, 0, none⟩ = some (.int .i64 s1) := Fgv_16.out 0 _ rfl
    have gvq1 : v16.cell? ⟨v7.heap.size, 1, none⟩ = some (.bool s2) := Fgv_16.out 1 _ rfl
    have gvq2 : v16.cell? ⟨v7.heap.size, 2, none⟩ = some (.slice F7 n1 d7) := Fgv_16.out 2 _ rfl
    have gvq3 : v16.cell? ⟨v7.heap.size, 3, none⟩ = some (.slice G7 n2 c7) := Fgv_16.out 3 _ rfl
    go_wp2_with fail
    refine (markVp_any s1 s2 _ n1 _ _ _ n2 _ _ _ 1 _ EgI_16.out EgB_16.out (by omega) (by omega) (by omega) (by omega)).mono ?_
    rintro e v17 ⟨rfl, ho1, ho2, on⟩
    clear gvq0 gvq1 gvq2 gvq3
    have Fa_17 := Lib.hid (BoxK.only Fa_16.out on (fun hs => by
      rcases hs with hs | hs
      · have h2 := LgI.out _ hs; omega
      · have h2 := LgB.out _ hs; omega))
    have lta_17 : w.heap.size < v17.heap.size := Nat.lt_of_lt_of_le lta_16 on.size
    clear Fa_16 lta_16
    have Fwv_17 := Lib.hid (BoxK.only Fwv_16.out on (fun hs => by
      rcases hs with hs | hs
      · have h2 := LgI.out _ hs; omega
      · have h2 := LgB.out _ hs; omega))
    have ltwv_17 : v4.heap.size < v17.heap.size := Nat.lt_of_lt_of_le ltwv_16 on.size
    clear Fwv_16 ltwv_16
    have Fxv_17 := Lib.hid (BoxK.only Fxv_16.out on (fun hs => by
      rcases hs with hs | hs
      · have h2 := LgI.out _ hs; omega
      · have h2 := LgB.out _ hs; omega))
    have ltxv_17 : v5.heap.size < v17.heap.size := Nat.lt_of_lt_of_le ltxv_16 on.size
    clear Fxv_16 ltxv_16
    have Fgv_17 := Lib.hid (BoxK.only Fgv_16.out on (fun hs => by
      rcases hs with hs | hs
      · have h2 := LgI.out _ hs; omega
      · have h2 := LgB.out _ hs; omega))
    have ltgv_17 : v7.heap.size < v17.heap.size := Nat.lt_of_lt_of_le ltgv_16 on.size
    clear Fgv_16 ltgv_16
    have EwI_17 := Lib.hid (show OwnI v17 (v3.heap.size) F4 n1 d4 s3 from Only.own EwI_16.out on (fun i hi hs => by
      have h1 := LwI.out i hi
      rcases hs with hs | hs
      · have h2 := LgI.out _ hs; omega
      · have h2 := LgB.out _ hs; omega))
    have EwB_17 := Lib.hid (show Own v17 (v3.heap.size) G4 n2 c4 s4 from Only.own EwB_16.out on (fun i hi hs => by
      have h1 := LwB.out i hi
      rcases hs with hs | hs
      · have h2 := LgI.out _ hs; omega
      · have h2 := LgB.out _ hs; omega))
    have EwF_17 := Lib.hid (show OwnF4 v17 (v3.heap.size) A4 n3 e4 ds4 from Only.own EwF_16.out on (fun i hi hs => by
      have h1 := LwF.out i hi
      rcases hs with hs | hs
      · have h2 := LgI.out _ hs; omega
      · have h2 := LgB.out _ hs; omega))
    have EwS_17 := Lib.hid (show OwnAs v17 (v3.heap.size) ds4 from OwnAs.only EwS_16.out on (fun d hd i hi hs => by
      have h1 := LwS.out i ⟨d, hd, hi⟩
      rcases hs with hs | hs
      · have h2 := LgI.out _ hs; omega
      · have h2 := LgB.out _ hs; omega))
    have EgF_17 := Lib.hid (show OwnF4 v17 (v6.heap.size) A7 n3 e7 ds7 from Only.own EgF_16.out on (fun i hi hs => by
      rcases hs with hs | hs
      · exact own4_ne EgF_16.out EgI_16.out i hi hs
      · exact own4_neP EgF_16.out EgB_16.out i hi hs))
    have EgS_17 := Lib.hid (show OwnAs v17 (v6.heap.size) ds7 from OwnAs.only EgS_16.out on (fun d hd i hi hs => by
      rcases hs with hs | hs
      · exact APg.out d hd i hi hs
      · exact own_ne (EgS_16.out.own d hd) EgB_16.out (by decide) i hi hs))
    clear EwI_16
    clear EwB_16
    clear EwF_16
    clear EwS_16
    clear EgF_16
    clear EgS_16
    have HB17 := Lib.hid (Only.below_ on HB16.out z16 (fun i hs => by
      rcases hs with hs | hs
      · have h2 := LgI.out _ hs; omega
      · have h2 := LgB.out _ hs; omega))
    have z17 : w.heap.size ≤ v17.heap.size := HB17.out.size
    have ch17 : v16.heap.size ≤ v17.heap.size := on.size
    clear on HB16
    have EgI_17m := Lib.hid ho1
    clear ho1 EgI_16
    have EgB_17m := Lib.hid ho2
    clear ho2 EgB_16
    go_wp2_with fail
    refine (markActS_any _ n3 _ _ _ (1 + n1 + n2) _ EgF_17.out EgS_17.out (fun d hd => (N8g.out d hd).1) (by omega) (by omega) (by omega)).mono ?_
    rintro e v18 ⟨rfl, ho1, ho2, on⟩
    have Fa_18 := Lib.hid (BoxK.only Fa_17.out on (fun hs => by
      rcases hs with hs | hs
      · have h2 := LgF.out _ hs; omega
      · have h2 := LgS.out _ hs; omega))
    have lta_18 : w.heap.size < v18.heap.size := Nat.lt_of_lt_of_le lta_17 on.size
    clear Fa_17 lta_17
    have Fwv_18 := Lib.hid (BoxK.only Fwv_17.out on (fun hs => by
      rcases hs with hs | hs
      · have h2 := LgF.out _ hs; omega
      · have h2 := LgS.out _ hs; omega))
    have ltwv_18 : v4.heap.size < v18.heap.size := Nat.lt_of_lt_of_le ltwv_17 on.size
    clear Fwv_17 ltwv_17
    have Fxv_18 := Lib.hid (BoxK.only Fxv_17.out on (fun hs => by
      rcases hs with hs | hs
      · have h2 := LgF.out _ hs; omega
      · have h2 := LgS.out _ hs; omega))
    have ltxv_18 : v5.heap.size < v18.heap.size := Nat.lt_of_lt_of_le ltxv_17 on.size
    clear Fxv_17 ltxv_17
    have Fgv_18 := Lib.hid (BoxK.only Fgv_17.out on (fun hs => by
      rcases hs with hs | hs
      · have h2 := LgF.out _ hs; omega
      · have h2 := LgS.out _ hs; omega))
    have ltgv_18 : v7.heap.size < v18.heap.size := Nat.lt_of_lt_of_le ltgv_17 on.size
    clear Fgv_17 ltgv_17
    have EwI_18 := Lib.hid (show OwnI v18 (v3.heap.size) F4 n1 d4 s3 from Only.own EwI_17.out on (fun i hi hs => by
      have h1 := LwI.out i hi
      rcases hs with hs | hs
      · have h2 := LgF.out _ hs; omega
      · have h2 := LgS.out _ hs; omega))
    have EwB_18 := Lib.hid (show Own v18 (v3.heap.size) G4 n2 c4 s4 from Only.own EwB_17.out on (fun i hi hs => by
      have h1 := LwB.out i hi
      rcases hs with hs | hs
      · have h2 := LgF.out _ hs; omega
      · have h2 := LgS.out _ hs; omega))
    have EwF_18 := Lib.hid (show OwnF4 v18 (v3.heap.size) A4 n3 e4 ds4 from Only.own EwF_17.out on (fun i hi hs => by
      have h1 := LwF.out i hi
      rcases hs with hs | hs
      · have h2 := LgF.out _ hs; omega
      · have h2 := LgS.out _ hs; omega))
    have EwS_18 := Lib.hid (show OwnAs v18 (v3.heap.size) ds4 from OwnAs.only EwS_17.out on (fun d hd i hi hs => by
      have h1 := LwS.out i ⟨d, hd, hi⟩
      rcases hs with hs | hs
      · have h2 := LgF.out _ hs; omega
      · have h2 := LgS.out _ hs; omega))
    have EgI_18 := Lib.hid (show OwnI v18 (v6.heap.size) F7 n1 d7 (marksN n1 1) from Only.own EgI_17m.out on (fun i hi hs => by
      rcases hs with hs | hs
      · exact own4_ne EgF_17.out EgI_17m.out i hs hi
      · obtain ⟨d, hd, hs⟩ := hs; exact APg.out d hd i hs hi))
    have EgB_18 := Lib.hid (show Own v18 (v6.heap.size) G7 n2 c7 (marks n2 (1 + n1)) from Only.own EgB_17m.out on (fun i hi hs => by
      rcases hs with hs | hs
      · exact own4_neP EgF_17.out EgB_17m.out i hs hi
      · obtain ⟨d, hd, hs⟩ := hs; exact own_ne (EgS_17.out.own d hd) EgB_17m.out (by decide) i hs hi))
    clear EwI_17
    clear EwB_17
    clear EwF_17
    clear EwS_17
    clear EgI_17m
    clear EgB_17m
    have HB18 := Lib.hid (Only.below_ on HB17.out z17 (fun i hs => by
      rcases hs with hs | hs
      · have h2 := LgF.out _ hs; omega
      · have h2 := LgS.out _ hs; omega))
    have z18 : w.heap.size ≤ v18.heap.size := HB18.out.size
    have ch18 : v17.heap.size ≤ v18.heap.size := on.size
    clear on HB17
    have EgF_18m := Lib.hid ho1
    clear ho1 EgF_17
    have EgS_18m := Lib.hid ho2
    clear ho2 EgS_17
    have hms := msum_ge (m := 1 + (n1 : Int) + n2) ds7
    have hmn : 0 ≤ msum (1 + (n1 : Int) + n2) ds7 := by omega
    obtain ⟨M, hM⟩ : ∃ M, M = msum (1 + (n1 : Int) + n2) ds7 := ⟨_, rfl⟩
    rw [← hM] at hmn
    have HMM := Lib.hid hM
    have hmm : (M != M) = false := by simp
    clear hms
    rw [← hM]
    clear hM
    have HX := Lib.hid (show Below v18.heap.size v18 v18 from Below.refl v18.heap.size v18)
    have NgI := Lib.hid (EgI_18.out.below (Nat.le_refl _) HX.out)
    have NgB := Lib.hid (EgB_18.out.below (Nat.le_refl _) HX.out)
    have HBX := Lib.hid (HB18.out.trans (HX.out.mono z18))
    have gvq0 : v18.cell? ⟨v7.heap.size, 0, none⟩ = some (.int .i64 s1) := Fgv_18.out 0 _ rfl
    have gvq1 : v18.cell? ⟨v7.heap.size, 1, none⟩ = some (.bool s2) := Fgv_18.out 1 _ rfl
    have gvq2 : v18.cell? ⟨v7.heap.size, 2, none⟩ = some (.slice F7 n1 d7) := Fgv_18.out 2 _ rfl
    have gvq3 : v18.cell? ⟨v7.heap.size, 3, none⟩ = some (.slice G7 n2 c7) := Fgv_18.out 3 _ rfl
    go_wp2_with fail
    refine (heldVp_any s1 s2 _ n1 _ _ n2 _ 1 _ NgI.out.rd NgB.out.rd (by omega) (by omega) (by omega) (by omega)).mono ?_
    rintro e v19 ⟨rfl, hx⟩
    clear gvq0 gvq1 gvq2 gvq3
    have hst : Below v18.heap.size v18 v19 := HX.out.trans (hx.mono HX.out.size)
    have Fa_19 := Lib.hid (BoxK.below Fa_18.out hst lta_18)
    have lta_19 : w.heap.size < v19.heap.size := Nat.lt_of_lt_of_le lta_18 hst.size
    clear Fa_18 lta_18
    have Fwv_19 := Lib.hid (BoxK.below Fwv_18.out hst ltwv_18)
    have ltwv_19 : v4.heap.size < v19.heap.size := Nat.lt_of_lt_of_le ltwv_18 hst.size
    clear Fwv_18 ltwv_18
    have Fxv_19 := Lib.hid (BoxK.below Fxv_18.out hst ltxv_18)
    have ltxv_19 : v5.heap.size < v19.heap.size := Nat.lt_of_lt_of_le ltxv_18 hst.size
    clear Fxv_18 ltxv_18
    have Fgv_19 := Lib.hid (BoxK.below Fgv_18.out hst ltgv_18)
    have ltgv_19 : v7.heap.size < v19.heap.size := Nat.lt_of_lt_of_le ltgv_18 hst.size
    clear Fgv_18 ltgv_18
    have EwI_19 := Lib.hid (EwI_18.out.below (Nat.le_refl _) hst)
    clear EwI_18
    have EwB_19 := Lib.hid (EwB_18.out.below (Nat.le_refl _) hst)
    clear EwB_18
    have EwF_19 := Lib.hid (EwF_18.out.below (Nat.le_refl _) hst)
    clear EwF_18
    have EwS_19 := Lib.hid (EwS_18.out.below (Nat.le_refl _) hst)
    clear EwS_18
    have EgI_19 := Lib.hid (EgI_18.out.below (Nat.le_refl _) hst)
    clear EgI_18
    have EgB_19 := Lib.hid (EgB_18.out.below (Nat.le_refl _) hst)
    clear EgB_18
    have EgF_19 := Lib.hid (EgF_18m.out.below (Nat.le_refl _) hst)
    clear EgF_18m
    have EgS_19 := Lib.hid (EgS_18m.out.below (Nat.le_refl _) hst)
    clear EgS_18m
    have HB19 := Lib.hid (HB18.out.trans (hst.mono z18))
    have z19 : w.heap.size ≤ v19.heap.size := HB19.out.size
    have ch19 : v18.heap.size ≤ v19.heap.size := hst.size
    clear HB18 HBX hst NgI NgB
    clear hx HX
    have HX := Lib.hid (show Below v19.heap.size v19 v19 from Below.refl v19.heap.size v19)
    have NgF := Lib.hid (EgF_19.out.below (Nat.le_refl _) HX.out)
    have NgS := Lib.hid (EgS_19.out.below (Nat.le_refl _) HX.out)
    have HBX := Lib.hid (HB19.out.trans (HX.out.mono z19))
    go_wp2_with fail
    refine (heldActS_bl _ n3 _ _ ds7 (1 + n1 + n2) M _ HMM.out NgF.out NgS.out (fun d hd => (N8g.out d hd).1) (by omega) (by omega) (by omega)).mono ?_
    rintro e v20 ⟨rfl, hx⟩
    have hst : Below v19.heap.size v19 v20 := HX.out.trans (hx.mono HX.out.size)
    have Fa_20 := Lib.hid (BoxK.below Fa_19.out hst lta_19)
    have lta_20 : w.heap.size < v20.heap.size := Nat.lt_of_lt_of_le lta_19 hst.size
    clear Fa_19 lta_19
    have Fwv_20 := Lib.hid (BoxK.below Fwv_19.out hst ltwv_19)
    have ltwv_20 : v4.heap.size < v20.heap.size := Nat.lt_of_lt_of_le ltwv_19 hst.size
    clear Fwv_19 ltwv_19
    have Fxv_20 := Lib.hid (BoxK.below Fxv_19.out hst ltxv_19)
    have ltxv_20 : v5.heap.size < v20.heap.size := Nat.lt_of_lt_of_le ltxv_19 hst.size
    clear Fxv_19 ltxv_19
    have Fgv_20 := Lib.hid (BoxK.below Fgv_19.out hst ltgv_19)
    have ltgv_20 : v7.heap.size < v20.heap.size := Nat.lt_of_lt_of_le ltgv_19 hst.size
    clear Fgv_19 ltgv_19
    have EwI_20 := Lib.hid (EwI_19.out.below (Nat.le_refl _) hst)
    clear EwI_19
    have EwB_20 := Lib.hid (EwB_19.out.below (Nat.le_refl _) hst)
    clear EwB_19
    have EwF_20 := Lib.hid (EwF_19.out.below (Nat.le_refl _) hst)
    clear EwF_19
    have EwS_20 := Lib.hid (EwS_19.out.below (Nat.le_refl _) hst)
    clear EwS_19
    have EgI_20 := Lib.hid (EgI_19.out.below (Nat.le_refl _) hst)
    clear EgI_19
    have EgB_20 := Lib.hid (EgB_19.out.below (Nat.le_refl _) hst)
    clear EgB_19
    have EgF_20 := Lib.hid (EgF_19.out.below (Nat.le_refl _) hst)
    clear EgF_19
    have EgS_20 := Lib.hid (EgS_19.out.below (Nat.le_refl _) hst)
    clear EgS_19
    have HB20 := Lib.hid (HB19.out.trans (hst.mono z19))
    have z20 : w.heap.size ≤ v20.heap.size := HB20.out.size
    have ch20 : v19.heap.size ≤ v20.heap.size := hst.size
    clear HB19 HBX hst NgF NgS
    clear hx HX
    have HX := Lib.hid (show Below v20.heap.size v20 v20 from Below.refl v20.heap.size v20)
    have HBX := Lib.hid (HB20.out.trans (HX.out.mono z20))
    have aq0 : v20.cell? ⟨w.heap.size, 0, none⟩ = some (.int .i64 st) := Fa_20.out 0 _ rfl
    have aq1 : v20.cell? ⟨w.heap.size, 1, none⟩ = some (.bool mk) := Fa_20.out 1 _ rfl
    have aq2 : v20.cell? ⟨w.heap.size, 2, none⟩ = some (.slice A na ca) := Fa_20.out 2 _ rfl
    have aq3 : v20.cell? ⟨w.heap.size, 3, none⟩ = some (.slice P np cp) := Fa_20.out 3 _ rfl
    go_wp2_with fail
    refine (HT.out _ HBX.out).mono ?_
    rintro e v21 ⟨F21, d21, G21, c21, rfl, ho, hx⟩
    clear aq0 aq1 aq2 aq3
    have hst : Below v20.heap.size v20 v21 := HX.out.trans (hx.mono HX.out.size)
    have Fa_21 := Lib.hid (BoxK.below Fa_20.out hst lta_20)
    have lta_21 : w.heap.size < v21.heap.size := Nat.lt_of_lt_of_le lta_20 hst.size
    clear Fa_20 lta_20
    have Fwv_21 := Lib.hid (BoxK.below Fwv_20.out hst ltwv_20)
    have ltwv_21 : v4.heap.size < v21.heap.size := Nat.lt_of_lt_of_le ltwv_20 hst.size
    clear Fwv_20 ltwv_20
    have Fxv_21 := Lib.hid (BoxK.below Fxv_20.out hst ltxv_20)
    have ltxv_21 : v5.heap.size < v21.heap.size := Nat.lt_of_lt_of_le ltxv_20 hst.size
    clear Fxv_20 ltxv_20
    have Fgv_21 := Lib.hid (BoxK.below Fgv_20.out hst ltgv_20)
    have ltgv_21 : v7.heap.size < v21.heap.size := Nat.lt_of_lt_of_le ltgv_20 hst.size
    clear Fgv_20 ltgv_20
    have EwI_21 := Lib.hid (EwI_20.out.below (Nat.le_refl _) hst)
    clear EwI_20
    have EwB_21 := Lib.hid (EwB_20.out.below (Nat.le_refl _) hst)
    clear EwB_20
    have EwF_21 := Lib.hid (EwF_20.out.below (Nat.le_refl _) hst)
    clear EwF_20
    have EwS_21 := Lib.hid (EwS_20.out.below (Nat.le_refl _) hst)
    clear EwS_20
    have EgI_21 := Lib.hid (EgI_20.out.below (Nat.le_refl _) hst)
    clear EgI_20
    have EgB_21 := Lib.hid (EgB_20.out.below (Nat.le_refl _) hst)
    clear EgB_20
    have EgF_21 := Lib.hid (EgF_20.out.below (Nat.le_refl _) hst)
    clear EgF_20
    have EgS_21 := Lib.hid (EgS_20.out.below (Nat.le_refl _) hst)
    clear EgS_20
    have HB21 := Lib.hid (HB20.out.trans (hst.mono z20))
    have z21 : w.heap.size ≤ v21.heap.size := HB21.out.size
    have ch21 : v20.heap.size ≤ v21.heap.size := hst.size
    clear HB20 HBX hst
    have ho1 := ho.i
    have ho2 := ho.b
    clear ho
    have EyI_21 := Lib.hid (show OwnI v21 (v20.heap.size) F21 na d21 zs from by have h := ho1; first | exact h | (simp only [World.size_alloc] at h; exact h))
    have LyI := Lib.hid (show ∀ i, Blk F21 na d21 i → v20.heap.size ≤ i ∧ i < v21.heap.size from fun i hi => EyI_21.out.blk i hi)
    clear ho1
    have EyB_21 := Lib.hid (show Own v21 (v20.heap.size) G21 np c21 bs from by have h := ho2; first | exact h | (simp only [World.size_alloc] at h; exact h))
    have LyB := Lib.hid (show ∀ i, Blk G21 np c21 i → v20.heap.size ≤ i ∧ i < v21.heap.size from fun i hi => EyB_21.out.blk i hi)
    clear ho2
    clear hx HX
    have HX := Lib.hid (show Below v21.heap.size v21 v21 from Below.refl v21.heap.size v21)
    have HBX := Lib.hid (HB21.out.trans (HX.out.mono z21))
    go_wp2_with fail
    refine (HTY.out _ HBX.out).mono ?_
    rintro e v22 ⟨F22, d22, rfl, ho1, hx⟩
    have hst : Below v21.heap.size v21 v22 := HX.out.trans (hx.mono HX.out.size)
    have Fa_22 := Lib.hid (BoxK.below Fa_21.out hst lta_21)
    have lta_22 : w.heap.size < v22.heap.size := Nat.lt_of_lt_of_le lta_21 hst.size
    clear Fa_21 lta_21
    have Fwv_22 := Lib.hid (BoxK.below Fwv_21.out hst ltwv_21)
    have ltwv_22 : v4.heap.size < v22.heap.size := Nat.lt_of_lt_of_le ltwv_21 hst.size
    clear Fwv_21 ltwv_21
    have Fxv_22 := Lib.hid (BoxK.below Fxv_21.out hst ltxv_21)
    have ltxv_22 : v5.heap.size < v22.heap.size := Nat.lt_of_lt_of_le ltxv_21 hst.size
    clear Fxv_21 ltxv_21
    have Fgv_22 := Lib.hid (BoxK.below Fgv_21.out hst ltgv_21)
    have ltgv_22 : v7.heap.size < v22.heap.size := Nat.lt_of_lt_of_le ltgv_21 hst.size
    clear Fgv_21 ltgv_21
    have EwI_22 := Lib.hid (EwI_21.out.below (Nat.le_refl _) hst)
    clear EwI_21
    have EwB_22 := Lib.hid (EwB_21.out.below (Nat.le_refl _) hst)
    clear EwB_21
    have EwF_22 := Lib.hid (EwF_21.out.below (Nat.le_refl _) hst)
    clear EwF_21
    have EwS_22 := Lib.hid (EwS_21.out.below (Nat.le_refl _) hst)
    clear EwS_21
    have EgI_22 := Lib.hid (EgI_21.out.below (Nat.le_refl _) hst)
    clear EgI_21
    have EgB_22 := Lib.hid (EgB_21.out.below (Nat.le_refl _) hst)
    clear EgB_21
    have EgF_22 := Lib.hid (EgF_21.out.below (Nat.le_refl _) hst)
    clear EgF_21
    have EgS_22 := Lib.hid (EgS_21.out.below (Nat.le_refl _) hst)
    clear EgS_21
    have EyI_22 := Lib.hid (EyI_21.out.below (Nat.le_refl _) hst)
    clear EyI_21
    have EyB_22 := Lib.hid (EyB_21.out.below (Nat.le_refl _) hst)
    clear EyB_21
    have HB22 := Lib.hid (HB21.out.trans (hst.mono z21))
    have z22 : w.heap.size ≤ v22.heap.size := HB22.out.size
    have ch22 : v21.heap.size ≤ v22.heap.size := hst.size
    clear HB21 HBX hst
    have Eyy_22 := Lib.hid (show Own v22 (v21.heap.size) F22 ny d22 ys from by have h := ho1; first | exact h | (simp only [World.size_alloc] at h; exact h))
    have Lyy := Lib.hid (show ∀ i, Blk F22 ny d22 i → v21.heap.size ≤ i ∧ i < v22.heap.size from fun i hi => Eyy_22.out.blk i hi)
    clear ho1
    clear hx HX
    have HX := Lib.hid (show Below v22.heap.size v22 v22 from Below.refl v22.heap.size v22)
    have NyI := Lib.hid (EyI_22.out.below (Nat.le_refl _) HX.out)
    have NyB := Lib.hid (EyB_22.out.below (Nat.le_refl _) HX.out)
    have Nyy := Lib.hid (Eyy_22.out.below (Nat.le_refl _) HX.out)
    have HBX := Lib.hid (HB22.out.trans (HX.out.mono z22))
    go_wp2_with fail
    refine (HIM.out _ _ _ _ _ _ _ _ _ (HTB.out _ HBX.out) ⟨NyI.out, NyB.out⟩ Nyy.out).mono ?_
    rintro e v23 ⟨F23, d23, G23, c23, A23, e23, ds23, rfl, ho1, ho2, ho3, ho4, hma, hap, hx⟩
    have hst : Below v22.heap.size v22 v23 := HX.out.trans (hx.mono HX.out.size)
    have Fa_23 := Lib.hid (BoxK.below Fa_22.out hst lta_22)
    have lta_23 : w.heap.size < v23.heap.size := Nat.lt_of_lt_of_le lta_22 hst.size
    clear Fa_22 lta_22
    have Fwv_23 := Lib.hid (BoxK.below Fwv_22.out hst ltwv_22)
    have ltwv_23 : v4.heap.size < v23.heap.size := Nat.lt_of_lt_of_le ltwv_22 hst.size
    clear Fwv_22 ltwv_22
    have Fxv_23 := Lib.hid (BoxK.below Fxv_22.out hst ltxv_22)
    have ltxv_23 : v5.heap.size < v23.heap.size := Nat.lt_of_lt_of_le ltxv_22 hst.size
    clear Fxv_22 ltxv_22
    have Fgv_23 := Lib.hid (BoxK.below Fgv_22.out hst ltgv_22)
    have ltgv_23 : v7.heap.size < v23.heap.size := Nat.lt_of_lt_of_le ltgv_22 hst.size
    clear Fgv_22 ltgv_22
    have EwI_23 := Lib.hid (EwI_22.out.below (Nat.le_refl _) hst)
    clear EwI_22
    have EwB_23 := Lib.hid (EwB_22.out.below (Nat.le_refl _) hst)
    clear EwB_22
    have EwF_23 := Lib.hid (EwF_22.out.below (Nat.le_refl _) hst)
    clear EwF_22
    have EwS_23 := Lib.hid (EwS_22.out.below (Nat.le_refl _) hst)
    clear EwS_22
    have EgI_23 := Lib.hid (EgI_22.out.below (Nat.le_refl _) hst)
    clear EgI_22
    have EgB_23 := Lib.hid (EgB_22.out.below (Nat.le_refl _) hst)
    clear EgB_22
    have EgF_23 := Lib.hid (EgF_22.out.below (Nat.le_refl _) hst)
    clear EgF_22
    have EgS_23 := Lib.hid (EgS_22.out.below (Nat.le_refl _) hst)
    clear EgS_22
    have EyI_23 := Lib.hid (EyI_22.out.below (Nat.le_refl _) hst)
    clear EyI_22
    have EyB_23 := Lib.hid (EyB_22.out.below (Nat.le_refl _) hst)
    clear EyB_22
    have Eyy_23 := Lib.hid (Eyy_22.out.below (Nat.le_refl _) hst)
    clear Eyy_22
    have HB23 := Lib.hid (HB22.out.trans (hst.mono z22))
    have z23 : w.heap.size ≤ v23.heap.size := HB23.out.size
    have ch23 : v22.heap.size ≤ v23.heap.size := hst.size
    clear HB22 HBX hst NyI NyB Nyy
    have APh := Lib.hid hap
    have MAh := Lib.hid hma
    have N8h := Lib.hid (acts_n ho4 hma H8.out)
    clear hap hma
    have EhI_23 := Lib.hid (show OwnI v23 (v22.heap.size) F23 n1 d23 s3 from by have h := ho1; first | exact h | (simp only [World.size_alloc] at h; exact h))
    have LhI := Lib.hid (show ∀ i, Blk F23 n1 d23 i → v22.heap.size ≤ i ∧ i < v23.heap.size from fun i hi => EhI_23.out.blk i hi)
    clear ho1
    have EhB_23 := Lib.hid (show Own v23 (v22.heap.size) G23 n2 c23 s4 from by have h := ho2; first | exact h | (simp only [World.size_alloc] at h; exact h))
    have LhB := Lib.hid (show ∀ i, Blk G23 n2 c23 i → v22.heap.size ≤ i ∧ i < v23.heap.size from fun i hi => EhB_23.out.blk i hi)
    clear ho2
    have EhF_23 := Lib.hid (show OwnF4 v23 (v22.heap.size) A23 n3 e23 ds23 from by have h := ho3; first | exact h | (simp only [World.size_alloc] at h; exact h))
    have LhF := Lib.hid (show ∀ i, Blk A23 n3 e23 i → v22.heap.size ≤ i ∧ i < v23.heap.size from blkF_lt EhF_23.out)
    clear ho3
    have EhS_23 := Lib.hid (show OwnAs v23 (v22.heap.size) ds23 from by have h := ho4; first | exact h | (simp only [World.size_alloc] at h; exact h))
    have LhS := Lib.hid (show ∀ i, BlkAs ds23 i → v22.heap.size ≤ i ∧ i < v23.heap.size from blkAs_lt EhS_23.out)
    clear ho4
    clear hx HX
    clear EyI_23 LyI
    clear EyB_23 LyB
    clear Eyy_23 Lyy
    have HX := Lib.hid (show Below v23.heap.size v23 (v23.alloc (.cells #[.int .i64 s1, .bool s2, .slice F23 n1 d23, .slice G23 n2 c23] 38)) from (Below.refl v23.heap.size v23).alloc (Nat.le_refl _) _)
    have PBhv := Lib.hid (show BoxK (v23.alloc (.cells #[.int .i64 s1, .bool s2, .slice F23 n1 d23, .slice G23 n2 c23] 38)) (v23.heap.size) [.int .i64 s1, .bool s2, .slice F23 n1 d23, .slice G23 n2 c23] from by have h := BoxK.new v23 [.int .i64 s1, .bool s2, .slice F23 n1 d23, .slice G23 n2 c23] 38; (try simp only [World.size_alloc] at h); exact h)
    have NhI := Lib.hid (EhI_23.out.below (Nat.le_refl _) HX.out)
    have NhB := Lib.hid (EhB_23.out.below (Nat.le_refl _) HX.out)
    have NwI := Lib.hid (EwI_23.out.below (Nat.le_refl _) HX.out)
    have NwB := Lib.hid (EwB_23.out.below (Nat.le_refl _) HX.out)
    have HBX := Lib.hid (HB23.out.trans (HX.out.mono z23))
    have wvq0 : v23.cell? ⟨v4.heap.size, 0, none⟩ = some (.int .i64 s1) := Fwv_23.out 0 _ rfl
    have wvq1 : v23.cell? ⟨v4.heap.size, 1, none⟩ = some (.bool s2) := Fwv_23.out 1 _ rfl
    have wvq2 : v23.cell? ⟨v4.heap.size, 2, none⟩ = some (.slice F4 n1 d4) := Fwv_23.out 2 _ rfl
    have wvq3 : v23.cell? ⟨v4.heap.size, 3, none⟩ = some (.slice G4 n2 c4) := Fwv_23.out 3 _ rfl
    go_wp2_with fail
    refine (eqV s1 s2 ⟨NhI.out, NhB.out⟩ ⟨NwI.out, NwB.out⟩ (by omega)).mono ?_
    rintro e v24 ⟨rfl, hx⟩
    clear wvq0 wvq1 wvq2 wvq3
    have hst : Below v23.heap.size v23 v24 := HX.out.trans (hx.mono HX.out.size)
    have Fa_24 := Lib.hid (BoxK.below Fa_23.out hst lta_23)
    have lta_24 : w.heap.size < v24.heap.size := Nat.lt_of_lt_of_le lta_23 hst.size
    clear Fa_23 lta_23
    have Fwv_24 := Lib.hid (BoxK.below Fwv_23.out hst ltwv_23)
    have ltwv_24 : v4.heap.size < v24.heap.size := Nat.lt_of_lt_of_le ltwv_23 hst.size
    clear Fwv_23 ltwv_23
    have Fxv_24 := Lib.hid (BoxK.below Fxv_23.out hst ltxv_23)
    have ltxv_24 : v5.heap.size < v24.heap.size := Nat.lt_of_lt_of_le ltxv_23 hst.size
    clear Fxv_23 ltxv_23
    have Fgv_24 := Lib.hid (BoxK.below Fgv_23.out hst ltgv_23)
    have ltgv_24 : v7.heap.size < v24.heap.size := Nat.lt_of_lt_of_le ltgv_23 hst.size
    clear Fgv_23 ltgv_23
    have lthv_24 : v23.heap.size < v24.heap.size := by have h1 := hx.size; simp at h1; omega
    have bohv := lthv_24
    have Fhv_24 := Lib.hid (BoxK.below PBhv.out hx (by simp; try omega))
    clear PBhv
    have EwI_24 := Lib.hid (EwI_23.out.below (Nat.le_refl _) hst)
    clear EwI_23
    have EwB_24 := Lib.hid (EwB_23.out.below (Nat.le_refl _) hst)
    clear EwB_23
    have EwF_24 := Lib.hid (EwF_23.out.below (Nat.le_refl _) hst)
    clear EwF_23
    have EwS_24 := Lib.hid (EwS_23.out.below (Nat.le_refl _) hst)
    clear EwS_23
    have EgI_24 := Lib.hid (EgI_23.out.below (Nat.le_refl _) hst)
    clear EgI_23
    have EgB_24 := Lib.hid (EgB_23.out.below (Nat.le_refl _) hst)
    clear EgB_23
    have EgF_24 := Lib.hid (EgF_23.out.below (Nat.le_refl _) hst)
    clear EgF_23
    have EgS_24 := Lib.hid (EgS_23.out.below (Nat.le_refl _) hst)
    clear EgS_23
    have EhI_24 := Lib.hid (EhI_23.out.below (Nat.le_refl _) hst)
    clear EhI_23
    have EhB_24 := Lib.hid (EhB_23.out.below (Nat.le_refl _) hst)
    clear EhB_23
    have EhF_24 := Lib.hid (EhF_23.out.below (Nat.le_refl _) hst)
    clear EhF_23
    have EhS_24 := Lib.hid (EhS_23.out.below (Nat.le_refl _) hst)
    clear EhS_23
    have HB24 := Lib.hid (HB23.out.trans (hst.mono z23))
    have z24 : w.heap.size ≤ v24.heap.size := HB24.out.size
    have ch24 : v23.heap.size ≤ v24.heap.size := hst.size
    clear HB23 HBX hst NhI NhB NwI NwB
    clear hx HX
    have HX := Lib.hid (show Below v24.heap.size v24 v24 from Below.refl v24.heap.size v24)
    have NhF := Lib.hid (EhF_24.out.below (Nat.le_refl _) HX.out)
    have NhS := Lib.hid (EhS_24.out.below (Nat.le_refl _) HX.out)
    have NwF := Lib.hid (EwF_24.out.below (Nat.le_refl _) HX.out)
    have NwS := Lib.hid (EwS_24.out.below (Nat.le_refl _) HX.out)
    have HBX := Lib.hid (HB24.out.trans (HX.out.mono z24))
    go_wp2_with fail
    refine (eqActS_yes _ _ n3 _ _ _ _ _ _ _ NhF.out NhS.out NwF.out NwS.out (MAh.out.trans MAw.out.symm) (fun d hd => (N8h.out d hd).2) (by omega)).mono ?_
    rintro e v25 ⟨rfl, hx⟩
    have hst : Below v24.heap.size v24 v25 := HX.out.trans (hx.mono HX.out.size)
    have Fa_25 := Lib.hid (BoxK.below Fa_24.out hst lta_24)
    have lta_25 : w.heap.size < v25.heap.size := Nat.lt_of_lt_of_le lta_24 hst.size
    clear Fa_24 lta_24
    have Fwv_25 := Lib.hid (BoxK.below Fwv_24.out hst ltwv_24)
    have ltwv_25 : v4.heap.size < v25.heap.size := Nat.lt_of_lt_of_le ltwv_24 hst.size
    clear Fwv_24 ltwv_24
    have Fxv_25 := Lib.hid (BoxK.below Fxv_24.out hst ltxv_24)
    have ltxv_25 : v5.heap.size < v25.heap.size := Nat.lt_of_lt_of_le ltxv_24 hst.size
    clear Fxv_24 ltxv_24
    have Fgv_25 := Lib.hid (BoxK.below Fgv_24.out hst ltgv_24)
    have ltgv_25 : v7.heap.size < v25.heap.size := Nat.lt_of_lt_of_le ltgv_24 hst.size
    clear Fgv_24 ltgv_24
    have Fhv_25 := Lib.hid (BoxK.below Fhv_24.out hst lthv_24)
    have lthv_25 : v23.heap.size < v25.heap.size := Nat.lt_of_lt_of_le lthv_24 hst.size
    clear Fhv_24 lthv_24
    have EwI_25 := Lib.hid (EwI_24.out.below (Nat.le_refl _) hst)
    clear EwI_24
    have EwB_25 := Lib.hid (EwB_24.out.below (Nat.le_refl _) hst)
    clear EwB_24
    have EwF_25 := Lib.hid (EwF_24.out.below (Nat.le_refl _) hst)
    clear EwF_24
    have EwS_25 := Lib.hid (EwS_24.out.below (Nat.le_refl _) hst)
    clear EwS_24
    have EgI_25 := Lib.hid (EgI_24.out.below (Nat.le_refl _) hst)
    clear EgI_24
    have EgB_25 := Lib.hid (EgB_24.out.below (Nat.le_refl _) hst)
    clear EgB_24
    have EgF_25 := Lib.hid (EgF_24.out.below (Nat.le_refl _) hst)
    clear EgF_24
    have EgS_25 := Lib.hid (EgS_24.out.below (Nat.le_refl _) hst)
    clear EgS_24
    have EhI_25 := Lib.hid (EhI_24.out.below (Nat.le_refl _) hst)
    clear EhI_24
    have EhB_25 := Lib.hid (EhB_24.out.below (Nat.le_refl _) hst)
    clear EhB_24
    have EhF_25 := Lib.hid (EhF_24.out.below (Nat.le_refl _) hst)
    clear EhF_24
    have EhS_25 := Lib.hid (EhS_24.out.below (Nat.le_refl _) hst)
    clear EhS_24
    have HB25 := Lib.hid (HB24.out.trans (hst.mono z24))
    have z25 : w.heap.size ≤ v25.heap.size := HB25.out.size
    have ch25 : v24.heap.size ≤ v25.heap.size := hst.size
    clear HB24 HBX hst NhF NhS NwF NwS
    clear hx HX
    have HX := Lib.hid (show Below v25.heap.size v25 v25 from Below.refl v25.heap.size v25)
    have NgI := Lib.hid (EgI_25.out.below (Nat.le_refl _) HX.out)
    have NgB := Lib.hid (EgB_25.out.below (Nat.le_refl _) HX.out)
    have HBX := Lib.hid (HB25.out.trans (HX.out.mono z25))
    have gvq0 : v25.cell? ⟨v7.heap.size, 0, none⟩ = some (.int .i64 s1) := Fgv_25.out 0 _ rfl
    have gvq1 : v25.cell? ⟨v7.heap.size, 1, none⟩ = some (.bool s2) := Fgv_25.out 1 _ rfl
    have gvq2 : v25.cell? ⟨v7.heap.size, 2, none⟩ = some (.slice F7 n1 d7) := Fgv_25.out 2 _ rfl
    have gvq3 : v25.cell? ⟨v7.heap.size, 3, none⟩ = some (.slice G7 n2 c7) := Fgv_25.out 3 _ rfl
    go_wp2_with fail
    refine (heldVp_any s1 s2 _ n1 _ _ n2 _ 1 _ NgI.out.rd NgB.out.rd (by omega) (by omega) (by omega) (by omega)).mono ?_
    rintro e v26 ⟨rfl, hx⟩
    clear gvq0 gvq1 gvq2 gvq3
    have hst : Below v25.heap.size v25 v26 := HX.out.trans (hx.mono HX.out.size)
    have Fa_26 := Lib.hid (BoxK.below Fa_25.out hst lta_25)
    have lta_26 : w.heap.size < v26.heap.size := Nat.lt_of_lt_of_le lta_25 hst.size
    clear Fa_25 lta_25
    have Fwv_26 := Lib.hid (BoxK.below Fwv_25.out hst ltwv_25)
    have ltwv_26 : v4.heap.size < v26.heap.size := Nat.lt_of_lt_of_le ltwv_25 hst.size
    clear Fwv_25 ltwv_25
    have Fxv_26 := Lib.hid (BoxK.below Fxv_25.out hst ltxv_25)
    have ltxv_26 : v5.heap.size < v26.heap.size := Nat.lt_of_lt_of_le ltxv_25 hst.size
    clear Fxv_25 ltxv_25
    have Fgv_26 := Lib.hid (BoxK.below Fgv_25.out hst ltgv_25)
    have ltgv_26 : v7.heap.size < v26.heap.size := Nat.lt_of_lt_of_le ltgv_25 hst.size
    clear Fgv_25 ltgv_25
    have Fhv_26 := Lib.hid (BoxK.below Fhv_25.out hst lthv_25)
    have lthv_26 : v23.heap.size < v26.heap.size := Nat.lt_of_lt_of_le lthv_25 hst.size
    clear Fhv_25 lthv_25
    have EwI_26 := Lib.hid (EwI_25.out.below (Nat.le_refl _) hst)
    clear EwI_25
    have EwB_26 := Lib.hid (EwB_25.out.below (Nat.le_refl _) hst)
    clear EwB_25
    have EwF_26 := Lib.hid (EwF_25.out.below (Nat.le_refl _) hst)
    clear EwF_25
    have EwS_26 := Lib.hid (EwS_25.out.below (Nat.le_refl _) hst)
    clear EwS_25
    have EgI_26 := Lib.hid (EgI_25.out.below (Nat.le_refl _) hst)
    clear EgI_25
    have EgB_26 := Lib.hid (EgB_25.out.below (Nat.le_refl _) hst)
    clear EgB_25
    have EgF_26 := Lib.hid (EgF_25.out.below (Nat.le_refl _) hst)
    clear EgF_25
    have EgS_26 := Lib.hid (EgS_25.out.below (Nat.le_refl _) hst)
    clear EgS_25
    have EhI_26 := Lib.hid (EhI_25.out.below (Nat.le_refl _) hst)
    clear EhI_25
    have EhB_26 := Lib.hid (EhB_25.out.below (Nat.le_refl _) hst)
    clear EhB_25
    have EhF_26 := Lib.hid (EhF_25.out.below (Nat.le_refl _) hst)
    clear EhF_25
    have EhS_26 := Lib.hid (EhS_25.out.below (Nat.le_refl _) hst)
    clear EhS_25
    have HB26 := Lib.hid (HB25.out.trans (hst.mono z25))
    have z26 : w.heap.size ≤ v26.heap.size := HB26.out.size
    have ch26 : v25.heap.size ≤ v26.heap.size := hst.size
    clear HB25 HBX hst NgI NgB
    clear hx HX
    have HX := Lib.hid (show Below v26.heap.size v26 v26 from Below.refl v26.heap.size v26)
    have NgF := Lib.hid (EgF_26.out.below (Nat.le_refl _) HX.out)
    have NgS := Lib.hid (EgS_26.out.below (Nat.le_refl _) HX.out)
    have HBX := Lib.hid (HB26.out.trans (HX.out.mono z26))
    go_wp2_with fail
    refine (heldActS_bl _ n3 _ _ ds7 (1 + n1 + n2) M _ HMM.out NgF.out NgS.out (fun d hd => (N8g.out d hd).1) (by omega) (by omega) (by omega)).mono ?_
    rintro e v27 ⟨rfl, hx⟩
    have hst : Below v26.heap.size v26 v27 := HX.out.trans (hx.mono HX.out.size)
    have Fa_27 := Lib.hid (BoxK.below Fa_26.out hst lta_26)
    have lta_27 : w.heap.size < v27.heap.size := Nat.lt_of_lt_of_le lta_26 hst.size
    clear Fa_26 lta_26
    have Fwv_27 := Lib.hid (BoxK.below Fwv_26.out hst ltwv_26)
    have ltwv_27 : v4.heap.size < v27.heap.size := Nat.lt_of_lt_of_le ltwv_26 hst.size
    clear Fwv_26 ltwv_26
    have Fxv_27 := Lib.hid (BoxK.below Fxv_26.out hst ltxv_26)
    have ltxv_27 : v5.heap.size < v27.heap.size := Nat.lt_of_lt_of_le ltxv_26 hst.size
    clear Fxv_26 ltxv_26
    have Fgv_27 := Lib.hid (BoxK.below Fgv_26.out hst ltgv_26)
    have ltgv_27 : v7.heap.size < v27.heap.size := Nat.lt_of_lt_of_le ltgv_26 hst.size
    clear Fgv_26 ltgv_26
    have Fhv_27 := Lib.hid (BoxK.below Fhv_26.out hst lthv_26)
    have lthv_27 : v23.heap.size < v27.heap.size := Nat.lt_of_lt_of_le lthv_26 hst.size
    clear Fhv_26 lthv_26
    have EwI_27 := Lib.hid (EwI_26.out.below (Nat.le_refl _) hst)
    clear EwI_26
    have EwB_27 := Lib.hid (EwB_26.out.below (Nat.le_refl _) hst)
    clear EwB_26
    have EwF_27 := Lib.hid (EwF_26.out.below (Nat.le_refl _) hst)
    clear EwF_26
    have EwS_27 := Lib.hid (EwS_26.out.below (Nat.le_refl _) hst)
    clear EwS_26
    have EgI_27 := Lib.hid (EgI_26.out.below (Nat.le_refl _) hst)
    clear EgI_26
    have EgB_27 := Lib.hid (EgB_26.out.below (Nat.le_refl _) hst)
    clear EgB_26
    have EgF_27 := Lib.hid (EgF_26.out.below (Nat.le_refl _) hst)
    clear EgF_26
    have EgS_27 := Lib.hid (EgS_26.out.below (Nat.le_refl _) hst)
    clear EgS_26
    have EhI_27 := Lib.hid (EhI_26.out.below (Nat.le_refl _) hst)
    clear EhI_26
    have EhB_27 := Lib.hid (EhB_26.out.below (Nat.le_refl _) hst)
    clear EhB_26
    have EhF_27 := Lib.hid (EhF_26.out.below (Nat.le_refl _) hst)
    clear EhF_26
    have EhS_27 := Lib.hid (EhS_26.out.below (Nat.le_refl _) hst)
    clear EhS_26
    have HB27 := Lib.hid (HB26.out.trans (hst.mono z26))
    have z27 : w.heap.size ≤ v27.heap.size := HB27.out.size
    have ch27 : v26.heap.size ≤ v27.heap.size := hst.size
    clear HB26 HBX hst NgF NgS
    clear hx HX
    go_wp2_with fail
    go_ret
    exact ⟨rfl, HB27.out⟩
end Go.Proofs.YtfdbmhelcmifoaaDoor.VpBytesL
