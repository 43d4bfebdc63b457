/- FnExactVpByte: the walk of the law from the contracts of the program, of its model and of the laws' helpers; at every input, under the row's own condition on the listed variables. -/
import Derived.Test.YtfdbmhelcmifoaaDoorVpX
import Derived.Deep.RegionWith
import Derived.Deep.Cut
import Derived.Deep.CutRange
import Derived.Deep.DeepCutAuto
import Derived.Deep.DrawnRows
namespace Go.Proofs.YtfdbmhelcmifoaaDoor.VpByteL
open Go.RowKit Go.Proofs.YtfdbmhelcmifoaaDoor.Bytes Go.Proofs.YtfdbmhelcmifoaaDoor.DOk Go.Proofs.YtfdbmhelcmifoaaDoor.Rune Go.Proofs.YtfdbmhelcmifoaaDoor.RowK Go.Proofs.YtfdbmhelcmifoaaDoor.Gr Go.Proofs.YtfdbmhelcmifoaaDoor.Vp
set_option linter.unusedVariables false
attribute [local go_sem ↓] Go.wp_at_zero Go.wp_at_succ
set_option maxRecDepth 100000 in
set_option maxHeartbeats 16000000 in
theorem walk (st : Int) (mk : Bool) (A : Option Addr) (na ca : Nat) (zs : List Int) (P : Option Addr) (np cp : Nat) (bs : List Int) (b : Int) (w : World) (hr : RdI w w.heap.size A zs) (hl : zs.length = na) (hn : na ≤ 9223372036854775807) (hp : Rd w w.heap.size P bs) (hpl : bs.length = np) (hpn : np ≤ 9223372036854775807) (hg : Rng bs) (hwb : (Lit.int .i64 b).wf = true) (hT : Dec.Tabs8 w) :
    Calls Tryd.prog 4 #[.agg #[.int .i64 st, .bool mk, .slice A na ca, .slice P np cp], .int .i64 b] w fun e w' => e = .returned (.bool true) ∧ Below w.heap.size w w' := by
  have HB0 := Lib.hid (Below.refl w.heap.size w)
  have z0 : w.heap.size ≤ w.heap.size := Nat.le_refl _
  by_cases hbig : ¬ na + np ≤ 1048576
  · have HSZ := Lib.hid (fun W => szVp_big st mk A na ca P np cp W hn hpn hbig)
    have hb0 := Lib.hid ((Below.refl w.heap.size w).alloc (Nat.le_refl _) (.cells #[.int .i64 st, .bool mk, .slice A na ca, .slice P np cp] 25))
    clear hr hl hp hpl hg hT
    go_enter Tryd.func4, Tryd.ntmps4
    go_wp2_with fail
    refine (HSZ.out _).mono ?_
    rintro e v1 ⟨rfl, hx1⟩
    have HB1 := Lib.hid (hb0.out.trans (hx1.mono (by simp <;> omega)))
    clear hx1
    go_wp2_with fail
    go_ret
    exact ⟨rfl, HB1.out⟩
  have hN : na + np ≤ 1048576 := by omega
  clear hbig
  have HSZ := Lib.hid (fun W => szVp_ok st mk A na ca P np cp W hN)
  have HT := Lib.hid (fun W (h : Below w.heap.size w W) => toV (W := W) st mk A na ca zs P np cp bs hr hl hp hpl hN h)
  have HTB := Lib.hid (fun W (h : Below w.heap.size w W) => tabs_below hT h)
  obtain ⟨s1, s2, s3, s4, a1, a2, a3, a4, n1, n2, n3, ⟨hn1, hn2, hn3⟩, hsp, him⟩ := vp_letters st mk na zs np bs b hg hN
  have HSP := Lib.hid hsp
  have HIM := Lib.hid him
  clear hr hl hp hpl hg hT hsp him hwb
  have hlf : 0 ≤ 1048576 - (na : Int) - (np : Int) := by omega
  have hk0 : 0 ≤ 1 + (na : Int) + np := by omega
  have hm1 : 0 ≤ 1 + (n1 : Int) + n2 := by omega
  have hm2 : 0 ≤ 1 + (n1 : Int) + n2 + n3 := by omega
  have hmm : (1 + (n1 : Int) + n2 + n3 != 1 + (n1 : Int) + n2 + n3) = false := by simp
  go_enter Tryd.func4, Tryd.ntmps4
  have HX := Lib.hid (show Below w.heap.size w (w.alloc (.cells #[.int .i64 st, .bool mk, .slice A na ca, .slice P np cp] 25)) from (Below.refl w.heap.size w).alloc (Nat.le_refl _) _)
  have PBa := Lib.hid (show BoxK (w.alloc (.cells #[.int .i64 st, .bool mk, .slice A na ca, .slice P np cp] 25)) (w.heap.size) [.int .i64 st, .bool mk, .slice A na ca, .slice P np cp] from by have h := BoxK.new w [.int .i64 st, .bool mk, .slice A na ca, .slice P np cp] 25; (try simp only [World.size_alloc] at h); exact h)
  have HBX := Lib.hid (HB0.out.trans (HX.out.mono z0))
  go_wp2_with fail
  refine (HSZ.out _).mono ?_
  rintro e v1 ⟨rfl, hx⟩
  have hst : Below w.heap.size w v1 := HX.out.trans (hx.mono HX.out.size)
  have lta_1 : w.heap.size < v1.heap.size := by have h1 := hx.size; simp at h1; omega
  have boa := lta_1
  have Fa_1 := Lib.hid (BoxK.below PBa.out hx (by simp; try omega))
  clear PBa
  have HB1 := Lib.hid (HB0.out.trans (hst.mono z0))
  have z1 : w.heap.size ≤ v1.heap.size := HB1.out.size
  have ch1 : w.heap.size ≤ v1.heap.size := hst.size
  clear HB0 HBX hst
  clear HSZ hx HX
  have HX := Lib.hid (show Below v1.heap.size v1 v1 from Below.refl v1.heap.size v1)
  have HBX := Lib.hid (HB1.out.trans (HX.out.mono z1))
  have aq0 : v1.cell? ⟨w.heap.size, 0, none⟩ = some (.int .i64 st) := Fa_1.out 0 _ rfl
  have aq1 : v1.cell? ⟨w.heap.size, 1, none⟩ = some (.bool mk) := Fa_1.out 1 _ rfl
  have aq2 : v1.cell? ⟨w.heap.size, 2, none⟩ = some (.slice A na ca) := Fa_1.out 2 _ rfl
  have aq3 : v1.cell? ⟨w.heap.size, 3, none⟩ = some (.slice P np cp) := Fa_1.out 3 _ rfl
  go_wp2_with fail
  refine (HT.out _ HBX.out).mono ?_
  rintro e v2 ⟨F2, d2, G2, c2, rfl, ho, hx⟩
  clear aq0 aq1 aq2 aq3
  have hst : Below v1.heap.size v1 v2 := HX.out.trans (hx.mono HX.out.size)
  have Fa_2 := Lib.hid (BoxK.below Fa_1.out hst lta_1)
  have lta_2 : w.heap.size < v2.heap.size := Nat.lt_of_lt_of_le lta_1 hst.size
  clear Fa_1 lta_1
  have HB2 := Lib.hid (HB1.out.trans (hst.mono z1))
  have z2 : w.heap.size ≤ v2.heap.size := HB2.out.size
  have ch2 : v1.heap.size ≤ v2.heap.size := hst.size
  clear HB1 HBX hst
  have ho1 := ho.i
  have ho2 := ho.b
  clear ho
  have EcI_2 := Lib.hid (show OwnI v2 (v1.heap.size) F2 na d2 zs from by have h := ho1; first | exact h | (simp only [World.size_alloc] at h; exact h))
  have LcI := Lib.hid (show ∀ i, Blk F2 na d2 i → v1.heap.size ≤ i ∧ i < v2.heap.size from fun i hi => EcI_2.out.blk i hi)
  clear ho1
  have EcB_2 := Lib.hid (show Own v2 (v1.heap.size) G2 np c2 bs from by have h := ho2; first | exact h | (simp only [World.size_alloc] at h; exact h))
  have LcB := Lib.hid (show ∀ i, Blk G2 np c2 i → v1.heap.size ≤ i ∧ i < v2.heap.size from fun i hi => EcB_2.out.blk i hi)
  clear ho2
  clear hx HX
  have HX := Lib.hid (show Below v2.heap.size v2 v2 from Below.refl v2.heap.size v2)
  have NcI := Lib.hid (EcI_2.out.below (Nat.le_refl _) HX.out)
  have NcB := Lib.hid (EcB_2.out.below (Nat.le_refl _) HX.out)
  have HBX := Lib.hid (HB2.out.trans (HX.out.mono z2))
  go_wp2_with fail
  refine (HSP.out _ _ _ _ _ _ ⟨NcI.out, NcB.out⟩).mono ?_
  rintro e v3 ⟨F3, d3, G3, c3, A3, e3, rfl, ho1, ho2, ho3, hap, hx⟩
  have hst : Below v2.heap.size v2 v3 := HX.out.trans (hx.mono HX.out.size)
  have Fa_3 := Lib.hid (BoxK.below Fa_2.out hst lta_2)
  have lta_3 : w.heap.size < v3.heap.size := Nat.lt_of_lt_of_le lta_2 hst.size
  clear Fa_2 lta_2
  have EcI_3 := Lib.hid (EcI_2.out.below (Nat.le_refl _) hst)
  clear EcI_2
  have EcB_3 := Lib.hid (EcB_2.out.below (Nat.le_refl _) hst)
  clear EcB_2
  have HB3 := Lib.hid (HB2.out.trans (hst.mono z2))
  have z3 : w.heap.size ≤ v3.heap.size := HB3.out.size
  have ch3 : v2.heap.size ≤ v3.heap.size := hst.size
  clear HB2 HBX hst NcI NcB
  have APw := Lib.hid hap
  clear hap
  have EwI_3 := Lib.hid (show OwnI v3 (v2.heap.size) F3 n1 d3 s3 from by have h := ho1; first | exact h | (simp only [World.size_alloc] at h; exact h))
  have LwI := Lib.hid (show ∀ i, Blk F3 n1 d3 i → v2.heap.size ≤ i ∧ i < v3.heap.size from fun i hi => EwI_3.out.blk i hi)
  clear ho1
  have EwB_3 := Lib.hid (show Own v3 (v2.heap.size) G3 n2 c3 s4 from by have h := ho2; first | exact h | (simp only [World.size_alloc] at h; exact h))
  have LwB := Lib.hid (show ∀ i, Blk G3 n2 c3 i → v2.heap.size ≤ i ∧ i < v3.heap.size from fun i hi => EwB_3.out.blk i hi)
  clear ho2
  have EwA_3 := Lib.hid (show OwnI v3 (v2.heap.size) A3 n3 e3 a4 from by have h := ho3; first | exact h | (simp only [World.size_alloc] at h; exact h))
  have LwA := Lib.hid (show ∀ i, Blk A3 n3 e3 i → v2.heap.size ≤ i ∧ i < v3.heap.size from fun i hi => EwA_3.out.blk i hi)
  clear ho3
  clear hx HX
  clear EcI_3 LcI
  clear EcB_3 LcB
  have HX := Lib.hid (show Below v3.heap.size v3 ((v3.alloc (.cells #[.int .i64 s1, .bool s2, .slice F3 n1 d3, .slice G3 n2 c3] 38)).alloc (.cells #[.int .i64 a1, .int .i64 a2, .bool a3, .slice A3 n3 e3] 53)) from ((Below.refl v3.heap.size v3).alloc (Nat.le_refl _) _).alloc (by simp) _)
  have PBwv := Lib.hid (show BoxK ((v3.alloc (.cells #[.int .i64 s1, .bool s2, .slice F3 n1 d3, .slice G3 n2 c3] 38)).alloc (.cells #[.int .i64 a1, .int .i64 a2, .bool a3, .slice A3 n3 e3] 53)) (v3.heap.size) [.int .i64 s1, .bool s2, .slice F3 n1 d3, .slice G3 n2 c3] from by have h := BoxK.new v3 [.int .i64 s1, .bool s2, .slice F3 n1 d3, .slice G3 n2 c3] 38; (try simp only [World.size_alloc] at h); exact BoxK.alloc (h) (by simp; try omega) _)
  have PBwa := Lib.hid (show BoxK ((v3.alloc (.cells #[.int .i64 s1, .bool s2, .slice F3 n1 d3, .slice G3 n2 c3] 38)).alloc (.cells #[.int .i64 a1, .int .i64 a2, .bool a3, .slice A3 n3 e3] 53)) (v3.heap.size + 1) [.int .i64 a1, .int .i64 a2, .bool a3, .slice A3 n3 e3] from by have h := BoxK.new (v3.alloc (.cells #[.int .i64 s1, .bool s2, .slice F3 n1 d3, .slice G3 n2 c3] 38)) [.int .i64 a1, .int .i64 a2, .bool a3, .slice A3 n3 e3] 53; (try simp only [World.size_alloc] at h); exact h)
  have HBX := Lib.hid (HB3.out.trans (HX.out.mono z3))
  have aq0 : v3.cell? ⟨w.heap.size, 0, none⟩ = some (.int .i64 st) := Fa_3.out 0 _ rfl
  have aq1 : v3.cell? ⟨w.heap.size, 1, none⟩ = some (.bool mk) := Fa_3.out 1 _ rfl
  have aq2 : v3.cell? ⟨w.heap.size, 2, none⟩ = some (.slice A na ca) := Fa_3.out 2 _ rfl
  have aq3 : v3.cell? ⟨w.heap.size, 3, none⟩ = some (.slice P np cp) := Fa_3.out 3 _ rfl
  have alp : w.heap.size < v3.heap.size + 1 := by omega
  go_wp2_with fail
  refine (HT.out _ HBX.out).mono ?_
  rintro e v4 ⟨F4, d4, G4, c4, rfl, ho, hx⟩
  clear aq0 aq1 aq2 aq3 alp
  have hst : Below v3.heap.size v3 v4 := HX.out.trans (hx.mono HX.out.size)
  have Fa_4 := Lib.hid (BoxK.below Fa_3.out hst lta_3)
  have lta_4 : w.heap.size < v4.heap.size := Nat.lt_of_lt_of_le lta_3 hst.size
  clear Fa_3 lta_3
  have ltwv_4 : v3.heap.size < v4.heap.size := by have h1 := hx.size; simp at h1; omega
  have bowv := ltwv_4
  have Fwv_4 := Lib.hid (BoxK.below PBwv.out hx (by simp; try omega))
  clear PBwv
  have ltwa_4 : v3.heap.size + 1 < v4.heap.size := by have h1 := hx.size; simp at h1; omega
  have bowa := ltwa_4
  have Fwa_4 := Lib.hid (BoxK.below PBwa.out hx (by simp; try omega))
  clear PBwa
  have EwI_4 := Lib.hid (EwI_3.out.below (Nat.le_refl _) hst)
  clear EwI_3
  have EwB_4 := Lib.hid (EwB_3.out.below (Nat.le_refl _) hst)
  clear EwB_3
  have EwA_4 := Lib.hid (EwA_3.out.below (Nat.le_refl _) hst)
  clear EwA_3
  have HB4 := Lib.hid (HB3.out.trans (hst.mono z3))
  have z4 : w.heap.size ≤ v4.heap.size := HB4.out.size
  have ch4 : v3.heap.size ≤ v4.heap.size := hst.size
  clear HB3 HBX hst
  have ho1 := ho.i
  have ho2 := ho.b
  clear ho
  have ExI_4 := Lib.hid (show OwnI v4 (v3.heap.size + 1 + 1) F4 na d4 zs from by have h := ho1; first | exact h | (simp only [World.size_alloc] at h; exact h))
  have LxI := Lib.hid (show ∀ i, Blk F4 na d4 i → v3.heap.size + 1 + 1 ≤ i ∧ i < v4.heap.size from fun i hi => ExI_4.out.blk i hi)
  clear ho1
  have ExB_4 := Lib.hid (show Own v4 (v3.heap.size + 1 + 1) G4 np c4 bs from by have h := ho2; first | exact h | (simp only [World.size_alloc] at h; exact h))
  have LxB := Lib.hid (show ∀ i, Blk G4 np c4 i → v3.heap.size + 1 + 1 ≤ i ∧ i < v4.heap.size from fun i hi => ExB_4.out.blk i hi)
  clear ho2
  clear hx HX
  have HX := Lib.hid (show Below v4.heap.size v4 (v4.alloc (.cells #[.int .i64 st, .bool mk, .slice F4 na d4, .slice G4 np c4] 38)) from (Below.refl v4.heap.size v4).alloc (Nat.le_refl _) _)
  have PBxv := Lib.hid (show BoxK (v4.alloc (.cells #[.int .i64 st, .bool mk, .slice F4 na d4, .slice G4 np c4] 38)) (v4.heap.size) [.int .i64 st, .bool mk, .slice F4 na d4, .slice G4 np c4] from by have h := BoxK.new v4 [.int .i64 st, .bool mk, .slice F4 na d4, .slice G4 np c4] 38; (try simp only [World.size_alloc] at h); exact h)
  have NxI := Lib.hid (ExI_4.out.below (Nat.le_refl _) HX.out)
  have NxB := Lib.hid (ExB_4.out.below (Nat.le_refl _) HX.out)
  have HBX := Lib.hid (HB4.out.trans (HX.out.mono z4))
  go_wp2_with fail
  refine (HIM.out _ _ _ _ _ _ (HTB.out _ HBX.out) ⟨NxI.out, NxB.out⟩).mono ?_
  rintro e v5 ⟨F5, d5, G5, c5, A5, e5, rfl, ho1, ho2, ho3, hap, hx⟩
  have hst : Below v4.heap.size v4 v5 := HX.out.trans (hx.mono HX.out.size)
  have Fa_5 := Lib.hid (BoxK.below Fa_4.out hst lta_4)
  have lta_5 : w.heap.size < v5.heap.size := Nat.lt_of_lt_of_le lta_4 hst.size
  clear Fa_4 lta_4
  have Fwv_5 := Lib.hid (BoxK.below Fwv_4.out hst ltwv_4)
  have ltwv_5 : v3.heap.size < v5.heap.size := Nat.lt_of_lt_of_le ltwv_4 hst.size
  clear Fwv_4 ltwv_4
  have Fwa_5 := Lib.hid (BoxK.below Fwa_4.out hst ltwa_4)
  have ltwa_5 : v3.heap.size + 1 < v5.heap.size := Nat.lt_of_lt_of_le ltwa_4 hst.size
  clear Fwa_4 ltwa_4
  have ltxv_5 : v4.heap.size < v5.heap.size := by have h1 := hx.size; simp at h1; omega
  have boxv := ltxv_5
  have Fxv_5 := Lib.hid (BoxK.below PBxv.out hx (by simp; try omega))
  clear PBxv
  have EwI_5 := Lib.hid (EwI_4.out.below (Nat.le_refl _) hst)
  clear EwI_4
  have EwB_5 := Lib.hid (EwB_4.out.below (Nat.le_refl _) hst)
  clear EwB_4
  have EwA_5 := Lib.hid (EwA_4.out.below (Nat.le_refl _) hst)
  clear EwA_4
  have ExI_5 := Lib.hid (ExI_4.out.below (Nat.le_refl _) hst)
  clear ExI_4
  have ExB_5 := Lib.hid (ExB_4.out.below (Nat.le_refl _) hst)
  clear ExB_4
  have HB5 := Lib.hid (HB4.out.trans (hst.mono z4))
  have z5 : w.heap.size ≤ v5.heap.size := HB5.out.size
  have ch5 : v4.heap.size ≤ v5.heap.size := hst.size
  clear HB4 HBX hst NxI NxB
  have APg := Lib.hid hap
  clear hap
  have EgI_5 := Lib.hid (show OwnI v5 (v4.heap.size + 1) F5 n1 d5 s3 from by have h := ho1; first | exact h | (simp only [World.size_alloc] at h; exact h))
  have LgI := Lib.hid (show ∀ i, Blk F5 n1 d5 i → v4.heap.size + 1 ≤ i ∧ i < v5.heap.size from fun i hi => EgI_5.out.blk i hi)
  clear ho1
  have EgB_5 := Lib.hid (show Own v5 (v4.heap.size + 1) G5 n2 c5 s4 from by have h := ho2; first | exact h | (simp only [World.size_alloc] at h; exact h))
  have LgB := Lib.hid (show ∀ i, Blk G5 n2 c5 i → v4.heap.size + 1 ≤ i ∧ i < v5.heap.size from fun i hi => EgB_5.out.blk i hi)
  clear ho2
  have EgA_5 := Lib.hid (show OwnI v5 (v4.heap.size + 1) A5 n3 e5 a4 from by have h := ho3; first | exact h | (simp only [World.size_alloc] at h; exact h))
  have LgA := Lib.hid (show ∀ i, Blk A5 n3 e5 i → v4.heap.size + 1 ≤ i ∧ i < v5.heap.size from fun i hi => EgA_5.out.blk i hi)
  clear ho3
  clear hx HX
  have HX := Lib.hid (show Below v5.heap.size v5 ((v5.alloc (.cells #[.int .i64 s1, .bool s2, .slice F5 n1 d5, .slice G5 n2 c5] 38)).alloc (.cells #[.int .i64 a1, .int .i64 a2, .bool a3, .slice A5 n3 e5] 53)) from ((Below.refl v5.heap.size v5).alloc (Nat.le_refl _) _).alloc (by simp) _)
  have PBgv := Lib.hid (show BoxK ((v5.alloc (.cells #[.int .i64 s1, .bool s2, .slice F5 n1 d5, .slice G5 n2 c5] 38)).alloc (.cells #[.int .i64 a1, .int .i64 a2, .bool a3, .slice A5 n3 e5] 53)) (v5.heap.size) [.int .i64 s1, .bool s2, .slice F5 n1 d5, .slice G5 n2 c5] from by have h := BoxK.new v5 [.int .i64 s1, .bool s2, .slice F5 n1 d5, .slice G5 n2 c5] 38; (try simp only [World.size_alloc] at h); exact BoxK.alloc (h) (by simp; try omega) _)
  have PBga := Lib.hid (show BoxK ((v5.alloc (.cells #[.int .i64 s1, .bool s2, .slice F5 n1 d5, .slice G5 n2 c5] 38)).alloc (.cells #[.int .i64 a1, .int .i64 a2, .bool a3, .slice A5 n3 e5] 53)) (v5.heap.size + 1) [.int .i64 a1, .int .i64 a2, .bool a3, .slice A5 n3 e5] from by have h := BoxK.new (v5.alloc (.cells #[.int .i64 s1, .bool s2, .slice F5 n1 d5, .slice G5 n2 c5] 38)) [.int .i64 a1, .int .i64 a2, .bool a3, .slice A5 n3 e5] 53; (try simp only [World.size_alloc] at h); exact h)
  have NgI := Lib.hid (EgI_5.out.below (Nat.le_refl _) HX.out)
  have NgB := Lib.hid (EgB_5.out.below (Nat.le_refl _) HX.out)
  have NwI := Lib.hid (EwI_5.out.below (Nat.le_refl _) HX.out)
  have NwB := Lib.hid (EwB_5.out.below (Nat.le_refl _) HX.out)
  have HBX := Lib.hid (HB5.out.trans (HX.out.mono z5))
  have wvq0 : v5.cell? ⟨v3.heap.size, 0, none⟩ = some (.int .i64 s1) := Fwv_5.out 0 _ rfl
  have wvq1 : v5.cell? ⟨v3.heap.size, 1, none⟩ = some (.bool s2) := Fwv_5.out 1 _ rfl
  have wvq2 : v5.cell? ⟨v3.heap.size, 2, none⟩ = some (.slice F3 n1 d3) := Fwv_5.out 2 _ rfl
  have wvq3 : v5.cell? ⟨v3.heap.size, 3, none⟩ = some (.slice G3 n2 c3) := Fwv_5.out 3 _ rfl
  have wvlp : v3.heap.size < v5.heap.size + 1 := by omega
  go_wp2_with fail
  refine (eqV s1 s2 ⟨NgI.out, NgB.out⟩ ⟨NwI.out, NwB.out⟩ (by omega)).mono ?_
  rintro e v6 ⟨rfl, hx⟩
  clear wvq0 wvq1 wvq2 wvq3 wvlp
  have hst : Below v5.heap.size v5 v6 := HX.out.trans (hx.mono HX.out.size)
  have Fa_6 := Lib.hid (BoxK.below Fa_5.out hst lta_5)
  have lta_6 : w.heap.size < v6.heap.size := Nat.lt_of_lt_of_le lta_5 hst.size
  clear Fa_5 lta_5
  have Fwv_6 := Lib.hid (BoxK.below Fwv_5.out hst ltwv_5)
  have ltwv_6 : v3.heap.size < v6.heap.size := Nat.lt_of_lt_of_le ltwv_5 hst.size
  clear Fwv_5 ltwv_5
  have Fwa_6 := Lib.hid (BoxK.below Fwa_5.out hst ltwa_5)
  have ltwa_6 : v3.heap.size + 1 < v6.heap.size := Nat.lt_of_lt_of_le ltwa_5 hst.size
  clear Fwa_5 ltwa_5
  have Fxv_6 := Lib.hid (BoxK.below Fxv_5.out hst ltxv_5)
  have ltxv_6 : v4.heap.size < v6.heap.size := Nat.lt_of_lt_of_le ltxv_5 hst.size
  clear Fxv_5 ltxv_5
  have ltgv_6 : v5.heap.size < v6.heap.size := by have h1 := hx.size; simp at h1; omega
  have bogv := ltgv_6
  have Fgv_6 := Lib.hid (BoxK.below PBgv.out hx (by simp; try omega))
  clear PBgv
  have ltga_6 : v5.heap.size + 1 < v6.heap.size := by have h1 := hx.size; simp at h1; omega
  have boga := ltga_6
  have Fga_6 := Lib.hid (BoxK.below PBga.out hx (by simp; try omega))
  clear PBga
  have EwI_6 := Lib.hid (EwI_5.out.below (Nat.le_refl _) hst)
  clear EwI_5
  have EwB_6 := Lib.hid (EwB_5.out.below (Nat.le_refl _) hst)
  clear EwB_5
  have EwA_6 := Lib.hid (EwA_5.out.below (Nat.le_refl _) hst)
  clear EwA_5
  have ExI_6 := Lib.hid (ExI_5.out.below (Nat.le_refl _) hst)
  clear ExI_5
  have ExB_6 := Lib.hid (ExB_5.out.below (Nat.le_refl _) hst)
  clear ExB_5
  have EgI_6 := Lib.hid (EgI_5.out.below (Nat.le_refl _) hst)
  clear EgI_5
  have EgB_6 := Lib.hid (EgB_5.out.below (Nat.le_refl _) hst)
  clear EgB_5
  have EgA_6 := Lib.hid (EgA_5.out.below (Nat.le_refl _) hst)
  clear EgA_5
  have HB6 := Lib.hid (HB5.out.trans (hst.mono z5))
  have z6 : w.heap.size ≤ v6.heap.size := HB6.out.size
  have ch6 : v5.heap.size ≤ v6.heap.size := hst.size
  clear HB5 HBX hst NgI NgB NwI NwB
  clear hx HX
  have HX := Lib.hid (show Below v6.heap.size v6 v6 from Below.refl v6.heap.size v6)
  have NgA := Lib.hid (EgA_6.out.below (Nat.le_refl _) HX.out)
  have NwA := Lib.hid (EwA_6.out.below (Nat.le_refl _) HX.out)
  have HBX := Lib.hid (HB6.out.trans (HX.out.mono z6))
  have gaq0 : v6.cell? ⟨v5.heap.size + 1, 0, none⟩ = some (.int .i64 a1) := Fga_6.out 0 _ rfl
  have gaq1 : v6.cell? ⟨v5.heap.size + 1, 1, none⟩ = some (.int .i64 a2) := Fga_6.out 1 _ rfl
  have gaq2 : v6.cell? ⟨v5.heap.size + 1, 2, none⟩ = some (.bool a3) := Fga_6.out 2 _ rfl
  have gaq3 : v6.cell? ⟨v5.heap.size + 1, 3, none⟩ = some (.slice A5 n3 e5) := Fga_6.out 3 _ rfl
  have waq0 : v6.cell? ⟨v3.heap.size + 1, 0, none⟩ = some (.int .i64 a1) := Fwa_6.out 0 _ rfl
  have waq1 : v6.cell? ⟨v3.heap.size + 1, 1, none⟩ = some (.int .i64 a2) := Fwa_6.out 1 _ rfl
  have waq2 : v6.cell? ⟨v3.heap.size + 1, 2, none⟩ = some (.bool a3) := Fwa_6.out 2 _ rfl
  have waq3 : v6.cell? ⟨v3.heap.size + 1, 3, none⟩ = some (.slice A3 n3 e3) := Fwa_6.out 3 _ rfl
  go_wp2_with fail
  refine (eqAct_yes a1 a2 a3 _ _ n3 _ _ a4 _ NgA.out.rd NwA.out.rd NgA.out.len (by omega)).mono ?_
  rintro e v7 ⟨rfl, hx⟩
  clear gaq0 gaq1 gaq2 gaq3
  clear waq0 waq1 waq2 waq3
  have hst : Below v6.heap.size v6 v7 := HX.out.trans (hx.mono HX.out.size)
  have Fa_7 := Lib.hid (BoxK.below Fa_6.out hst lta_6)
  have lta_7 : w.heap.size < v7.heap.size := Nat.lt_of_lt_of_le lta_6 hst.size
  clear Fa_6 lta_6
  have Fwv_7 := Lib.hid (BoxK.below Fwv_6.out hst ltwv_6)
  have ltwv_7 : v3.heap.size < v7.heap.size := Nat.lt_of_lt_of_le ltwv_6 hst.size
  clear Fwv_6 ltwv_6
  have Fwa_7 := Lib.hid (BoxK.below Fwa_6.out hst ltwa_6)
  have ltwa_7 : v3.heap.size + 1 < v7.heap.size := Nat.lt_of_lt_of_le ltwa_6 hst.size
  clear Fwa_6 ltwa_6
  have Fxv_7 := Lib.hid (BoxK.below Fxv_6.out hst ltxv_6)
  have ltxv_7 : v4.heap.size < v7.heap.size := Nat.lt_of_lt_of_le ltxv_6 hst.size
  clear Fxv_6 ltxv_6
  have Fgv_7 := Lib.hid (BoxK.below Fgv_6.out hst ltgv_6)
  have ltgv_7 : v5.heap.size < v7.heap.size := Nat.lt_of_lt_of_le ltgv_6 hst.size
  clear Fgv_6 ltgv_6
  have Fga_7 := Lib.hid (BoxK.below Fga_6.out hst ltga_6)
  have ltga_7 : v5.heap.size + 1 < v7.heap.size := Nat.lt_of_lt_of_le ltga_6 hst.size
  clear Fga_6 ltga_6
  have EwI_7 := Lib.hid (EwI_6.out.below (Nat.le_refl _) hst)
  clear EwI_6
  have EwB_7 := Lib.hid (EwB_6.out.below (Nat.le_refl _) hst)
  clear EwB_6
  have EwA_7 := Lib.hid (EwA_6.out.below (Nat.le_refl _) hst)
  clear EwA_6
  have ExI_7 := Lib.hid (ExI_6.out.below (Nat.le_refl _) hst)
  clear ExI_6
  have ExB_7 := Lib.hid (ExB_6.out.below (Nat.le_refl _) hst)
  clear ExB_6
  have EgI_7 := Lib.hid (EgI_6.out.below (Nat.le_refl _) hst)
  clear EgI_6
  have EgB_7 := Lib.hid (EgB_6.out.below (Nat.le_refl _) hst)
  clear EgB_6
  have EgA_7 := Lib.hid (EgA_6.out.below (Nat.le_refl _) hst)
  clear EgA_6
  have HB7 := Lib.hid (HB6.out.trans (hst.mono z6))
  have z7 : w.heap.size ≤ v7.heap.size := HB7.out.size
  have ch7 : v6.heap.size ≤ v7.heap.size := hst.size
  clear HB6 HBX hst NgA NwA
  clear hx HX
  have aq0 : v7.cell? ⟨w.heap.size, 0, none⟩ = some (.int .i64 st) := Fa_7.out 0 _ rfl
  have aq1 : v7.cell? ⟨w.heap.size, 1, none⟩ = some (.bool mk) := Fa_7.out 1 _ rfl
  have aq2 : v7.cell? ⟨w.heap.size, 2, none⟩ = some (.slice A na ca) := Fa_7.out 2 _ rfl
  have aq3 : v7.cell? ⟨w.heap.size, 3, none⟩ = some (.slice P np cp) := Fa_7.out 3 _ rfl
  have xvq0 : v7.cell? ⟨v4.heap.size, 0, none⟩ = some (.int .i64 st) := Fxv_7.out 0 _ rfl
  have xvq1 : v7.cell? ⟨v4.heap.size, 1, none⟩ = some (.bool mk) := Fxv_7.out 1 _ rfl
  have xvq2 : v7.cell? ⟨v4.heap.size, 2, none⟩ = some (.slice F4 na d4) := Fxv_7.out 2 _ rfl
  have xvq3 : v7.cell? ⟨v4.heap.size, 3, none⟩ = some (.slice G4 np c4) := Fxv_7.out 3 _ rfl
  go_upto_region 10 with fail
  go_cut [50] (fun s wx => s = .bool false ∧ Below v7.heap.size v7 wx)
  case first =>
    go_region_with (first
      | (go_at_call 13; refine (HT.out _ ?_).mono ?_; exact ⟨HB7.out.os, HB7.out.tape, HB7.out.output, HB7.out.size, HB7.out.block⟩; rintro e y1 ⟨Fy, dy, Gy, cy, rfl, hoy, hxy'⟩; have hxy : Below v7.heap.size v7 y1 := undrew hxy'; clear hxy'; have HOY := Lib.hid hoy; have HP1 := Lib.hid (ExI_7.out.below (Nat.le_refl _) hxy); have HP2 := Lib.hid (ExB_7.out.below (Nat.le_refl _) hxy); obtain ⟨r0, r1, r2, r3⟩ : y1.cell? ⟨v4.heap.size, 0, none⟩ = some (.int .i64 st) ∧ y1.cell? ⟨v4.heap.size, 1, none⟩ = some (.bool mk) ∧ y1.cell? ⟨v4.heap.size, 2, none⟩ = some (.slice F4 na d4) ∧ y1.cell? ⟨v4.heap.size, 3, none⟩ = some (.slice G4 np c4) := ⟨BoxK.below Fxv_7.out hxy ltxv_7 0 _ rfl, BoxK.below Fxv_7.out hxy ltxv_7 1 _ rfl, BoxK.below Fxv_7.out hxy ltxv_7 2 _ rfl, BoxK.below Fxv_7.out hxy ltxv_7 3 _ rfl⟩; have HXY := Lib.hid hxy; have zy := hxy.size; clear hoy hxy)
      | (go_at_call 15; refine (eqV st mk ⟨HP1.out, HP2.out⟩ HOY.out hN).mono ?_; rintro e y2 ⟨rfl, hxz⟩))
    all_goals
      have HE := Lib.hid (HXY.out.trans (hxz.mono zy))
      clear hxz
      go_wp2_with fail
      go_meet
      case rel => exact ⟨rfl, HE.out⟩
  case rest =>
    obtain ⟨rfl, hst⟩ := hcut
    clear aq0 aq1 aq2 aq3
    clear xvq0 xvq1 xvq2 xvq3
    obtain ⟨v8, rfl⟩ : ∃ v : World, v = wc := ⟨_, rfl⟩
    have Fa_8 := Lib.hid (BoxK.below Fa_7.out hst lta_7)
    have lta_8 : w.heap.size < v8.heap.size := Nat.lt_of_lt_of_le lta_7 hst.size
    clear Fa_7 lta_7
    have Fwv_8 := Lib.hid (BoxK.below Fwv_7.out hst ltwv_7)
    have ltwv_8 : v3.heap.size < v8.heap.size := Nat.lt_of_lt_of_le ltwv_7 hst.size
    clear Fwv_7 ltwv_7
    have Fwa_8 := Lib.hid (BoxK.below Fwa_7.out hst ltwa_7)
    have ltwa_8 : v3.heap.size + 1 < v8.heap.size := Nat.lt_of_lt_of_le ltwa_7 hst.size
    clear Fwa_7 ltwa_7
    have Fxv_8 := Lib.hid (BoxK.below Fxv_7.out hst ltxv_7)
    have ltxv_8 : v4.heap.size < v8.heap.size := Nat.lt_of_lt_of_le ltxv_7 hst.size
    clear Fxv_7 ltxv_7
    have Fgv_8 := Lib.hid (BoxK.below Fgv_7.out hst ltgv_7)
    have ltgv_8 : v5.heap.size < v8.heap.size := Nat.lt_of_lt_of_le ltgv_7 hst.size
    clear Fgv_7 ltgv_7
    have Fga_8 := Lib.hid (BoxK.below Fga_7.out hst ltga_7)
    have ltga_8 : v5.heap.size + 1 < v8.heap.size := Nat.lt_of_lt_of_le ltga_7 hst.size
    clear Fga_7 ltga_7
    have EwI_8 := Lib.hid (EwI_7.out.below (Nat.le_refl _) hst)
    clear EwI_7
    have EwB_8 := Lib.hid (EwB_7.out.below (Nat.le_refl _) hst)
    clear EwB_7
    have EwA_8 := Lib.hid (EwA_7.out.below (Nat.le_refl _) hst)
    clear EwA_7
    have ExI_8 := Lib.hid (ExI_7.out.below (Nat.le_refl _) hst)
    clear ExI_7
    have ExB_8 := Lib.hid (ExB_7.out.below (Nat.le_refl _) hst)
    clear ExB_7
    have EgI_8 := Lib.hid (EgI_7.out.below (Nat.le_refl _) hst)
    clear EgI_7
    have EgB_8 := Lib.hid (EgB_7.out.below (Nat.le_refl _) hst)
    clear EgB_7
    have EgA_8 := Lib.hid (EgA_7.out.below (Nat.le_refl _) hst)
    clear EgA_7
    have HB8 := Lib.hid (HB7.out.trans (hst.mono z7))
    have z8 : w.heap.size ≤ v8.heap.size := HB8.out.size
    have ch8 : v7.heap.size ≤ v8.heap.size := hst.size
    clear HB7 hst
    have xvq0 : v8.cell? ⟨v4.heap.size, 0, none⟩ = some (.int .i64 st) := Fxv_8.out 0 _ rfl
    have xvq1 : v8.cell? ⟨v4.heap.size, 1, none⟩ = some (.bool mk) := Fxv_8.out 1 _ rfl
    have xvq2 : v8.cell? ⟨v4.heap.size, 2, none⟩ = some (.slice F4 na d4) := Fxv_8.out 2 _ rfl
    have xvq3 : v8.cell? ⟨v4.heap.size, 3, none⟩ = some (.slice G4 np c4) := Fxv_8.out 3 _ rfl
    go_wp2_with fail
    refine (markVp_any st mk _ na _ _ _ np _ _ _ 1 _ ExI_8.out ExB_8.out (by omega) (by omega) (by omega) (by omega)).mono ?_
    rintro e v9 ⟨rfl, ho1, ho2, on⟩
    clear xvq0 xvq1 xvq2 xvq3
    have Fa_9 := Lib.hid (BoxK.only Fa_8.out on (fun hs => by
      rcases hs with hs | hs
      · have h2 := LxI.out _ hs; omega
      · have h2 := LxB.out _ hs; omega))
    have lta_9 : w.heap.size < v9.heap.size := Nat.lt_of_lt_of_le lta_8 on.size
    clear Fa_8 lta_8
    have Fwv_9 := Lib.hid (BoxK.only Fwv_8.out on (fun hs => by
      rcases hs with hs | hs
      · have h2 := LxI.out _ hs; omega
      · have h2 := LxB.out _ hs; omega))
    have ltwv_9 : v3.heap.size < v9.heap.size := Nat.lt_of_lt_of_le ltwv_8 on.size
    clear Fwv_8 ltwv_8
    have Fwa_9 := Lib.hid (BoxK.only Fwa_8.out on (fun hs => by
      rcases hs with hs | hs
      · have h2 := LxI.out _ hs; omega
      · have h2 := LxB.out _ hs; omega))
    have ltwa_9 : v3.heap.size + 1 < v9.heap.size := Nat.lt_of_lt_of_le ltwa_8 on.size
    clear Fwa_8 ltwa_8
    have Fxv_9 := Lib.hid (BoxK.only Fxv_8.out on (fun hs => by
      rcases hs with hs | hs
      · have h2 := LxI.out _ hs; omega
      · have h2 := LxB.out _ hs; omega))
    have ltxv_9 : v4.heap.size < v9.heap.size := Nat.lt_of_lt_of_le ltxv_8 on.size
    clear Fxv_8 ltxv_8
    have Fgv_9 := Lib.hid (BoxK.only Fgv_8.out on (fun hs => by
      rcases hs with hs | hs
      · have h2 := LxI.out _ hs; omega
      · have h2 := LxB.out _ hs; omega))
    have ltgv_9 : v5.heap.size < v9.heap.size := Nat.lt_of_lt_of_le ltgv_8 on.size
    clear Fgv_8 ltgv_8
    have Fga_9 := Lib.hid (BoxK.only Fga_8.out on (fun hs => by
      rcases hs with hs | hs
      · have h2 := LxI.out _ hs; omega
      · have h2 := LxB.out _ hs; omega))
    have ltga_9 : v5.heap.size + 1 < v9.heap.size := Nat.lt_of_lt_of_le ltga_8 on.size
    clear Fga_8 ltga_8
    have EwI_9 := Lib.hid (show OwnI v9 (v2.heap.size) F3 n1 d3 s3 from Only.own EwI_8.out on (fun i hi hs => by
      have h1 := LwI.out i hi
      rcases hs with hs | hs
      · have h2 := LxI.out _ hs; omega
      · have h2 := LxB.out _ hs; omega))
    clear EwI_8
    have EwB_9 := Lib.hid (show Own v9 (v2.heap.size) G3 n2 c3 s4 from Only.own EwB_8.out on (fun i hi hs => by
      have h1 := LwB.out i hi
      rcases hs with hs | hs
      · have h2 := LxI.out _ hs; omega
      · have h2 := LxB.out _ hs; omega))
    clear EwB_8
    have EwA_9 := Lib.hid (show OwnI v9 (v2.heap.size) A3 n3 e3 a4 from Only.own EwA_8.out on (fun i hi hs => by
      have h1 := LwA.out i hi
      rcases hs with hs | hs
      · have h2 := LxI.out _ hs; omega
      · have h2 := LxB.out _ hs; omega))
    clear EwA_8
    have EgI_9 := Lib.hid (show OwnI v9 (v4.heap.size + 1) F5 n1 d5 s3 from Only.own EgI_8.out on (fun i hi hs => by
      have h1 := LgI.out i hi
      rcases hs with hs | hs
      · have h2 := LxI.out _ hs; omega
      · have h2 := LxB.out _ hs; omega))
    clear EgI_8
    have EgB_9 := Lib.hid (show Own v9 (v4.heap.size + 1) G5 n2 c5 s4 from Only.own EgB_8.out on (fun i hi hs => by
      have h1 := LgB.out i hi
      rcases hs with hs | hs
      · have h2 := LxI.out _ hs; omega
      · have h2 := LxB.out _ hs; omega))
    clear EgB_8
    have EgA_9 := Lib.hid (show OwnI v9 (v4.heap.size + 1) A5 n3 e5 a4 from Only.own EgA_8.out on (fun i hi hs => by
      have h1 := LgA.out i hi
      rcases hs with hs | hs
      · have h2 := LxI.out _ hs; omega
      · have h2 := LxB.out _ hs; omega))
    clear EgA_8
    have HB9 := Lib.hid (Only.below_ on HB8.out z8 (fun i hs => by
      rcases hs with hs | hs
      · have h2 := LxI.out _ hs; omega
      · have h2 := LxB.out _ hs; omega))
    have z9 : w.heap.size ≤ v9.heap.size := HB9.out.size
    have ch9 : v8.heap.size ≤ v9.heap.size := on.size
    clear on HB8
    clear ho1 ho2
    clear ExI_8 LxI
    clear ExB_8 LxB
    have HX := Lib.hid (show Below v9.heap.size v9 v9 from Below.refl v9.heap.size v9)
    have NgI := Lib.hid (EgI_9.out.below (Nat.le_refl _) HX.out)
    have NgB := Lib.hid (EgB_9.out.below (Nat.le_refl _) HX.out)
    have NwI := Lib.hid (EwI_9.out.below (Nat.le_refl _) HX.out)
    have NwB := Lib.hid (EwB_9.out.below (Nat.le_refl _) HX.out)
    have HBX := Lib.hid (HB9.out.trans (HX.out.mono z9))
    have gvq0 : v9.cell? ⟨v5.heap.size, 0, none⟩ = some (.int .i64 s1) := Fgv_9.out 0 _ rfl
    have gvq1 : v9.cell? ⟨v5.heap.size, 1, none⟩ = some (.bool s2) := Fgv_9.out 1 _ rfl
    have gvq2 : v9.cell? ⟨v5.heap.size, 2, none⟩ = some (.slice F5 n1 d5) := Fgv_9.out 2 _ rfl
    have gvq3 : v9.cell? ⟨v5.heap.size, 3, none⟩ = some (.slice G5 n2 c5) := Fgv_9.out 3 _ rfl
    have wvq0 : v9.cell? ⟨v3.heap.size, 0, none⟩ = some (.int .i64 s1) := Fwv_9.out 0 _ rfl
    have wvq1 : v9.cell? ⟨v3.heap.size, 1, none⟩ = some (.bool s2) := Fwv_9.out 1 _ rfl
    have wvq2 : v9.cell? ⟨v3.heap.size, 2, none⟩ = some (.slice F3 n1 d3) := Fwv_9.out 2 _ rfl
    have wvq3 : v9.cell? ⟨v3.heap.size, 3, none⟩ = some (.slice G3 n2 c3) := Fwv_9.out 3 _ rfl
    go_wp2_with fail
    refine (eqV s1 s2 ⟨NgI.out, NgB.out⟩ ⟨NwI.out, NwB.out⟩ (by omega)).mono ?_
    rintro e v10 ⟨rfl, hx⟩
    clear gvq0 gvq1 gvq2 gvq3
    clear wvq0 wvq1 wvq2 wvq3
    have hst : Below v9.heap.size v9 v10 := HX.out.trans (hx.mono HX.out.size)
    have Fa_10 := Lib.hid (BoxK.below Fa_9.out hst lta_9)
    have lta_10 : w.heap.size < v10.heap.size := Nat.lt_of_lt_of_le lta_9 hst.size
    clear Fa_9 lta_9
    have Fwv_10 := Lib.hid (BoxK.below Fwv_9.out hst ltwv_9)
    have ltwv_10 : v3.heap.size < v10.heap.size := Nat.lt_of_lt_of_le ltwv_9 hst.size
    clear Fwv_9 ltwv_9
    have Fwa_10 := Lib.hid (BoxK.below Fwa_9.out hst ltwa_9)
    have ltwa_10 : v3.heap.size + 1 < v10.heap.size := Nat.lt_of_lt_of_le ltwa_9 hst.size
    clear Fwa_9 ltwa_9
    have Fxv_10 := Lib.hid (BoxK.below Fxv_9.out hst ltxv_9)
    have ltxv_10 : v4.heap.size < v10.heap.size := Nat.lt_of_lt_of_le ltxv_9 hst.size
    clear Fxv_9 ltxv_9
    have Fgv_10 := Lib.hid (BoxK.below Fgv_9.out hst ltgv_9)
    have ltgv_10 : v5.heap.size < v10.heap.size := Nat.lt_of_lt_of_le ltgv_9 hst.size
    clear Fgv_9 ltgv_9
    have Fga_10 := Lib.hid (BoxK.below Fga_9.out hst ltga_9)
    have ltga_10 : v5.heap.size + 1 < v10.heap.size := Nat.lt_of_lt_of_le ltga_9 hst.size
    clear Fga_9 ltga_9
    have EwI_10 := Lib.hid (EwI_9.out.below (Nat.le_refl _) hst)
    clear EwI_9
    have EwB_10 := Lib.hid (EwB_9.out.below (Nat.le_refl _) hst)
    clear EwB_9
    have EwA_10 := Lib.hid (EwA_9.out.below (Nat.le_refl _) hst)
    clear EwA_9
    have EgI_10 := Lib.hid (EgI_9.out.below (Nat.le_refl _) hst)
    clear EgI_9
    have EgB_10 := Lib.hid (EgB_9.out.below (Nat.le_refl _) hst)
    clear EgB_9
    have EgA_10 := Lib.hid (EgA_9.out.below (Nat.le_refl _) hst)
    clear EgA_9
    have HB10 := Lib.hid (HB9.out.trans (hst.mono z9))
    have z10 : w.heap.size ≤ v10.heap.size := HB10.out.size
    have ch10 : v9.heap.size ≤ v10.heap.size := hst.size
    clear HB9 HBX hst NgI NgB NwI NwB
    clear hx HX
    have HX := Lib.hid (show Below v10.heap.size v10 v10 from Below.refl v10.heap.size v10)
    have NgA := Lib.hid (EgA_10.out.below (Nat.le_refl _) HX.out)
    have NwA := Lib.hid (EwA_10.out.below (Nat.le_refl _) HX.out)
    have HBX := Lib.hid (HB10.out.trans (HX.out.mono z10))
    have gaq0 : v10.cell? ⟨v5.heap.size + 1, 0, none⟩ = some (.int .i64 a1) := Fga_10.out 0 _ rfl
    have gaq1 : v10.cell? ⟨v5.heap.size + 1, 1, none⟩ = some (.int .i64 a2) := Fga_10.out 1 _ rfl
    have gaq2 : v10.cell? ⟨v5.heap.size + 1, 2, none⟩ = some (.bool a3) := Fga_10.out 2 _ rfl
    have gaq3 : v10.cell? ⟨v5.heap.size + 1, 3, none⟩ = some (.slice A5 n3 e5) := Fga_10.out 3 _ rfl
    have waq0 : v10.cell? ⟨v3.heap.size + 1, 0, none⟩ = some (.int .i64 a1) := Fwa_10.out 0 _ rfl
    have waq1 : v10.cell? ⟨v3.heap.size + 1, 1, none⟩ = some (.int .i64 a2) := Fwa_10.out 1 _ rfl
    have waq2 : v10.cell? ⟨v3.heap.size + 1, 2, none⟩ = some (.bool a3) := Fwa_10.out 2 _ rfl
    have waq3 : v10.cell? ⟨v3.heap.size + 1, 3, none⟩ = some (.slice A3 n3 e3) := Fwa_10.out 3 _ rfl
    go_wp2_with fail
    refine (eqAct_yes a1 a2 a3 _ _ n3 _ _ a4 _ NgA.out.rd NwA.out.rd NgA.out.len (by omega)).mono ?_
    rintro e v11 ⟨rfl, hx⟩
    clear gaq0 gaq1 gaq2 gaq3
    clear waq0 waq1 waq2 waq3
    have hst : Below v10.heap.size v10 v11 := HX.out.trans (hx.mono HX.out.size)
    have Fa_11 := Lib.hid (BoxK.below Fa_10.out hst lta_10)
    have lta_11 : w.heap.size < v11.heap.size := Nat.lt_of_lt_of_le lta_10 hst.size
    clear Fa_10 lta_10
    have Fwv_11 := Lib.hid (BoxK.below Fwv_10.out hst ltwv_10)
    have ltwv_11 : v3.heap.size < v11.heap.size := Nat.lt_of_lt_of_le ltwv_10 hst.size
    clear Fwv_10 ltwv_10
    have Fwa_11 := Lib.hid (BoxK.below Fwa_10.out hst ltwa_10)
    have ltwa_11 : v3.heap.size + 1 < v11.heap.size := Nat.lt_of_lt_of_le ltwa_10 hst.size
    clear Fwa_10 ltwa_10
    have Fxv_11 := Lib.hid (BoxK.below Fxv_10.out hst ltxv_10)
    have ltxv_11 : v4.heap.size < v11.heap.size := Nat.lt_of_lt_of_le ltxv_10 hst.size
    clear Fxv_10 ltxv_10
    have Fgv_11 := Lib.hid (BoxK.below Fgv_10.out hst ltgv_10)
    have ltgv_11 : v5.heap.size < v11.heap.size := Nat.lt_of_lt_of_le ltgv_10 hst.size
    clear Fgv_10 ltgv_10
    have Fga_11 := Lib.hid (BoxK.below Fga_10.out hst ltga_10)
    have ltga_11 : v5.heap.size + 1 < v11.heap.size := Nat.lt_of_lt_of_le ltga_10 hst.size
    clear Fga_10 ltga_10
    have EwI_11 := Lib.hid (EwI_10.out.below (Nat.le_refl _) hst)
    clear EwI_10
    have EwB_11 := Lib.hid (EwB_10.out.below (Nat.le_refl _) hst)
    clear EwB_10
    have EwA_11 := Lib.hid (EwA_10.out.below (Nat.le_refl _) hst)
    clear EwA_10
    have EgI_11 := Lib.hid (EgI_10.out.below (Nat.le_refl _) hst)
    clear EgI_10
    have EgB_11 := Lib.hid (EgB_10.out.below (Nat.le_refl _) hst)
    clear EgB_10
    have EgA_11 := Lib.hid (EgA_10.out.below (Nat.le_refl _) hst)
    clear EgA_10
    have HB11 := Lib.hid (HB10.out.trans (hst.mono z10))
    have z11 : w.heap.size ≤ v11.heap.size := HB11.out.size
    have ch11 : v10.heap.size ≤ v11.heap.size := hst.size
    clear HB10 HBX hst NgA NwA
    clear hx HX
    have gvq0 : v11.cell? ⟨v5.heap.size, 0, none⟩ = some (.int .i64 s1) := Fgv_11.out 0 _ rfl
    have gvq1 : v11.cell? ⟨v5.heap.size, 1, none⟩ = some (.bool s2) := Fgv_11.out 1 _ rfl
    have gvq2 : v11.cell? ⟨v5.heap.size, 2, none⟩ = some (.slice F5 n1 d5) := Fgv_11.out 2 _ rfl
    have gvq3 : v11.cell? ⟨v5.heap.size, 3, none⟩ = some (.slice G5 n2 c5) := Fgv_11.out 3 _ rfl
    go_wp2_with fail
    refine (markVp_any s1 s2 _ n1 _ _ _ n2 _ _ _ 1 _ EgI_11.out EgB_11.out (by omega) (by omega) (by omega) (by omega)).mono ?_
    rintro e v12 ⟨rfl, ho1, ho2, on⟩
    clear gvq0 gvq1 gvq2 gvq3
    have Fa_12 := Lib.hid (BoxK.only Fa_11.out on (fun hs => by
      rcases hs with hs | hs
      · have h2 := LgI.out _ hs; omega
      · have h2 := LgB.out _ hs; omega))
    have lta_12 : w.heap.size < v12.heap.size := Nat.lt_of_lt_of_le lta_11 on.size
    clear Fa_11 lta_11
    have Fwv_12 := Lib.hid (BoxK.only Fwv_11.out on (fun hs => by
      rcases hs with hs | hs
      · have h2 := LgI.out _ hs; omega
      · have h2 := LgB.out _ hs; omega))
    have ltwv_12 : v3.heap.size < v12.heap.size := Nat.lt_of_lt_of_le ltwv_11 on.size
    clear Fwv_11 ltwv_11
    have Fwa_12 := Lib.hid (BoxK.only Fwa_11.out on (fun hs => by
      rcases hs with hs | hs
      · have h2 := LgI.out _ hs; omega
      · have h2 := LgB.out _ hs; omega))
    have ltwa_12 : v3.heap.size + 1 < v12.heap.size := Nat.lt_of_lt_of_le ltwa_11 on.size
    clear Fwa_11 ltwa_11
    have Fxv_12 := Lib.hid (BoxK.only Fxv_11.out on (fun hs => by
      rcases hs with hs | hs
      · have h2 := LgI.out _ hs; omega
      · have h2 := LgB.out _ hs; omega))
    have ltxv_12 : v4.heap.size < v12.heap.size := Nat.lt_of_lt_of_le ltxv_11 on.size
    clear Fxv_11 ltxv_11
    have Fgv_12 := Lib.hid (BoxK.only Fgv_11.out on (fun hs => by
      rcases hs with hs | hs
      · have h2 := LgI.out _ hs; omega
      · have h2 := LgB.out _ hs; omega))
    have ltgv_12 : v5.heap.size < v12.heap.size := Nat.lt_of_lt_of_le ltgv_11 on.size
    clear Fgv_11 ltgv_11
    have Fga_12 := Lib.hid (BoxK.only Fga_11.out on (fun hs => by
      rcases hs with hs | hs
      · have h2 := LgI.out _ hs; omega
      · have h2 := LgB.out _ hs; omega))
    have ltga_12 : v5.heap.size + 1 < v12.heap.size := Nat.lt_of_lt_of_le ltga_11 on.size
    clear Fga_11 ltga_11
    have EwI_12 := Lib.hid (show OwnI v12 (v2.heap.size) F3 n1 d3 s3 from Only.own EwI_11.out on (fun i hi hs => by
      have h1 := LwI.out i hi
      rcases hs with hs | hs
      · have h2 := LgI.out _ hs; omega
      · have h2 := LgB.out _ hs; omega))
    clear EwI_11
    have EwB_12 := Lib.hid (show Own v12 (v2.heap.size) G3 n2 c3 s4 from Only.own EwB_11.out on (fun i hi hs => by
      have h1 := LwB.out i hi
      rcases hs with hs | hs
      · have h2 := LgI.out _ hs; omega
      · have h2 := LgB.out _ hs; omega))
    clear EwB_11
    have EwA_12 := Lib.hid (show OwnI v12 (v2.heap.size) A3 n3 e3 a4 from Only.own EwA_11.out on (fun i hi hs => by
      have h1 := LwA.out i hi
      rcases hs with hs | hs
      · have h2 := LgI.out _ hs; omega
      · have h2 := LgB.out _ hs; omega))
    clear EwA_11
    have EgA_12 := Lib.hid (show OwnI v12 (v4.heap.size + 1) A5 n3 e5 a4 from Only.own EgA_11.out on (fun i hi hs => by
      rcases hs with hs | hs
      · rcases APg.out with h | h
        · subst h; cases hi
        · subst h; cases hs
      · exact own_ne EgA_11.out EgB_11.out (by decide) i hi hs))
    clear EgA_11
    have HB12 := Lib.hid (Only.below_ on HB11.out z11 (fun i hs => by
      rcases hs with hs | hs
      · have h2 := LgI.out _ hs; omega
      · have h2 := LgB.out _ hs; omega))
    have z12 : w.heap.size ≤ v12.heap.size := HB12.out.size
    have ch12 : v11.heap.size ≤ v12.heap.size := on.size
    clear on HB11
    have EgI_12m := Lib.hid ho1
    clear ho1 EgI_11
    have EgB_12m := Lib.hid ho2
    clear ho2 EgB_11
    have gaq0 : v12.cell? ⟨v5.heap.size + 1, 0, none⟩ = some (.int .i64 a1) := Fga_12.out 0 _ rfl
    have gaq1 : v12.cell? ⟨v5.heap.size + 1, 1, none⟩ = some (.int .i64 a2) := Fga_12.out 1 _ rfl
    have gaq2 : v12.cell? ⟨v5.heap.size + 1, 2, none⟩ = some (.bool a3) := Fga_12.out 2 _ rfl
    have gaq3 : v12.cell? ⟨v5.heap.size + 1, 3, none⟩ = some (.slice A5 n3 e5) := Fga_12.out 3 _ rfl
    go_wp2_with fail
    refine (markAct_any a1 a2 a3 _ n3 _ _ _ (1 + n1 + n2) _ EgA_12.out (by omega) (by omega) (by omega)).mono ?_
    rintro e v13 ⟨rfl, ho1, on⟩
    clear gaq0 gaq1 gaq2 gaq3
    have Fa_13 := Lib.hid (BoxK.only Fa_12.out on (fun hs => by have h2 := LgA.out _ hs; omega))
    have lta_13 : w.heap.size < v13.heap.size := Nat.lt_of_lt_of_le lta_12 on.size
    clear Fa_12 lta_12
    have Fwv_13 := Lib.hid (BoxK.only Fwv_12.out on (fun hs => by have h2 := LgA.out _ hs; omega))
    have ltwv_13 : v3.heap.size < v13.heap.size := Nat.lt_of_lt_of_le ltwv_12 on.size
    clear Fwv_12 ltwv_12
    have Fwa_13 := Lib.hid (BoxK.only Fwa_12.out on (fun hs => by have h2 := LgA.out _ hs; omega))
    have ltwa_13 : v3.heap.size + 1 < v13.heap.size := Nat.lt_of_lt_of_le ltwa_12 on.size
    clear Fwa_12 ltwa_12
    have Fxv_13 := Lib.hid (BoxK.only Fxv_12.out on (fun hs => by have h2 := LgA.out _ hs; omega))
    have ltxv_13 : v4.heap.size < v13.heap.size := Nat.lt_of_lt_of_le ltxv_12 on.size
    clear Fxv_12 ltxv_12
    have Fgv_13 := Lib.hid (BoxK.only Fgv_12.out on (fun hs => by have h2 := LgA.out _ hs; omega))
    have ltgv_13 : v5.heap.size < v13.heap.size := Nat.lt_of_lt_of_le ltgv_12 on.size
    clear Fgv_12 ltgv_12
    have Fga_13 := Lib.hid (BoxK.only Fga_12.out on (fun hs => by have h2 := LgA.out _ hs; omega))
    have ltga_13 : v5.heap.size + 1 < v13.heap.size := Nat.lt_of_lt_of_le ltga_12 on.size
    clear Fga_12 ltga_12
    have EwI_13 := Lib.hid (show OwnI v13 (v2.heap.size) F3 n1 d3 s3 from Only.own EwI_12.out on (fun i hi hs => by have h1 := LwI.out i hi; have h2 := LgA.out _ hs; omega))
    clear EwI_12
    have EwB_13 := Lib.hid (show Own v13 (v2.heap.size) G3 n2 c3 s4 from Only.own EwB_12.out on (fun i hi hs => by have h1 := LwB.out i hi; have h2 := LgA.out _ hs; omega))
    clear EwB_12
    have EwA_13 := Lib.hid (show OwnI v13 (v2.heap.size) A3 n3 e3 a4 from Only.own EwA_12.out on (fun i hi hs => by have h1 := LwA.out i hi; have h2 := LgA.out _ hs; omega))
    clear EwA_12
    have EgI_13 := Lib.hid (show OwnI v13 (v4.heap.size + 1) F5 n1 d5 (marksN n1 1) from Only.own EgI_12m.out on (fun i hi hs => by
      rcases APg.out with h | h
      · subst h; cases hs
      · subst h; cases hi))
    clear EgI_12m
    have EgB_13 := Lib.hid (show Own v13 (v4.heap.size + 1) G5 n2 c5 (marks n2 (1 + n1)) from Only.own EgB_12m.out on (fun i hi hs => own_ne EgB_12m.out EgA_12.out (by decide) i hi hs))
    clear EgB_12m
    have HB13 := Lib.hid (Only.below_ on HB12.out z12 (fun i hs => by
      have h2 := LgA.out _ hs; omega))
    have z13 : w.heap.size ≤ v13.heap.size := HB13.out.size
    have ch13 : v12.heap.size ≤ v13.heap.size := on.size
    clear on HB12
    have EgA_13m := Lib.hid ho1
    clear ho1 EgA_12
    have HX := Lib.hid (show Below v13.heap.size v13 v13 from Below.refl v13.heap.size v13)
    have NgI := Lib.hid (EgI_13.out.below (Nat.le_refl _) HX.out)
    have NgB := Lib.hid (EgB_13.out.below (Nat.le_refl _) HX.out)
    have HBX := Lib.hid (HB13.out.trans (HX.out.mono z13))
    have gvq0 : v13.cell? ⟨v5.heap.size, 0, none⟩ = some (.int .i64 s1) := Fgv_13.out 0 _ rfl
    have gvq1 : v13.cell? ⟨v5.heap.size, 1, none⟩ = some (.bool s2) := Fgv_13.out 1 _ rfl
    have gvq2 : v13.cell? ⟨v5.heap.size, 2, none⟩ = some (.slice F5 n1 d5) := Fgv_13.out 2 _ rfl
    have gvq3 : v13.cell? ⟨v5.heap.size, 3, none⟩ = some (.slice G5 n2 c5) := Fgv_13.out 3 _ rfl
    go_wp2_with fail
    refine (heldVp_any s1 s2 _ n1 _ _ n2 _ 1 _ NgI.out.rd NgB.out.rd (by omega) (by omega) (by omega) (by omega)).mono ?_
    rintro e v14 ⟨rfl, hx⟩
    clear gvq0 gvq1 gvq2 gvq3
    have hst : Below v13.heap.size v13 v14 := HX.out.trans (hx.mono HX.out.size)
    have Fa_14 := Lib.hid (BoxK.below Fa_13.out hst lta_13)
    have lta_14 : w.heap.size < v14.heap.size := Nat.lt_of_lt_of_le lta_13 hst.size
    clear Fa_13 lta_13
    have Fwv_14 := Lib.hid (BoxK.below Fwv_13.out hst ltwv_13)
    have ltwv_14 : v3.heap.size < v14.heap.size := Nat.lt_of_lt_of_le ltwv_13 hst.size
    clear Fwv_13 ltwv_13
    have Fwa_14 := Lib.hid (BoxK.below Fwa_13.out hst ltwa_13)
    have ltwa_14 : v3.heap.size + 1 < v14.heap.size := Nat.lt_of_lt_of_le ltwa_13 hst.size
    clear Fwa_13 ltwa_13
    have Fxv_14 := Lib.hid (BoxK.below Fxv_13.out hst ltxv_13)
    have ltxv_14 : v4.heap.size < v14.heap.size := Nat.lt_of_lt_of_le ltxv_13 hst.size
    clear Fxv_13 ltxv_13
    have Fgv_14 := Lib.hid (BoxK.below Fgv_13.out hst ltgv_13)
    have ltgv_14 : v5.heap.size < v14.heap.size := Nat.lt_of_lt_of_le ltgv_13 hst.size
    clear Fgv_13 ltgv_13
    have Fga_14 := Lib.hid (BoxK.below Fga_13.out hst ltga_13)
    have ltga_14 : v5.heap.size + 1 < v14.heap.size := Nat.lt_of_lt_of_le ltga_13 hst.size
    clear Fga_13 ltga_13
    have EwI_14 := Lib.hid (EwI_13.out.below (Nat.le_refl _) hst)
    clear EwI_13
    have EwB_14 := Lib.hid (EwB_13.out.below (Nat.le_refl _) hst)
    clear EwB_13
    have EwA_14 := Lib.hid (EwA_13.out.below (Nat.le_refl _) hst)
    clear EwA_13
    have EgI_14 := Lib.hid (EgI_13.out.below (Nat.le_refl _) hst)
    clear EgI_13
    have EgB_14 := Lib.hid (EgB_13.out.below (Nat.le_refl _) hst)
    clear EgB_13
    have EgA_14 := Lib.hid (EgA_13m.out.below (Nat.le_refl _) hst)
    clear EgA_13m
    have HB14 := Lib.hid (HB13.out.trans (hst.mono z13))
    have z14 : w.heap.size ≤ v14.heap.size := HB14.out.size
    have ch14 : v13.heap.size ≤ v14.heap.size := hst.size
    clear HB13 HBX hst NgI NgB
    clear hx HX
    have HX := Lib.hid (show Below v14.heap.size v14 v14 from Below.refl v14.heap.size v14)
    have NgA := Lib.hid (EgA_14.out.below (Nat.le_refl _) HX.out)
    have HBX := Lib.hid (HB14.out.trans (HX.out.mono z14))
    have gaq0 : v14.cell? ⟨v5.heap.size + 1, 0, none⟩ = some (.int .i64 a1) := Fga_14.out 0 _ rfl
    have gaq1 : v14.cell? ⟨v5.heap.size + 1, 1, none⟩ = some (.int .i64 a2) := Fga_14.out 1 _ rfl
    have gaq2 : v14.cell? ⟨v5.heap.size + 1, 2, none⟩ = some (.bool a3) := Fga_14.out 2 _ rfl
    have gaq3 : v14.cell? ⟨v5.heap.size + 1, 3, none⟩ = some (.slice A5 n3 e5) := Fga_14.out 3 _ rfl
    go_wp2_with fail
    refine (heldAct_any a1 a2 a3 _ n3 _ (1 + n1 + n2) _ NgA.out.rd (by omega) (by omega) (by omega)).mono ?_
    rintro e v15 ⟨rfl, hx⟩
    clear gaq0 gaq1 gaq2 gaq3
    have hst : Below v14.heap.size v14 v15 := HX.out.trans (hx.mono HX.out.size)
    have Fa_15 := Lib.hid (BoxK.below Fa_14.out hst lta_14)
    have lta_15 : w.heap.size < v15.heap.size := Nat.lt_of_lt_of_le lta_14 hst.size
    clear Fa_14 lta_14
    have Fwv_15 := Lib.hid (BoxK.below Fwv_14.out hst ltwv_14)
    have ltwv_15 : v3.heap.size < v15.heap.size := Nat.lt_of_lt_of_le ltwv_14 hst.size
    clear Fwv_14 ltwv_14
    have Fwa_15 := Lib.hid (BoxK.below Fwa_14.out hst ltwa_14)
    have ltwa_15 : v3.heap.size + 1 < v15.heap.size := Nat.lt_of_lt_of_le ltwa_14 hst.size
    clear Fwa_14 ltwa_14
    have Fxv_15 := Lib.hid (BoxK.below Fxv_14.out hst ltxv_14)
    have ltxv_15 : v4.heap.size < v15.heap.size := Nat.lt_of_lt_of_le ltxv_14 hst.size
    clear Fxv_14 ltxv_14
    have Fgv_15 := Lib.hid (BoxK.below Fgv_14.out hst ltgv_14)
    have ltgv_15 : v5.heap.size < v15.heap.size := Nat.lt_of_lt_of_le ltgv_14 hst.size
    clear Fgv_14 ltgv_14
    have Fga_15 := Lib.hid (BoxK.below Fga_14.out hst ltga_14)
    have ltga_15 : v5.heap.size + 1 < v15.heap.size := Nat.lt_of_lt_of_le ltga_14 hst.size
    clear Fga_14 ltga_14
    have EwI_15 := Lib.hid (EwI_14.out.below (Nat.le_refl _) hst)
    clear EwI_14
    have EwB_15 := Lib.hid (EwB_14.out.below (Nat.le_refl _) hst)
    clear EwB_14
    have EwA_15 := Lib.hid (EwA_14.out.below (Nat.le_refl _) hst)
    clear EwA_14
    have EgI_15 := Lib.hid (EgI_14.out.below (Nat.le_refl _) hst)
    clear EgI_14
    have EgB_15 := Lib.hid (EgB_14.out.below (Nat.le_refl _) hst)
    clear EgB_14
    have EgA_15 := Lib.hid (EgA_14.out.below (Nat.le_refl _) hst)
    clear EgA_14
    have HB15 := Lib.hid (HB14.out.trans (hst.mono z14))
    have z15 : w.heap.size ≤ v15.heap.size := HB15.out.size
    have ch15 : v14.heap.size ≤ v15.heap.size := hst.size
    clear HB14 HBX hst NgA
    clear hx HX
    have HX := Lib.hid (show Below v15.heap.size v15 v15 from Below.refl v15.heap.size v15)
    have HBX := Lib.hid (HB15.out.trans (HX.out.mono z15))
    have aq0 : v15.cell? ⟨w.heap.size, 0, none⟩ = some (.int .i64 st) := Fa_15.out 0 _ rfl
    have aq1 : v15.cell? ⟨w.heap.size, 1, none⟩ = some (.bool mk) := Fa_15.out 1 _ rfl
    have aq2 : v15.cell? ⟨w.heap.size, 2, none⟩ = some (.slice A na ca) := Fa_15.out 2 _ rfl
    have aq3 : v15.cell? ⟨w.heap.size, 3, none⟩ = some (.slice P np cp) := Fa_15.out 3 _ rfl
    go_wp2_with fail
    refine (HT.out _ HBX.out).mono ?_
    rintro e v16 ⟨F16, d16, G16, c16, rfl, ho, hx⟩
    clear aq0 aq1 aq2 aq3
    have hst : Below v15.heap.size v15 v16 := HX.out.trans (hx.mono HX.out.size)
    have Fa_16 := Lib.hid (BoxK.below Fa_15.out hst lta_15)
    have lta_16 : w.heap.size < v16.heap.size := Nat.lt_of_lt_of_le lta_15 hst.size
    clear Fa_15 lta_15
    have Fwv_16 := Lib.hid (BoxK.below Fwv_15.out hst ltwv_15)
    have ltwv_16 : v3.heap.size < v16.heap.size := Nat.lt_of_lt_of_le ltwv_15 hst.size
    clear Fwv_15 ltwv_15
    have Fwa_16 := Lib.hid (BoxK.below Fwa_15.out hst ltwa_15)
    have ltwa_16 : v3.heap.size + 1 < v16.heap.size := Nat.lt_of_lt_of_le ltwa_15 hst.size
    clear Fwa_15 ltwa_15
    have Fxv_16 := Lib.hid (BoxK.below Fxv_15.out hst ltxv_15)
    have ltxv_16 : v4.heap.size < v16.heap.size := Nat.lt_of_lt_of_le ltxv_15 hst.size
    clear Fxv_15 ltxv_15
    have Fgv_16 := Lib.hid (BoxK.below Fgv_15.out hst ltgv_15)
    have ltgv_16 : v5.heap.size < v16.heap.size := Nat.lt_of_lt_of_le ltgv_15 hst.size
    clear Fgv_15 ltgv_15
    have Fga_16 := Lib.hid (BoxK.below Fga_15.out hst ltga_15)
    have ltga_16 : v5.heap.size + 1 < v16.heap.size := Nat.lt_of_lt_of_le ltga_15 hst.size
    clear Fga_15 ltga_15
    have EwI_16 := Lib.hid (EwI_15.out.below (Nat.le_refl _) hst)
    clear EwI_15
    have EwB_16 := Lib.hid (EwB_15.out.below (Nat.le_refl _) hst)
    clear EwB_15
    have EwA_16 := Lib.hid (EwA_15.out.below (Nat.le_refl _) hst)
    clear EwA_15
    have EgI_16 := Lib.hid (EgI_15.out.below (Nat.le_refl _) hst)
    clear EgI_15
    have EgB_16 := Lib.hid (EgB_15.out.below (Nat.le_refl _) hst)
    clear EgB_15
    have EgA_16 := Lib.hid (EgA_15.out.below (Nat.le_refl _) hst)
    clear EgA_15
    have HB16 := Lib.hid (HB15.out.trans (hst.mono z15))
    have z16 : w.heap.size ≤ v16.heap.size := HB16.out.size
    have ch16 : v15.heap.size ≤ v16.heap.size := hst.size
    clear HB15 HBX hst
    have ho1 := ho.i
    have ho2 := ho.b
    clear ho
    have EyI_16 := Lib.hid (show OwnI v16 (v15.heap.size) F16 na d16 zs from by have h := ho1; first | exact h | (simp only [World.size_alloc] at h; exact h))
    have LyI := Lib.hid (show ∀ i, Blk F16 na d16 i → v15.heap.size ≤ i ∧ i < v16.heap.size from fun i hi => EyI_16.out.blk i hi)
    clear ho1
    have EyB_16 := Lib.hid (show Own v16 (v15.heap.size) G16 np c16 bs from by have h := ho2; first | exact h | (simp only [World.size_alloc] at h; exact h))
    have LyB := Lib.hid (show ∀ i, Blk G16 np c16 i → v15.heap.size ≤ i ∧ i < v16.heap.size from fun i hi => EyB_16.out.blk i hi)
    clear ho2
    clear hx HX
    have HX := Lib.hid (show Below v16.heap.size v16 v16 from Below.refl v16.heap.size v16)
    have NyI := Lib.hid (EyI_16.out.below (Nat.le_refl _) HX.out)
    have NyB := Lib.hid (EyB_16.out.below (Nat.le_refl _) HX.out)
    have HBX := Lib.hid (HB16.out.trans (HX.out.mono z16))
    go_wp2_with fail
    refine (HIM.out _ _ _ _ _ _ (HTB.out _ HBX.out) ⟨NyI.out, NyB.out⟩).mono ?_
    rintro e v17 ⟨F17, d17, G17, c17, A17, e17, rfl, ho1, ho2, ho3, hap, hx⟩
    have hst : Below v16.heap.size v16 v17 := HX.out.trans (hx.mono HX.out.size)
    have Fa_17 := Lib.hid (BoxK.below Fa_16.out hst lta_16)
    have lta_17 : w.heap.size < v17.heap.size := Nat.lt_of_lt_of_le lta_16 hst.size
    clear Fa_16 lta_16
    have Fwv_17 := Lib.hid (BoxK.below Fwv_16.out hst ltwv_16)
    have ltwv_17 : v3.heap.size < v17.heap.size := Nat.lt_of_lt_of_le ltwv_16 hst.size
    clear Fwv_16 ltwv_16
    have Fwa_17 := Lib.hid (BoxK.below Fwa_16.out hst ltwa_16)
    have ltwa_17 : v3.heap.size + 1 < v17.heap.size := Nat.lt_of_lt_of_le ltwa_16 hst.size
    clear Fwa_16 ltwa_16
    have Fxv_17 := Lib.hid (BoxK.below Fxv_16.out hst ltxv_16)
    have ltxv_17 : v4.heap.size < v17.heap.size := Nat.lt_of_lt_of_le ltxv_16 hst.size
    clear Fxv_16 ltxv_16
    have Fgv_17 := Lib.hid (BoxK.below Fgv_16.out hst ltgv_16)
    have ltgv_17 : v5.heap.size < v17.heap.size := Nat.lt_of_lt_of_le ltgv_16 hst.size
    clear Fgv_16 ltgv_16
    have Fga_17 := Lib.hid (BoxK.below Fga_16.out hst ltga_16)
    have ltga_17 : v5.heap.size + 1 < v17.heap.size := Nat.lt_of_lt_of_le ltga_16 hst.size
    clear Fga_16 ltga_16
    have EwI_17 := Lib.hid (EwI_16.out.below (Nat.le_refl _) hst)
    clear EwI_16
    have EwB_17 := Lib.hid (EwB_16.out.below (Nat.le_refl _) hst)
    clear EwB_16
    have EwA_17 := Lib.hid (EwA_16.out.below (Nat.le_refl _) hst)
    clear EwA_16
    have EgI_17 := Lib.hid (EgI_16.out.below (Nat.le_refl _) hst)
    clear EgI_16
    have EgB_17 := Lib.hid (EgB_16.out.below (Nat.le_refl _) hst)
    clear EgB_16
    have EgA_17 := Lib.hid (EgA_16.out.below (Nat.le_refl _) hst)
    clear EgA_16
    have EyI_17 := Lib.hid (EyI_16.out.below (Nat.le_refl _) hst)
    clear EyI_16
    have EyB_17 := Lib.hid (EyB_16.out.below (Nat.le_refl _) hst)
    clear EyB_16
    have HB17 := Lib.hid (HB16.out.trans (hst.mono z16))
    have z17 : w.heap.size ≤ v17.heap.size := HB17.out.size
    have ch17 : v16.heap.size ≤ v17.heap.size := hst.size
    clear HB16 HBX hst NyI NyB
    have APh := Lib.hid hap
    clear hap
    have EhI_17 := Lib.hid (show OwnI v17 (v16.heap.size) F17 n1 d17 s3 from by have h := ho1; first | exact h | (simp only [World.size_alloc] at h; exact h))
    have LhI := Lib.hid (show ∀ i, Blk F17 n1 d17 i → v16.heap.size ≤ i ∧ i < v17.heap.size from fun i hi => EhI_17.out.blk i hi)
    clear ho1
    have EhB_17 := Lib.hid (show Own v17 (v16.heap.size) G17 n2 c17 s4 from by have h := ho2; first | exact h | (simp only [World.size_alloc] at h; exact h))
    have LhB := Lib.hid (show ∀ i, Blk G17 n2 c17 i → v16.heap.size ≤ i ∧ i < v17.heap.size from fun i hi => EhB_17.out.blk i hi)
    clear ho2
    have EhA_17 := Lib.hid (show OwnI v17 (v16.heap.size) A17 n3 e17 a4 from by have h := ho3; first | exact h | (simp only [World.size_alloc] at h; exact h))
    have LhA := Lib.hid (show ∀ i, Blk A17 n3 e17 i → v16.heap.size ≤ i ∧ i < v17.heap.size from fun i hi => EhA_17.out.blk i hi)
    clear ho3
    clear hx HX
    clear EyI_17 LyI
    clear EyB_17 LyB
    have HX := Lib.hid (show Below v17.heap.size v17 ((v17.alloc (.cells #[.int .i64 s1, .bool s2, .slice F17 n1 d17, .slice G17 n2 c17] 38)).alloc (.cells #[.int .i64 a1, .int .i64 a2, .bool a3, .slice A17 n3 e17] 53)) from ((Below.refl v17.heap.size v17).alloc (Nat.le_refl _) _).alloc (by simp) _)
    have PBhv := Lib.hid (show BoxK ((v17.alloc (.cells #[.int .i64 s1, .bool s2, .slice F17 n1 d17, .slice G17 n2 c17] 38)).alloc (.cells #[.int .i64 a1, .int .i64 a2, .bool a3, .slice A17 n3 e17] 53)) (v17.heap.size) [.int .i64 s1, .bool s2, .slice F17 n1 d17, .slice G17 n2 c17] from by have h := BoxK.new v17 [.int .i64 s1, .bool s2, .slice F17 n1 d17, .slice G17 n2 c17] 38; (try simp only [World.size_alloc] at h); exact BoxK.alloc (h) (by simp; try omega) _)
    have PBha := Lib.hid (show BoxK ((v17.alloc (.cells #[.int .i64 s1, .bool s2, .slice F17 n1 d17, .slice G17 n2 c17] 38)).alloc (.cells #[.int .i64 a1, .int .i64 a2, .bool a3, .slice A17 n3 e17] 53)) (v17.heap.size + 1) [.int .i64 a1, .int .i64 a2, .bool a3, .slice A17 n3 e17] from by have h := BoxK.new (v17.alloc (.cells #[.int .i64 s1, .bool s2, .slice F17 n1 d17, .slice G17 n2 c17] 38)) [.int .i64 a1, .int .i64 a2, .bool a3, .slice A17 n3 e17] 53; (try simp only [World.size_alloc] at h); exact h)
    have NhI := Lib.hid (EhI_17.out.below (Nat.le_refl _) HX.out)
    have NhB := Lib.hid (EhB_17.out.below (Nat.le_refl _) HX.out)
    have NwI := Lib.hid (EwI_17.out.below (Nat.le_refl _) HX.out)
    have NwB := Lib.hid (EwB_17.out.below (Nat.le_refl _) HX.out)
    have HBX := Lib.hid (HB17.out.trans (HX.out.mono z17))
    have wvq0 : v17.cell? ⟨v3.heap.size, 0, none⟩ = some (.int .i64 s1) := Fwv_17.out 0 _ rfl
    have wvq1 : v17.cell? ⟨v3.heap.size, 1, none⟩ = some (.bool s2) := Fwv_17.out 1 _ rfl
    have wvq2 : v17.cell? ⟨v3.heap.size, 2, none⟩ = some (.slice F3 n1 d3) := Fwv_17.out 2 _ rfl
    have wvq3 : v17.cell? ⟨v3.heap.size, 3, none⟩ = some (.slice G3 n2 c3) := Fwv_17.out 3 _ rfl
    have wvlp : v3.heap.size < v17.heap.size + 1 := by omega
    go_wp2_with fail
    refine (eqV s1 s2 ⟨NhI.out, NhB.out⟩ ⟨NwI.out, NwB.out⟩ (by omega)).mono ?_
    rintro e v18 ⟨rfl, hx⟩
    clear wvq0 wvq1 wvq2 wvq3 wvlp
    have hst : Below v17.heap.size v17 v18 := HX.out.trans (hx.mono HX.out.size)
    have Fa_18 := Lib.hid (BoxK.below Fa_17.out hst lta_17)
    have lta_18 : w.heap.size < v18.heap.size := Nat.lt_of_lt_of_le lta_17 hst.size
    clear Fa_17 lta_17
    have Fwv_18 := Lib.hid (BoxK.below Fwv_17.out hst ltwv_17)
    have ltwv_18 : v3.heap.size < v18.heap.size := Nat.lt_of_lt_of_le ltwv_17 hst.size
    clear Fwv_17 ltwv_17
    have Fwa_18 := Lib.hid (BoxK.below Fwa_17.out hst ltwa_17)
    have ltwa_18 : v3.heap.size + 1 < v18.heap.size := Nat.lt_of_lt_of_le ltwa_17 hst.size
    clear Fwa_17 ltwa_17
    have Fxv_18 := Lib.hid (BoxK.below Fxv_17.out hst ltxv_17)
    have ltxv_18 : v4.heap.size < v18.heap.size := Nat.lt_of_lt_of_le ltxv_17 hst.size
    clear Fxv_17 ltxv_17
    have Fgv_18 := Lib.hid (BoxK.below Fgv_17.out hst ltgv_17)
    have ltgv_18 : v5.heap.size < v18.heap.size := Nat.lt_of_lt_of_le ltgv_17 hst.size
    clear Fgv_17 ltgv_17
    have Fga_18 := Lib.hid (BoxK.below Fga_17.out hst ltga_17)
    have ltga_18 : v5.heap.size + 1 < v18.heap.size := Nat.lt_of_lt_of_le ltga_17 hst.size
    clear Fga_17 ltga_17
    have lthv_18 : v17.heap.size < v18.heap.size := by have h1 := hx.size; simp at h1; omega
    have bohv := lthv_18
    have Fhv_18 := Lib.hid (BoxK.below PBhv.out hx (by simp; try omega))
    clear PBhv
    have ltha_18 : v17.heap.size + 1 < v18.heap.size := by have h1 := hx.size; simp at h1; omega
    have boha := ltha_18
    have Fha_18 := Lib.hid (BoxK.below PBha.out hx (by simp; try omega))
    clear PBha
    have EwI_18 := Lib.hid (EwI_17.out.below (Nat.le_refl _) hst)
    clear EwI_17
    have EwB_18 := Lib.hid (EwB_17.out.below (Nat.le_refl _) hst)
    clear EwB_17
    have EwA_18 := Lib.hid (EwA_17.out.below (Nat.le_refl _) hst)
    clear EwA_17
    have EgI_18 := Lib.hid (EgI_17.out.below (Nat.le_refl _) hst)
    clear EgI_17
    have EgB_18 := Lib.hid (EgB_17.out.below (Nat.le_refl _) hst)
    clear EgB_17
    have EgA_18 := Lib.hid (EgA_17.out.below (Nat.le_refl _) hst)
    clear EgA_17
    have EhI_18 := Lib.hid (EhI_17.out.below (Nat.le_refl _) hst)
    clear EhI_17
    have EhB_18 := Lib.hid (EhB_17.out.below (Nat.le_refl _) hst)
    clear EhB_17
    have EhA_18 := Lib.hid (EhA_17.out.below (Nat.le_refl _) hst)
    clear EhA_17
    have HB18 := Lib.hid (HB17.out.trans (hst.mono z17))
    have z18 : w.heap.size ≤ v18.heap.size := HB18.out.size
    have ch18 : v17.heap.size ≤ v18.heap.size := hst.size
    clear HB17 HBX hst NhI NhB NwI NwB
    clear hx HX
    have HX := Lib.hid (show Below v18.heap.size v18 v18 from Below.refl v18.heap.size v18)
    have NhA := Lib.hid (EhA_18.out.below (Nat.le_refl _) HX.out)
    have NwA := Lib.hid (EwA_18.out.below (Nat.le_refl _) HX.out)
    have HBX := Lib.hid (HB18.out.trans (HX.out.mono z18))
    have haq0 : v18.cell? ⟨v17.heap.size + 1, 0, none⟩ = some (.int .i64 a1) := Fha_18.out 0 _ rfl
    have haq1 : v18.cell? ⟨v17.heap.size + 1, 1, none⟩ = some (.int .i64 a2) := Fha_18.out 1 _ rfl
    have haq2 : v18.cell? ⟨v17.heap.size + 1, 2, none⟩ = some (.bool a3) := Fha_18.out 2 _ rfl
    have haq3 : v18.cell? ⟨v17.heap.size + 1, 3, none⟩ = some (.slice A17 n3 e17) := Fha_18.out 3 _ rfl
    have waq0 : v18.cell? ⟨v3.heap.size + 1, 0, none⟩ = some (.int .i64 a1) := Fwa_18.out 0 _ rfl
    have waq1 : v18.cell? ⟨v3.heap.size + 1, 1, none⟩ = some (.int .i64 a2) := Fwa_18.out 1 _ rfl
    have waq2 : v18.cell? ⟨v3.heap.size + 1, 2, none⟩ = some (.bool a3) := Fwa_18.out 2 _ rfl
    have waq3 : v18.cell? ⟨v3.heap.size + 1, 3, none⟩ = some (.slice A3 n3 e3) := Fwa_18.out 3 _ rfl
    go_wp2_with fail
    refine (eqAct_yes a1 a2 a3 _ _ n3 _ _ a4 _ NhA.out.rd NwA.out.rd NhA.out.len (by omega)).mono ?_
    rintro e v19 ⟨rfl, hx⟩
    clear haq0 haq1 haq2 haq3
    clear waq0 waq1 waq2 waq3
    have hst : Below v18.heap.size v18 v19 := HX.out.trans (hx.mono HX.out.size)
    have Fa_19 := Lib.hid (BoxK.below Fa_18.out hst lta_18)
    have lta_19 : w.heap.size < v19.heap.size := Nat.lt_of_lt_of_le lta_18 hst.size
    clear Fa_18 lta_18
    have Fwv_19 := Lib.hid (BoxK.below Fwv_18.out hst ltwv_18)
    have ltwv_19 : v3.heap.size < v19.heap.size := Nat.lt_of_lt_of_le ltwv_18 hst.size
    clear Fwv_18 ltwv_18
    have Fwa_19 := Lib.hid (BoxK.below Fwa_18.out hst ltwa_18)
    have ltwa_19 : v3.heap.size + 1 < v19.heap.size := Nat.lt_of_lt_of_le ltwa_18 hst.size
    clear Fwa_18 ltwa_18
    have Fxv_19 := Lib.hid (BoxK.below Fxv_18.out hst ltxv_18)
    have ltxv_19 : v4.heap.size < v19.heap.size := Nat.lt_of_lt_of_le ltxv_18 hst.size
    clear Fxv_18 ltxv_18
    have Fgv_19 := Lib.hid (BoxK.below Fgv_18.out hst ltgv_18)
    have ltgv_19 : v5.heap.size < v19.heap.size := Nat.lt_of_lt_of_le ltgv_18 hst.size
    clear Fgv_18 ltgv_18
    have Fga_19 := Lib.hid (BoxK.below Fga_18.out hst ltga_18)
    have ltga_19 : v5.heap.size + 1 < v19.heap.size := Nat.lt_of_lt_of_le ltga_18 hst.size
    clear Fga_18 ltga_18
    have Fhv_19 := Lib.hid (BoxK.below Fhv_18.out hst lthv_18)
    have lthv_19 : v17.heap.size < v19.heap.size := Nat.lt_of_lt_of_le lthv_18 hst.size
    clear Fhv_18 lthv_18
    have Fha_19 := Lib.hid (BoxK.below Fha_18.out hst ltha_18)
    have ltha_19 : v17.heap.size + 1 < v19.heap.size := Nat.lt_of_lt_of_le ltha_18 hst.size
    clear Fha_18 ltha_18
    have EwI_19 := Lib.hid (EwI_18.out.below (Nat.le_refl _) hst)
    clear EwI_18
    have EwB_19 := Lib.hid (EwB_18.out.below (Nat.le_refl _) hst)
    clear EwB_18
    have EwA_19 := Lib.hid (EwA_18.out.below (Nat.le_refl _) hst)
    clear EwA_18
    have EgI_19 := Lib.hid (EgI_18.out.below (Nat.le_refl _) hst)
    clear EgI_18
    have EgB_19 := Lib.hid (EgB_18.out.below (Nat.le_refl _) hst)
    clear EgB_18
    have EgA_19 := Lib.hid (EgA_18.out.below (Nat.le_refl _) hst)
    clear EgA_18
    have EhI_19 := Lib.hid (EhI_18.out.below (Nat.le_refl _) hst)
    clear EhI_18
    have EhB_19 := Lib.hid (EhB_18.out.below (Nat.le_refl _) hst)
    clear EhB_18
    have EhA_19 := Lib.hid (EhA_18.out.below (Nat.le_refl _) hst)
    clear EhA_18
    have HB19 := Lib.hid (HB18.out.trans (hst.mono z18))
    have z19 : w.heap.size ≤ v19.heap.size := HB19.out.size
    have ch19 : v18.heap.size ≤ v19.heap.size := hst.size
    clear HB18 HBX hst NhA NwA
    clear hx HX
    have HX := Lib.hid (show Below v19.heap.size v19 v19 from Below.refl v19.heap.size v19)
    have NgI := Lib.hid (EgI_19.out.below (Nat.le_refl _) HX.out)
    have NgB := Lib.hid (EgB_19.out.below (Nat.le_refl _) HX.out)
    have HBX := Lib.hid (HB19.out.trans (HX.out.mono z19))
    have gvq0 : v19.cell? ⟨v5.heap.size, 0, none⟩ = some (.int .i64 s1) := Fgv_19.out 0 _ rfl
    have gvq1 : v19.cell? ⟨v5.heap.size, 1, none⟩ = some (.bool s2) := Fgv_19.out 1 _ rfl
    have gvq2 : v19.cell? ⟨v5.heap.size, 2, none⟩ = some (.slice F5 n1 d5) := Fgv_19.out 2 _ rfl
    have gvq3 : v19.cell? ⟨v5.heap.size, 3, none⟩ = some (.slice G5 n2 c5) := Fgv_19.out 3 _ rfl
    go_wp2_with fail
    refine (heldVp_any s1 s2 _ n1 _ _ n2 _ 1 _ NgI.out.rd NgB.out.rd (by omega) (by omega) (by omega) (by omega)).mono ?_
    rintro e v20 ⟨rfl, hx⟩
    clear gvq0 gvq1 gvq2 gvq3
    have hst : Below v19.heap.size v19 v20 := HX.out.trans (hx.mono HX.out.size)
    have Fa_20 := Lib.hid (BoxK.below Fa_19.out hst lta_19)
    have lta_20 : w.heap.size < v20.heap.size := Nat.lt_of_lt_of_le lta_19 hst.size
    clear Fa_19 lta_19
    have Fwv_20 := Lib.hid (BoxK.below Fwv_19.out hst ltwv_19)
    have ltwv_20 : v3.heap.size < v20.heap.size := Nat.lt_of_lt_of_le ltwv_19 hst.size
    clear Fwv_19 ltwv_19
    have Fwa_20 := Lib.hid (BoxK.below Fwa_19.out hst ltwa_19)
    have ltwa_20 : v3.heap.size + 1 < v20.heap.size := Nat.lt_of_lt_of_le ltwa_19 hst.size
    clear Fwa_19 ltwa_19
    have Fxv_20 := Lib.hid (BoxK.below Fxv_19.out hst ltxv_19)
    have ltxv_20 : v4.heap.size < v20.heap.size := Nat.lt_of_lt_of_le ltxv_19 hst.size
    clear Fxv_19 ltxv_19
    have Fgv_20 := Lib.hid (BoxK.below Fgv_19.out hst ltgv_19)
    have ltgv_20 : v5.heap.size < v20.heap.size := Nat.lt_of_lt_of_le ltgv_19 hst.size
    clear Fgv_19 ltgv_19
    have Fga_20 := Lib.hid (BoxK.below Fga_19.out hst ltga_19)
    have ltga_20 : v5.heap.size + 1 < v20.heap.size := Nat.lt_of_lt_of_le ltga_19 hst.size
    clear Fga_19 ltga_19
    have Fhv_20 := Lib.hid (BoxK.below Fhv_19.out hst lthv_19)
    have lthv_20 : v17.heap.size < v20.heap.size := Nat.lt_of_lt_of_le lthv_19 hst.size
    clear Fhv_19 lthv_19
    have Fha_20 := Lib.hid (BoxK.below Fha_19.out hst ltha_19)
    have ltha_20 : v17.heap.size + 1 < v20.heap.size := Nat.lt_of_lt_of_le ltha_19 hst.size
    clear Fha_19 ltha_19
    have EwI_20 := Lib.hid (EwI_19.out.below (Nat.le_refl _) hst)
    clear EwI_19
    have EwB_20 := Lib.hid (EwB_19.out.below (Nat.le_refl _) hst)
    clear EwB_19
    have EwA_20 := Lib.hid (EwA_19.out.below (Nat.le_refl _) hst)
    clear EwA_19
    have EgI_20 := Lib.hid (EgI_19.out.below (Nat.le_refl _) hst)
    clear EgI_19
    have EgB_20 := Lib.hid (EgB_19.out.below (Nat.le_refl _) hst)
    clear EgB_19
    have EgA_20 := Lib.hid (EgA_19.out.below (Nat.le_refl _) hst)
    clear EgA_19
    have EhI_20 := Lib.hid (EhI_19.out.below (Nat.le_refl _) hst)
    clear EhI_19
    have EhB_20 := Lib.hid (EhB_19.out.below (Nat.le_refl _) hst)
    clear EhB_19
    have EhA_20 := Lib.hid (EhA_19.out.below (Nat.le_refl _) hst)
    clear EhA_19
    have HB20 := Lib.hid (HB19.out.trans (hst.mono z19))
    have z20 : w.heap.size ≤ v20.heap.size := HB20.out.size
    have ch20 : v19.heap.size ≤ v20.heap.size := hst.size
    clear HB19 HBX hst NgI NgB
    clear hx HX
    have HX := Lib.hid (show Below v20.heap.size v20 v20 from Below.refl v20.heap.size v20)
    have NgA := Lib.hid (EgA_20.out.below (Nat.le_refl _) HX.out)
    have HBX := Lib.hid (HB20.out.trans (HX.out.mono z20))
    have gaq0 : v20.cell? ⟨v5.heap.size + 1, 0, none⟩ = some (.int .i64 a1) := Fga_20.out 0 _ rfl
    have gaq1 : v20.cell? ⟨v5.heap.size + 1, 1, none⟩ = some (.int .i64 a2) := Fga_20.out 1 _ rfl
    have gaq2 : v20.cell? ⟨v5.heap.size + 1, 2, none⟩ = some (.bool a3) := Fga_20.out 2 _ rfl
    have gaq3 : v20.cell? ⟨v5.heap.size + 1, 3, none⟩ = some (.slice A5 n3 e5) := Fga_20.out 3 _ rfl
    go_wp2_with fail
    refine (heldAct_any a1 a2 a3 _ n3 _ (1 + n1 + n2) _ NgA.out.rd (by omega) (by omega) (by omega)).mono ?_
    rintro e v21 ⟨rfl, hx⟩
    clear gaq0 gaq1 gaq2 gaq3
    have hst : Below v20.heap.size v20 v21 := HX.out.trans (hx.mono HX.out.size)
    have Fa_21 := Lib.hid (BoxK.below Fa_20.out hst lta_20)
    have lta_21 : w.heap.size < v21.heap.size := Nat.lt_of_lt_of_le lta_20 hst.size
    clear Fa_20 lta_20
    have Fwv_21 := Lib.hid (BoxK.below Fwv_20.out hst ltwv_20)
    have ltwv_21 : v3.heap.size < v21.heap.size := Nat.lt_of_lt_of_le ltwv_20 hst.size
    clear Fwv_20 ltwv_20
    have Fwa_21 := Lib.hid (BoxK.below Fwa_20.out hst ltwa_20)
    have ltwa_21 : v3.heap.size + 1 < v21.heap.size := Nat.lt_of_lt_of_le ltwa_20 hst.size
    clear Fwa_20 ltwa_20
    have Fxv_21 := Lib.hid (BoxK.below Fxv_20.out hst ltxv_20)
    have ltxv_21 : v4.heap.size < v21.heap.size := Nat.lt_of_lt_of_le ltxv_20 hst.size
    clear Fxv_20 ltxv_20
    have Fgv_21 := Lib.hid (BoxK.below Fgv_20.out hst ltgv_20)
    have ltgv_21 : v5.heap.size < v21.heap.size := Nat.lt_of_lt_of_le ltgv_20 hst.size
    clear Fgv_20 ltgv_20
    have Fga_21 := Lib.hid (BoxK.below Fga_20.out hst ltga_20)
    have ltga_21 : v5.heap.size + 1 < v21.heap.size := Nat.lt_of_lt_of_le ltga_20 hst.size
    clear Fga_20 ltga_20
    have Fhv_21 := Lib.hid (BoxK.below Fhv_20.out hst lthv_20)
    have lthv_21 : v17.heap.size < v21.heap.size := Nat.lt_of_lt_of_le lthv_20 hst.size
    clear Fhv_20 lthv_20
    have Fha_21 := Lib.hid (BoxK.below Fha_20.out hst ltha_20)
    have ltha_21 : v17.heap.size + 1 < v21.heap.size := Nat.lt_of_lt_of_le ltha_20 hst.size
    clear Fha_20 ltha_20
    have EwI_21 := Lib.hid (EwI_20.out.below (Nat.le_refl _) hst)
    clear EwI_20
    have EwB_21 := Lib.hid (EwB_20.out.below (Nat.le_refl _) hst)
    clear EwB_20
    have EwA_21 := Lib.hid (EwA_20.out.below (Nat.le_refl _) hst)
    clear EwA_20
    have EgI_21 := Lib.hid (EgI_20.out.below (Nat.le_refl _) hst)
    clear EgI_20
    have EgB_21 := Lib.hid (EgB_20.out.below (Nat.le_refl _) hst)
    clear EgB_20
    have EgA_21 := Lib.hid (EgA_20.out.below (Nat.le_refl _) hst)
    clear EgA_20
    have EhI_21 := Lib.hid (EhI_20.out.below (Nat.le_refl _) hst)
    clear EhI_20
    have EhB_21 := Lib.hid (EhB_20.out.below (Nat.le_refl _) hst)
    clear EhB_20
    have EhA_21 := Lib.hid (EhA_20.out.below (Nat.le_refl _) hst)
    clear EhA_20
    have HB21 := Lib.hid (HB20.out.trans (hst.mono z20))
    have z21 : w.heap.size ≤ v21.heap.size := HB21.out.size
    have ch21 : v20.heap.size ≤ v21.heap.size := hst.size
    clear HB20 HBX hst NgA
    clear hx HX
    go_wp2_with fail
    go_ret
    exact ⟨rfl, HB21.out⟩
end Go.Proofs.YtfdbmhelcmifoaaDoor.VpByteL
