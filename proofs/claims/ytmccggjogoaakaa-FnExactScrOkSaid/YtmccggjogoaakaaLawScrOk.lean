/- FnExactScrOk: the walk of the law from the contracts of the program, of its model and of the laws' helpers; at every input, no condition. -/
import Derived.Test.YtmccggjogoaakaaScMkL
import Derived.Test.YtmccggjogoaakaaKiO
import Derived.Test.YtmccggjogoaakaaKiK
import Derived.Deep.RegionWith
import Derived.Deep.Cut
import Derived.Deep.CutRange
import Derived.Deep.DeepCutAuto
import Derived.Deep.DrawnRows
namespace Go.Proofs.Ytmccggjogoaakaa.fnExactScrOk
open Go.RowKit Go.Proofs.Ytmccggjogoaakaa.Bytes Go.Proofs.Ytmccggjogoaakaa.Rows_ Go.Proofs.Ytmccggjogoaakaa.RowK Go.Proofs.Ytmccggjogoaakaa.Gr Go.Proofs.Ytmccggjogoaakaa.DOk Go.Proofs.Ytmccggjogoaakaa.Opq Go.Proofs.Ytmccggjogoaakaa.Sc
set_option linter.unusedVariables false
attribute [local go_sem ↓] Go.wp_at_zero Go.wp_at_succ Sc.exec_storeS Sc.exec_loadS Sc.exec_loadL
attribute [local go_sem] blkOf_ptr isHead_ptr aggN_agg setRow_alloc rowZ_at rowZ_past scrA_size one_scr rowOf_alloc_at rowOf_alloc_past rowOf_drew
theorem own : ownKnob Try.prog.godebug = none := by kernel_rfl
set_option maxRecDepth 100000 in
set_option maxHeartbeats 16000000 in
theorem walk (s : ScrS) (w : World) (hr : RdS w w.heap.size s) (hl : LenS s) :
    Calls Try.prog 4 #[.agg (scrA s)] w fun e w' => e = .returned (.bool true) ∧ Below w.heap.size w w' := by
  have HR := Lib.hid (fun W (h : Below w.heap.size w W) => (hr.below (Nat.le_refl _) h).more h.size)
  have HLN := Lib.hid hl
  obtain ⟨ok, hok⟩ : ∃ b, b = okD s.data := ⟨_, rfl⟩
  have HK := Lib.hid hok.symm
  have HQ := Lib.hid (show ∀ t : ScrS, t.data = s.data → szS t = szS s from fun t h => by rw [szS_data, h, ← szS_data])
  clear hr hl hok
  have hne : (ok != ok) = false := by simp
  have HB0 := Lib.hid (Below.refl w.heap.size w)
  go_enter Try.func4, Try.ntmps4
  have HX := Lib.hid (show Below w.heap.size w (w.alloc (.cells (scrA s) 39)) from ((Below.refl w.heap.size w).alloc (by simp <;> omega) (.cells (scrA s) 39)))
  have HBX := Lib.hid (HB0.out.trans (HX.out.mono HB0.out.size))
  have pb_ := RowB.new w (scrA s) 39
  (try simp only [World.size_alloc] at pb_)
  have PBa := Lib.hid (show RowB (w.alloc (.cells (scrA s) 39)) (w.heap.size) (scrA s) from pb_)
  clear pb_
  go_wp2_with fail
  refine (szScr_any s 1048576 _ (HR.out _ HBX.out).r HLN.out (by omega) (by omega)).mono ?_
  rintro e v1 ⟨r, rfl, hr1, hx⟩
  have HB1 := Lib.hid (HBX.out.trans (hx.mono HBX.out.size))
  have Fa1 := Lib.hid (RowB.below PBa.out hx PBa.out.lt)
  have sz1 : w.heap.size ≤ v1.heap.size := Nat.le_trans HX.out.size hx.size
  clear HX HBX HB0 PBa hx
  have row_a := Fa1.out.row
  have lt_a := Fa1.out.lt
  rcases hr1 with rfl | ⟨h0, h1⟩
  · go_wp2_with fail
    go_ret
    exact ⟨rfl, HB1.out⟩
  clear row_a lt_a
  have HSZ := Lib.hid (show szS s ≤ 1048576 by omega)
  clear h1
  have HX := Lib.hid (show Below v1.heap.size v1 v1 from (Below.refl v1.heap.size v1))
  have HBX := Lib.hid (HB1.out.trans (HX.out.mono HB1.out.size))
  have PBa := Lib.hid (RowB.below Fa1.out HX.out Fa1.out.lt)
  have row_a : rowOf v1 (w.heap.size) = (scrA s) := Fa1.out.row
  have lt_a : w.heap.size < v1.heap.size := Fa1.out.lt
  go_wp2_with fail
  refine (toScr_any s _ (HR.out _ HBX.out) HSZ.out).mono ?_
  rintro e v2 ⟨s1, rfl, ho, hd, hx⟩
  clear row_a lt_a
  have HB2 := Lib.hid (HBX.out.trans (hx.mono HBX.out.size))
  have Fa2 := Lib.hid (RowB.below PBa.out hx PBa.out.lt)
  have sz2 : v1.heap.size ≤ v2.heap.size := Nat.le_trans HX.out.size hx.size
  have Et2 := Lib.hid ho
  have Ut := Lib.hid (show ∀ i, SS s1 i → v1.heap.size + 0 ≤ i ∧ i < v2.heap.size from fun i hi => by have h := ho.blk i hi; (try simp at h); exact ⟨by omega, h.2⟩)
  clear HX HBX HB1 Fa1 PBa hx ho
  have D1 := Lib.hid hd
  clear hd
  have HX := Lib.hid (show Below v2.heap.size v2 v2 from (Below.refl v2.heap.size v2))
  have Nt := Lib.hid (Et2.out.below (Nat.le_refl _) HX.out)
  have HBX := Lib.hid (HB2.out.trans (HX.out.mono HB2.out.size))
  have PBa := Lib.hid (RowB.below Fa2.out HX.out Fa2.out.lt)
  go_wp2_with fail
  refine (spec_ScrOk_any s1 _ Nt.out.rd (by rw [HQ.out _ D1.out]; exact HSZ.out)).mono ?_
  rintro e v3 ⟨rfl, hx⟩
  have HB3 := Lib.hid (HBX.out.trans (hx.mono HBX.out.size))
  have Et3 := Lib.hid (Nt.out.below (Nat.le_refl _) hx)
  have Fa3 := Lib.hid (RowB.below PBa.out hx PBa.out.lt)
  have sz3 : v2.heap.size ≤ v3.heap.size := Nat.le_trans HX.out.size hx.size
  clear HX HBX HB2 Et2 Fa2 Nt PBa hx
  rw [D1.out, HK.out]
  clear Et3
  clear Ut
  have HX := Lib.hid (show Below v3.heap.size v3 v3 from (Below.refl v3.heap.size v3))
  have HBX := Lib.hid (HB3.out.trans (HX.out.mono HB3.out.size))
  have PBa := Lib.hid (RowB.below Fa3.out HX.out Fa3.out.lt)
  have row_a : rowOf v3 (w.heap.size) = (scrA s) := Fa3.out.row
  have lt_a : w.heap.size < v3.heap.size := Fa3.out.lt
  go_wp2_with fail
  refine (toScr_any s _ (HR.out _ HBX.out) HSZ.out).mono ?_
  rintro e v4 ⟨s2, rfl, ho, hd, hx⟩
  clear row_a lt_a
  have HB4 := Lib.hid (HBX.out.trans (hx.mono HBX.out.size))
  have Fa4 := Lib.hid (RowB.below PBa.out hx PBa.out.lt)
  have sz4 : v3.heap.size ≤ v4.heap.size := Nat.le_trans HX.out.size hx.size
  have Ex4 := Lib.hid ho
  have Ux := Lib.hid (show ∀ i, SS s2 i → v3.heap.size + 0 ≤ i ∧ i < v4.heap.size from fun i hi => by have h := ho.blk i hi; (try simp at h); exact ⟨by omega, h.2⟩)
  clear HX HBX HB3 Fa3 PBa hx ho
  have D2 := Lib.hid hd
  clear hd
  have HX := Lib.hid (show Below v4.heap.size v4 (v4.alloc (.cells (scrA s2) 45)) from ((Below.refl v4.heap.size v4).alloc (by simp <;> omega) (.cells (scrA s2) 45)))
  have Nx := Lib.hid (Ex4.out.below (Nat.le_refl _) HX.out)
  have HBX := Lib.hid (HB4.out.trans (HX.out.mono HB4.out.size))
  have pb_ := RowB.new v4 (scrA s2) 45
  (try simp only [World.size_alloc] at pb_)
  have PBbx := Lib.hid (show RowB (v4.alloc (.cells (scrA s2) 45)) (v4.heap.size) (scrA s2) from pb_)
  clear pb_
  have PBa := Lib.hid (RowB.below Fa4.out HX.out Fa4.out.lt)
  go_wp2_with fail
  refine (impl_ScrOk_any s2 _ Nx.out.rd (by rw [HQ.out _ D2.out]; exact HSZ.out)).mono ?_
  rintro e v5 ⟨rfl, hx⟩
  have HB5 := Lib.hid (HBX.out.trans (hx.mono HBX.out.size))
  have Ex5 := Lib.hid (Nx.out.below (Nat.le_refl _) hx)
  have Fa5 := Lib.hid (RowB.below PBa.out hx PBa.out.lt)
  have Fbx5 := Lib.hid (RowB.below PBbx.out hx PBbx.out.lt)
  have sz5 : v4.heap.size ≤ v5.heap.size := Nat.le_trans HX.out.size hx.size
  clear HX HBX HB4 Ex4 Fa4 Nx PBa PBbx hx
  rw [D2.out, HK.out]
  have row_a := Fa5.out.row
  have lt_a := Fa5.out.lt
  have row_x := Fbx5.out.row
  have lt_x := Fbx5.out.lt
  have HT := Lib.hid (fun W (h : Below w.heap.size w W) => toScr_any s W (HR.out W h) HSZ.out)
  go_upto_region 10 with fail
  go_cut [26] (fun c wx => c = .bool false ∧ Below v5.heap.size v5 wx)
  case first =>
    go_region_with (first
      | (go_at_call 18; refine (HT.out _ ?_).mono ?_; exact ⟨HB5.out.os, HB5.out.tape, HB5.out.output, HB5.out.size, HB5.out.block⟩; rintro e y1 ⟨s3, rfl, hoy, hdy, hxy'⟩; have hxy : Below v5.heap.size v5 y1 := undrew hxy'; clear hxy'; have HOY := Lib.hid hoy; have HDY := Lib.hid hdy; have HPY := Lib.hid (Ex5.out.below (Nat.le_refl _) hxy); have row_y : rowOf y1 v4.heap.size = scrA s2 := (RowB.below Fbx5.out hxy lt_x).row; have row_z : rowOf y1 w.heap.size = scrA s := (RowB.below Fa5.out hxy lt_a).row; have HXY := Lib.hid hxy; have zy := hxy.size; clear hoy hdy hxy)
      | (go_at_call 20; refine (eqS HPY.out HOY.out (HDY.out.trans D2.out.symm) (by rw [HQ.out _ D2.out]; exact HSZ.out)).mono ?_; rintro e y2 ⟨rfl, hxz⟩))
    all_goals
      have HE := Lib.hid (HXY.out.trans (hxz.mono zy))
      clear hxz
      go_wp2_with fail
      go_meet
      case rel => exact ⟨rfl, HE.out⟩
  case rest =>
    obtain ⟨rfl, hx⟩ := hcut
    have HB6 := Lib.hid (HB5.out.trans (hx.mono HB5.out.size))
    clear hx row_a row_x lt_a lt_x
    go_wp2_with fail
    go_ret
    exact ⟨rfl, HB6.out⟩
end Go.Proofs.Ytmccggjogoaakaa.fnExactScrOk

