/- FnExactScrRune: the walk of the law from the contracts of the program, of its model and of the laws' helpers; at every input, no condition. -/
import Derived.Test.YthlpchojlddnbaaScMkL
import Derived.Test.YthlpchojlddnbaaKiD
import Derived.Test.YthlpchojlddnbaaKitR
import Derived.Deep.RegionWith
import Derived.Deep.Cut
import Derived.Deep.CutRange
import Derived.Deep.DeepCutAuto
import Derived.Deep.DrawnRows
namespace Go.Proofs.Ythlpchojlddnbaa.fnExactScrRune
open Go.RowKit Go.Proofs.Ythlpchojlddnbaa.Bytes Go.Proofs.Ythlpchojlddnbaa.Rows_ Go.Proofs.Ythlpchojlddnbaa.RowK Go.Proofs.Ythlpchojlddnbaa.Gr Go.Proofs.Ythlpchojlddnbaa.DOk Go.Proofs.Ythlpchojlddnbaa.Opq Go.Proofs.Ythlpchojlddnbaa.Sc
set_option linter.unusedVariables false
attribute [local go_sem ↓] Go.wp_at_zero Go.wp_at_succ Sc.exec_storeS Sc.exec_loadS Sc.exec_loadL
attribute [local go_sem] blkOf_ptr isHead_ptr aggN_agg setRow_alloc rowZ_at rowZ_past scrA_size one_scr rowOf_alloc_at rowOf_alloc_past rowOf_drew
theorem own : ownKnob Try.prog.godebug = none := by kernel_rfl
set_option maxRecDepth 100000 in
set_option maxHeartbeats 16000000 in
theorem walk (s : ScrS) (z : Int) (w : World) (hr : RdS w w.heap.size s) (hl : LenS s) (wf0 : (Lit.int .i64 z).wf = true) :
    Calls Try.prog 7 #[.agg (scrA s), .int .i64 z] w fun e w' => e = .returned (.bool true) ∧ Below w.heap.size w w' := by
  clear wf0
  have HR := Lib.hid (fun W (h : Below w.heap.size w W) => (hr.below (Nat.le_refl _) h).more h.size)
  have HLN := Lib.hid hl
  obtain ⟨d, hd⟩ : ∃ d, d = okF (fun d => runeD d z) s.data := ⟨_, rfl⟩
  have HDD := Lib.hid hd
  have HQ := Lib.hid (show ∀ t : ScrS, t.data = s.data → szS t = szS s from fun t h => by rw [szS_data, h, ← szS_data])
  have HSZ := Lib.hid (show ∀ t : ScrS, t.data = d → szS t ≤ 1048576 from fun t h => by rw [szS_of h, hd]; exact sz_rune _ z)
  clear hr hl hd
  have HB0 := Lib.hid (Below.refl w.heap.size w)
  go_enter Try.func7, Try.ntmps7
  have HX := Lib.hid (show Below w.heap.size w (w.alloc (.cells (scrA s) 49)) from ((Below.refl w.heap.size w).alloc (by simp <;> omega) (.cells (scrA s) 49)))
  have HBX := Lib.hid (HB0.out.trans (HX.out.mono HB0.out.size))
  have pb_ := RowB.new w (scrA s) 49
  (try simp only [World.size_alloc] at pb_)
  have PBa := Lib.hid (show RowB (w.alloc (.cells (scrA s) 49)) (w.heap.size) (scrA s) from pb_)
  clear pb_
  go_wp2_with fail
  refine (szScr_any s 1048576 _ (HR.out _ HBX.out).r HLN.out (by omega) (by omega)).mono ?_
  rintro e v1 ⟨r, rfl, hr1, hx⟩
  have HB1 := Lib.hid (HBX.out.trans (hx.mono HBX.out.size))
  have Fa1 := Lib.hid (RowB.below PBa.out hx PBa.out.lt)
  have sz1 : w.heap.size ≤ v1.heap.size := Nat.le_trans HX.out.size hx.size
  clear HX HBX HB0 PBa hx
  have row_a := Fa1.out.row
  have lt_a := Fa1.out.lt
  rcases hr1 with rfl | ⟨h0, h1⟩
  · go_wp2_with fail
    go_ret
    exact ⟨rfl, HB1.out⟩
  clear row_a lt_a
  have HSA := Lib.hid (show szS s ≤ 1048576 by omega)
  clear h1 HLN
  have HSP := Lib.hid (show ∀ (t : ScrS) (W : World) (b : Nat), OwnS W b t → t.data = s.data → Calls Try.prog 29 #[.agg (scrA t), .int .i64 z] W (AnsS d W) from fun t W b h e => by rw [HDD.out, ← e]; exact spec_ScrRune_any t W b z h (by rw [HQ.out t e]; exact HSA.out))
  have HIM := Lib.hid (show ∀ (t : ScrS) (W : World) (b : Nat), OwnS W b t → t.data = s.data → Calls Try.prog 30 #[.agg (scrA t), .int .i64 z] W (AnsS d W) from fun t W b h e => by rw [HDD.out, ← e]; exact impl_ScrRune_any t W b z h (by rw [HQ.out t e]; exact HSA.out))
  have HX := Lib.hid (show Below v1.heap.size v1 v1 from (Below.refl v1.heap.size v1))
  have HBX := Lib.hid (HB1.out.trans (HX.out.mono HB1.out.size))
  have PBa := Lib.hid (RowB.below Fa1.out HX.out Fa1.out.lt)
  have row_a : rowOf v1 (w.heap.size) = (scrA s) := Fa1.out.row
  have lt_a : w.heap.size < v1.heap.size := Fa1.out.lt
  go_wp2_with fail
  refine (toScr_any s _ (HR.out _ HBX.out) HSA.out).mono ?_
  rintro e v2 ⟨s1, rfl, ho, hd, hx⟩
  clear row_a lt_a
  have HB2 := Lib.hid (HBX.out.trans (hx.mono HBX.out.size))
  have Fa2 := Lib.hid (RowB.below PBa.out hx PBa.out.lt)
  have sz2 : v1.heap.size ≤ v2.heap.size := Nat.le_trans HX.out.size hx.size
  have Et2 := Lib.hid ho
  have Ut := Lib.hid (show ∀ i, SS s1 i → v1.heap.size + 0 ≤ i ∧ i < v2.heap.size from fun i hi => by have h := ho.blk i hi; (try simp at h); exact ⟨by omega, h.2⟩)
  clear HX HBX HB1 Fa1 PBa hx ho
  have Dt := Lib.hid hd
  clear hd
  have HX := Lib.hid (show Below v2.heap.size v2 v2 from (Below.refl v2.heap.size v2))
  have Nt := Lib.hid (Et2.out.below (Nat.le_refl _) HX.out)
  have HBX := Lib.hid (HB2.out.trans (HX.out.mono HB2.out.size))
  have PBa := Lib.hid (RowB.below Fa2.out HX.out Fa2.out.lt)
  go_wp2_with fail
  refine (HSP.out s1 _ _ Nt.out Dt.out).mono ?_
  rintro e v3 ⟨s2, rfl, ho, hd, hx⟩
  have HB3 := Lib.hid (HBX.out.trans (hx.mono HBX.out.size))
  have Et3 := Lib.hid (Nt.out.below (Nat.le_refl _) hx)
  have Fa3 := Lib.hid (RowB.below PBa.out hx PBa.out.lt)
  have sz3 : v2.heap.size ≤ v3.heap.size := Nat.le_trans HX.out.size hx.size
  have Ew3 := Lib.hid ho
  have Uw := Lib.hid (show ∀ i, SS s2 i → v2.heap.size + 0 ≤ i ∧ i < v3.heap.size from fun i hi => by have h := ho.blk i hi; (try simp at h); exact ⟨by omega, h.2⟩)
  clear HX HBX HB2 Et2 Fa2 Nt PBa hx ho
  have Dw := Lib.hid hd
  clear hd Ut Dt HSP
  clear Et3
  have HX := Lib.hid (show Below v3.heap.size v3 (v3.alloc (.cells (scrA s2) 53)) from ((Below.refl v3.heap.size v3).alloc (by simp <;> omega) (.cells (scrA s2) 53)))
  have Nw := Lib.hid (Ew3.out.below (Nat.le_refl _) HX.out)
  have HBX := Lib.hid (HB3.out.trans (HX.out.mono HB3.out.size))
  have pb_ := RowB.new v3 (scrA s2) 53
  (try simp only [World.size_alloc] at pb_)
  have PBbw := Lib.hid (show RowB (v3.alloc (.cells (scrA s2) 53)) (v3.heap.size) (scrA s2) from pb_)
  clear pb_
  have PBa := Lib.hid (RowB.below Fa3.out HX.out Fa3.out.lt)
  have row_a : rowOf v3 (w.heap.size) = (scrA s) := Fa3.out.row
  have lt_a : w.heap.size < v3.heap.size := Fa3.out.lt
  go_wp2_with fail
  refine (toScr_any s _ (HR.out _ HBX.out) HSA.out).mono ?_
  rintro e v4 ⟨s3, rfl, ho, hd, hx⟩
  clear row_a lt_a
  have HB4 := Lib.hid (HBX.out.trans (hx.mono HBX.out.size))
  have Ew4 := Lib.hid (Nw.out.below (Nat.le_refl _) hx)
  have Fa4 := Lib.hid (RowB.below PBa.out hx PBa.out.lt)
  have Fbw4 := Lib.hid (RowB.below PBbw.out hx PBbw.out.lt)
  have sz4 : v3.heap.size ≤ v4.heap.size := Nat.le_trans HX.out.size hx.size
  have Ex4 := Lib.hid ho
  have Ux := Lib.hid (show ∀ i, SS s3 i → v3.heap.size + 1 ≤ i ∧ i < v4.heap.size from fun i hi => by have h := ho.blk i hi; (try simp at h); exact ⟨by omega, h.2⟩)
  clear HX HBX HB3 Ew3 Fa3 Nw PBa PBbw hx ho
  have Dx := Lib.hid hd
  clear hd
  have HX := Lib.hid (show Below v4.heap.size v4 (v4.alloc (.cells (scrA s3) 53)) from ((Below.refl v4.heap.size v4).alloc (by simp <;> omega) (.cells (scrA s3) 53)))
  have Nw := Lib.hid (Ew4.out.below (Nat.le_refl _) HX.out)
  have Nx := Lib.hid (Ex4.out.below (Nat.le_refl _) HX.out)
  have HBX := Lib.hid (HB4.out.trans (HX.out.mono HB4.out.size))
  have pb_ := RowB.new v4 (scrA s3) 53
  (try simp only [World.size_alloc] at pb_)
  have PBbx := Lib.hid (show RowB (v4.alloc (.cells (scrA s3) 53)) (v4.heap.size) (scrA s3) from pb_)
  clear pb_
  have PBa := Lib.hid (RowB.below Fa4.out HX.out Fa4.out.lt)
  have PBbw := Lib.hid (RowB.below Fbw4.out HX.out Fbw4.out.lt)
  go_wp2_with fail
  refine (HIM.out s3 _ _ Nx.out Dx.out).mono ?_
  rintro e v5 ⟨s4, rfl, ho, hd, hx⟩
  have HB5 := Lib.hid (HBX.out.trans (hx.mono HBX.out.size))
  have Ew5 := Lib.hid (Nw.out.below (Nat.le_refl _) hx)
  have Ex5 := Lib.hid (Nx.out.below (Nat.le_refl _) hx)
  have Fa5 := Lib.hid (RowB.below PBa.out hx PBa.out.lt)
  have Fbw5 := Lib.hid (RowB.below PBbw.out hx PBbw.out.lt)
  have Fbx5 := Lib.hid (RowB.below PBbx.out hx PBbx.out.lt)
  have sz5 : v4.heap.size ≤ v5.heap.size := Nat.le_trans HX.out.size hx.size
  have Eg5 := Lib.hid ho
  have Ug := Lib.hid (show ∀ i, SS s4 i → v4.heap.size + 1 ≤ i ∧ i < v5.heap.size from fun i hi => by have h := ho.blk i hi; (try simp at h); exact ⟨by omega, h.2⟩)
  clear HX HBX HB4 Ew4 Ex4 Fa4 Fbw4 Nw Nx PBa PBbw PBbx hx ho
  have Dg := Lib.hid hd
  clear hd
  have he := Lib.hid (endS_ge (k := 1) (s := s4) (by omega))
  obtain ⟨m0, hm0⟩ : ∃ m, m = endS 1 s4 := ⟨_, rfl⟩
  have hm1 : 0 ≤ m0 := by rw [hm0]; have := he.out; omega
  have HM0 := Lib.hid hm0
  have hmm : (m0 != m0) = false := by simp
  clear hm0 he
  have he := Lib.hid (endS_ge (k := 1) (s := s3) (by omega))
  obtain ⟨k0, hk0⟩ : ∃ m, m = endS 1 s3 := ⟨_, rfl⟩
  have hk1 : 0 ≤ k0 := by rw [hk0]; have := he.out; omega
  have HK0 := Lib.hid hk0
  have hkd : decide (k0 < 0) = false := decide_eq_false (by omega)
  clear hk0 he
  have HX := Lib.hid (show Below v5.heap.size v5 (v5.alloc (.cells (scrA s4) 53)) from ((Below.refl v5.heap.size v5).alloc (by simp <;> omega) (.cells (scrA s4) 53)))
  have Nw := Lib.hid (Ew5.out.below (Nat.le_refl _) HX.out)
  have Nx := Lib.hid (Ex5.out.below (Nat.le_refl _) HX.out)
  have Ng := Lib.hid (Eg5.out.below (Nat.le_refl _) HX.out)
  have HBX := Lib.hid (HB5.out.trans (HX.out.mono HB5.out.size))
  have pb_ := RowB.new v5 (scrA s4) 53
  (try simp only [World.size_alloc] at pb_)
  have PBbg := Lib.hid (show RowB (v5.alloc (.cells (scrA s4) 53)) (v5.heap.size) (scrA s4) from pb_)
  clear pb_
  have PBa := Lib.hid (RowB.below Fa5.out HX.out Fa5.out.lt)
  have PBbw := Lib.hid (RowB.below Fbw5.out HX.out Fbw5.out.lt)
  have PBbx := Lib.hid (RowB.below Fbx5.out HX.out Fbx5.out.lt)
  have row_bw : rowOf v5 (v3.heap.size) = (scrA s2) := Fbw5.out.row
  have lt_bw : v3.heap.size < v5.heap.size := Fbw5.out.lt
  go_wp2_with fail
  refine (eqS Ng.out Nw.out (Dw.out.trans Dg.out.symm) (HSZ.out _ Dg.out)).mono ?_
  rintro e v6 ⟨rfl, hx⟩
  clear row_bw lt_bw
  have HB6 := Lib.hid (HBX.out.trans (hx.mono HBX.out.size))
  have Ew6 := Lib.hid (Nw.out.below (Nat.le_refl _) hx)
  have Ex6 := Lib.hid (Nx.out.below (Nat.le_refl _) hx)
  have Eg6 := Lib.hid (Ng.out.below (Nat.le_refl _) hx)
  have Fa6 := Lib.hid (RowB.below PBa.out hx PBa.out.lt)
  have Fbw6 := Lib.hid (RowB.below PBbw.out hx PBbw.out.lt)
  have Fbx6 := Lib.hid (RowB.below PBbx.out hx PBbx.out.lt)
  have Fbg6 := Lib.hid (RowB.below PBbg.out hx PBbg.out.lt)
  have sz6 : v5.heap.size ≤ v6.heap.size := Nat.le_trans HX.out.size hx.size
  clear HX HBX HB5 Ew5 Ex5 Eg5 Fa5 Fbw5 Fbx5 Nw Nx Ng PBa PBbw PBbx PBbg hx
  have row_a := Fa6.out.row
  have lt_a := Fa6.out.lt
  have row_x := Fbx6.out.row
  have lt_x := Fbx6.out.lt
  have HT := Lib.hid (fun W (h : Below w.heap.size w W) => toScr_any s W (HR.out W h) HSA.out)
  go_upto_region 10 with fail
  go_cut [35] (fun c wx => c = .bool false ∧ Below v6.heap.size v6 wx)
  case first =>
    go_region_with (first
      | (go_at_call 24; refine (HT.out _ ?_).mono ?_; exact ⟨HB6.out.os, HB6.out.tape, HB6.out.output, HB6.out.size, HB6.out.block⟩; rintro e y1 ⟨s9, rfl, hoy, hdy, hxy'⟩; have hxy : Below v6.heap.size v6 y1 := undrew hxy'; clear hxy'; have HOY := Lib.hid hoy; have HDY := Lib.hid hdy; have HPY := Lib.hid (Ex6.out.below (Nat.le_refl _) hxy); have row_y : rowOf y1 (v4.heap.size) = scrA s3 := (RowB.below Fbx6.out hxy lt_x).row; have row_z : rowOf y1 (w.heap.size) = scrA s := (RowB.below Fa6.out hxy lt_a).row; have HXY := Lib.hid hxy; have zy := hxy.size; clear hoy hdy hxy)
      | (go_at_call 26; refine (eqS HPY.out HOY.out (HDY.out.trans Dx.out.symm) (by rw [HQ.out _ Dx.out]; exact HSA.out)).mono ?_; rintro e y2 ⟨rfl, hxz⟩))
    all_goals
      have HE := Lib.hid (HXY.out.trans (hxz.mono zy))
      clear hxz
      go_wp2_with fail
      go_meet
      case rel => exact ⟨rfl, HE.out⟩
  case rest =>
    obtain ⟨rfl, hx⟩ := hcut
    clear row_a row_x lt_a lt_x HT
    have HB7 := Lib.hid (HB6.out.trans (hx.mono HB6.out.size))
    have sz7 : v6.heap.size ≤ wc.heap.size := hx.size
    have Ew7 := Lib.hid (Ew6.out.below (Nat.le_refl _) hx)
    have Ex7 := Lib.hid (Ex6.out.below (Nat.le_refl _) hx)
    have Eg7 := Lib.hid (Eg6.out.below (Nat.le_refl _) hx)
    have Fa7 := Lib.hid (RowB.below Fa6.out hx Fa6.out.lt)
    have Fbw7 := Lib.hid (RowB.below Fbw6.out hx Fbw6.out.lt)
    have Fbx7 := Lib.hid (RowB.below Fbx6.out hx Fbx6.out.lt)
    have Fbg7 := Lib.hid (RowB.below Fbg6.out hx Fbg6.out.lt)
    clear hx HB6 Ew6 Ex6 Eg6 Fa6 Fbw6 Fbx6 Fbg6
    have HX := Lib.hid (show Below wc.heap.size wc wc from (Below.refl wc.heap.size wc))
    have Nw := Lib.hid (Ew7.out.below (Nat.le_refl _) HX.out)
    have Nx := Lib.hid (Ex7.out.below (Nat.le_refl _) HX.out)
    have Ng := Lib.hid (Eg7.out.below (Nat.le_refl _) HX.out)
    have HBX := Lib.hid (HB7.out.trans (HX.out.mono HB7.out.size))
    have PBa := Lib.hid (RowB.below Fa7.out HX.out Fa7.out.lt)
    have PBbw := Lib.hid (RowB.below Fbw7.out HX.out Fbw7.out.lt)
    have PBbx := Lib.hid (RowB.below Fbx7.out HX.out Fbx7.out.lt)
    have PBbg := Lib.hid (RowB.below Fbg7.out HX.out Fbg7.out.lt)
    have row_bx : rowOf wc (v4.heap.size) = (scrA s3) := Fbx7.out.row
    have lt_bx : v4.heap.size < wc.heap.size := Fbx7.out.lt
    go_wp2_with fail
    refine ((markScr_any s3 _ 1 _ Nx.out (by rw [HQ.out _ Dx.out]; exact HSA.out) (by omega) (by omega))).mono ?_
    rintro e v8 ⟨rfl, ho, on⟩
    clear row_bx lt_bx
    have HB8 := Lib.hid (Only.below_ on HBX.out HBX.out.size (fun i hi => by have h := Ux.out i hi; omega))
    have Ew8 := Lib.hid (Nw.out.only on (fun i hi hs => by have h := Ux.out i hs; have h2 := Uw.out i hi; omega))
    have Eg8 := Lib.hid (Ng.out.only on (fun i hi hs => by have h := Ux.out i hs; have h2 := Ug.out i hi; omega))
    have Fa8 := Lib.hid (RowB.only PBa.out on (fun hs => by have h := Ux.out _ hs; omega))
    have Fbw8 := Lib.hid (RowB.only PBbw.out on (fun hs => by have h := Ux.out _ hs; omega))
    have Fbx8 := Lib.hid (RowB.only PBbx.out on (fun hs => by have h := Ux.out _ hs; omega))
    have Fbg8 := Lib.hid (RowB.only PBbg.out on (fun hs => by have h := Ux.out _ hs; omega))
    have Ex8 := Lib.hid ho
    clear HX HBX HB7 Ew7 Ex7 Eg7 Fa7 Fbw7 Fbx7 Fbg7 Nw Nx Ng PBa PBbw PBbx PBbg on ho
    rw [← HK0.out]
    clear Ex8
    clear Ux HK0 Dx
    have HX := Lib.hid (show Below v8.heap.size v8 v8 from (Below.refl v8.heap.size v8))
    have Nw := Lib.hid (Ew8.out.below (Nat.le_refl _) HX.out)
    have Ng := Lib.hid (Eg8.out.below (Nat.le_refl _) HX.out)
    have HBX := Lib.hid (HB8.out.trans (HX.out.mono HB8.out.size))
    have PBa := Lib.hid (RowB.below Fa8.out HX.out Fa8.out.lt)
    have PBbw := Lib.hid (RowB.below Fbw8.out HX.out Fbw8.out.lt)
    have PBbx := Lib.hid (RowB.below Fbx8.out HX.out Fbx8.out.lt)
    have PBbg := Lib.hid (RowB.below Fbg8.out HX.out Fbg8.out.lt)
    have row_bw : rowOf v8 (v3.heap.size) = (scrA s2) := Fbw8.out.row
    have lt_bw : v3.heap.size < v8.heap.size := Fbw8.out.lt
    have row_bg : rowOf v8 (v5.heap.size) = (scrA s4) := Fbg8.out.row
    have lt_bg : v5.heap.size < v8.heap.size := Fbg8.out.lt
    go_wp2_with fail
    refine (eqS Ng.out Nw.out (Dw.out.trans Dg.out.symm) (HSZ.out _ Dg.out)).mono ?_
    rintro e v9 ⟨rfl, hx⟩
    clear row_bw lt_bw
    clear row_bg lt_bg
    have HB9 := Lib.hid (HBX.out.trans (hx.mono HBX.out.size))
    have Ew9 := Lib.hid (Nw.out.below (Nat.le_refl _) hx)
    have Eg9 := Lib.hid (Ng.out.below (Nat.le_refl _) hx)
    have Fa9 := Lib.hid (RowB.below PBa.out hx PBa.out.lt)
    have Fbw9 := Lib.hid (RowB.below PBbw.out hx PBbw.out.lt)
    have Fbx9 := Lib.hid (RowB.below PBbx.out hx PBbx.out.lt)
    have Fbg9 := Lib.hid (RowB.below PBbg.out hx PBbg.out.lt)
    have sz9 : v8.heap.size ≤ v9.heap.size := Nat.le_trans HX.out.size hx.size
    clear HX HBX HB8 Ew8 Eg8 Fa8 Fbw8 Fbx8 Fbg8 Nw Ng PBa PBbw PBbx PBbg hx
    have HX := Lib.hid (show Below v9.heap.size v9 v9 from (Below.refl v9.heap.size v9))
    have Nw := Lib.hid (Ew9.out.below (Nat.le_refl _) HX.out)
    have Ng := Lib.hid (Eg9.out.below (Nat.le_refl _) HX.out)
    have HBX := Lib.hid (HB9.out.trans (HX.out.mono HB9.out.size))
    have PBa := Lib.hid (RowB.below Fa9.out HX.out Fa9.out.lt)
    have PBbw := Lib.hid (RowB.below Fbw9.out HX.out Fbw9.out.lt)
    have PBbx := Lib.hid (RowB.below Fbx9.out HX.out Fbx9.out.lt)
    have PBbg := Lib.hid (RowB.below Fbg9.out HX.out Fbg9.out.lt)
    have row_bg : rowOf v9 (v5.heap.size) = (scrA s4) := Fbg9.out.row
    have lt_bg : v5.heap.size < v9.heap.size := Fbg9.out.lt
    go_wp2_with fail
    refine ((markScr_any s4 _ 1 _ Ng.out (HSZ.out _ Dg.out) (by omega) (by omega))).mono ?_
    rintro e v10 ⟨rfl, ho, on⟩
    clear row_bg lt_bg
    have HB10 := Lib.hid (Only.below_ on HBX.out HBX.out.size (fun i hi => by have h := Ug.out i hi; omega))
    have Ew10 := Lib.hid (Nw.out.only on (fun i hi hs => by have h := Ug.out i hs; have h2 := Uw.out i hi; omega))
    have Fa10 := Lib.hid (RowB.only PBa.out on (fun hs => by have h := Ug.out _ hs; omega))
    have Fbw10 := Lib.hid (RowB.only PBbw.out on (fun hs => by have h := Ug.out _ hs; omega))
    have Fbx10 := Lib.hid (RowB.only PBbx.out on (fun hs => by have h := Ug.out _ hs; omega))
    have Fbg10 := Lib.hid (RowB.only PBbg.out on (fun hs => by have h := Ug.out _ hs; omega))
    have Eg10 := Lib.hid ho
    clear HX HBX HB9 Ew9 Eg9 Fa9 Fbw9 Fbx9 Fbg9 Nw Ng PBa PBbw PBbx PBbg on ho
    rw [← HM0.out]
    have HX := Lib.hid (show Below v10.heap.size v10 v10 from (Below.refl v10.heap.size v10))
    have Nw := Lib.hid (Ew10.out.below (Nat.le_refl _) HX.out)
    have Ng := Lib.hid (Eg10.out.below (Nat.le_refl _) HX.out)
    have HBX := Lib.hid (HB10.out.trans (HX.out.mono HB10.out.size))
    have PBa := Lib.hid (RowB.below Fa10.out HX.out Fa10.out.lt)
    have PBbw := Lib.hid (RowB.below Fbw10.out HX.out Fbw10.out.lt)
    have PBbx := Lib.hid (RowB.below Fbx10.out HX.out Fbx10.out.lt)
    have PBbg := Lib.hid (RowB.below Fbg10.out HX.out Fbg10.out.lt)
    have row_bg : rowOf v10 (v5.heap.size) = (scrA s4) := Fbg10.out.row
    have lt_bg : v5.heap.size < v10.heap.size := Fbg10.out.lt
    go_wp2_with fail
    refine ((heldScr_any s4 1 _ Ng.out.rd (HSZ.out _ Dg.out) (by omega) (by omega))).mono ?_
    rintro e v11 ⟨rfl, hx⟩
    clear row_bg lt_bg
    have HB11 := Lib.hid (HBX.out.trans (hx.mono HBX.out.size))
    have Ew11 := Lib.hid (Nw.out.below (Nat.le_refl _) hx)
    have Eg11 := Lib.hid (Ng.out.below (Nat.le_refl _) hx)
    have Fa11 := Lib.hid (RowB.below PBa.out hx PBa.out.lt)
    have Fbw11 := Lib.hid (RowB.below PBbw.out hx PBbw.out.lt)
    have Fbx11 := Lib.hid (RowB.below PBbx.out hx PBbx.out.lt)
    have Fbg11 := Lib.hid (RowB.below PBbg.out hx PBbg.out.lt)
    have sz11 : v10.heap.size ≤ v11.heap.size := Nat.le_trans HX.out.size hx.size
    clear HX HBX HB10 Ew10 Eg10 Fa10 Fbw10 Fbx10 Fbg10 Nw Ng PBa PBbw PBbx PBbg hx
    rw [← HM0.out]
    have HX := Lib.hid (show Below v11.heap.size v11 v11 from (Below.refl v11.heap.size v11))
    have Nw := Lib.hid (Ew11.out.below (Nat.le_refl _) HX.out)
    have Ng := Lib.hid (Eg11.out.below (Nat.le_refl _) HX.out)
    have HBX := Lib.hid (HB11.out.trans (HX.out.mono HB11.out.size))
    have PBa := Lib.hid (RowB.below Fa11.out HX.out Fa11.out.lt)
    have PBbw := Lib.hid (RowB.below Fbw11.out HX.out Fbw11.out.lt)
    have PBbx := Lib.hid (RowB.below Fbx11.out HX.out Fbx11.out.lt)
    have PBbg := Lib.hid (RowB.below Fbg11.out HX.out Fbg11.out.lt)
    have row_a : rowOf v11 (w.heap.size) = (scrA s) := Fa11.out.row
    have lt_a : w.heap.size < v11.heap.size := Fa11.out.lt
    go_wp2_with fail
    refine (toScr_any s _ (HR.out _ HBX.out) HSA.out).mono ?_
    rintro e v12 ⟨s5, rfl, ho, hd, hx⟩
    clear row_a lt_a
    have HB12 := Lib.hid (HBX.out.trans (hx.mono HBX.out.size))
    have Ew12 := Lib.hid (Nw.out.below (Nat.le_refl _) hx)
    have Eg12 := Lib.hid (Ng.out.below (Nat.le_refl _) hx)
    have Fa12 := Lib.hid (RowB.below PBa.out hx PBa.out.lt)
    have Fbw12 := Lib.hid (RowB.below PBbw.out hx PBbw.out.lt)
    have Fbx12 := Lib.hid (RowB.below PBbx.out hx PBbx.out.lt)
    have Fbg12 := Lib.hid (RowB.below PBbg.out hx PBbg.out.lt)
    have sz12 : v11.heap.size ≤ v12.heap.size := Nat.le_trans HX.out.size hx.size
    have Ey12 := Lib.hid ho
    have Uy := Lib.hid (show ∀ i, SS s5 i → v11.heap.size + 0 ≤ i ∧ i < v12.heap.size from fun i hi => by have h := ho.blk i hi; (try simp at h); exact ⟨by omega, h.2⟩)
    clear HX HBX HB11 Ew11 Eg11 Fa11 Fbw11 Fbx11 Fbg11 Nw Ng PBa PBbw PBbx PBbg hx ho
    have Dy := Lib.hid hd
    clear hd
    have HX := Lib.hid (show Below v12.heap.size v12 v12 from (Below.refl v12.heap.size v12))
    have Nw := Lib.hid (Ew12.out.below (Nat.le_refl _) HX.out)
    have Ng := Lib.hid (Eg12.out.below (Nat.le_refl _) HX.out)
    have Ny := Lib.hid (Ey12.out.below (Nat.le_refl _) HX.out)
    have HBX := Lib.hid (HB12.out.trans (HX.out.mono HB12.out.size))
    have PBa := Lib.hid (RowB.below Fa12.out HX.out Fa12.out.lt)
    have PBbw := Lib.hid (RowB.below Fbw12.out HX.out Fbw12.out.lt)
    have PBbx := Lib.hid (RowB.below Fbx12.out HX.out Fbx12.out.lt)
    have PBbg := Lib.hid (RowB.below Fbg12.out HX.out Fbg12.out.lt)
    go_wp2_with fail
    refine (HIM.out s5 _ _ Ny.out Dy.out).mono ?_
    rintro e v13 ⟨s6, rfl, ho, hd, hx⟩
    have HB13 := Lib.hid (HBX.out.trans (hx.mono HBX.out.size))
    have Ew13 := Lib.hid (Nw.out.below (Nat.le_refl _) hx)
    have Eg13 := Lib.hid (Ng.out.below (Nat.le_refl _) hx)
    have Ey13 := Lib.hid (Ny.out.below (Nat.le_refl _) hx)
    have Fa13 := Lib.hid (RowB.below PBa.out hx PBa.out.lt)
    have Fbw13 := Lib.hid (RowB.below PBbw.out hx PBbw.out.lt)
    have Fbx13 := Lib.hid (RowB.below PBbx.out hx PBbx.out.lt)
    have Fbg13 := Lib.hid (RowB.below PBbg.out hx PBbg.out.lt)
    have sz13 : v12.heap.size ≤ v13.heap.size := Nat.le_trans HX.out.size hx.size
    have Eh13 := Lib.hid ho
    have Uh := Lib.hid (show ∀ i, SS s6 i → v12.heap.size + 0 ≤ i ∧ i < v13.heap.size from fun i hi => by have h := ho.blk i hi; (try simp at h); exact ⟨by omega, h.2⟩)
    clear HX HBX HB12 Ew12 Eg12 Ey12 Fa12 Fbw12 Fbx12 Fbg12 Nw Ng Ny PBa PBbw PBbx PBbg hx ho
    have Dh := Lib.hid hd
    clear hd Uy Dy
    clear Ey13
    have HX := Lib.hid (show Below v13.heap.size v13 (v13.alloc (.cells (scrA s6) 53)) from ((Below.refl v13.heap.size v13).alloc (by simp <;> omega) (.cells (scrA s6) 53)))
    have Nw := Lib.hid (Ew13.out.below (Nat.le_refl _) HX.out)
    have Ng := Lib.hid (Eg13.out.below (Nat.le_refl _) HX.out)
    have Nh := Lib.hid (Eh13.out.below (Nat.le_refl _) HX.out)
    have HBX := Lib.hid (HB13.out.trans (HX.out.mono HB13.out.size))
    have pb_ := RowB.new v13 (scrA s6) 53
    (try simp only [World.size_alloc] at pb_)
    have PBbh := Lib.hid (show RowB (v13.alloc (.cells (scrA s6) 53)) (v13.heap.size) (scrA s6) from pb_)
    clear pb_
    have PBa := Lib.hid (RowB.below Fa13.out HX.out Fa13.out.lt)
    have PBbw := Lib.hid (RowB.below Fbw13.out HX.out Fbw13.out.lt)
    have PBbx := Lib.hid (RowB.below Fbx13.out HX.out Fbx13.out.lt)
    have PBbg := Lib.hid (RowB.below Fbg13.out HX.out Fbg13.out.lt)
    have row_bw : rowOf v13 (v3.heap.size) = (scrA s2) := Fbw13.out.row
    have lt_bw : v3.heap.size < v13.heap.size := Fbw13.out.lt
    go_wp2_with fail
    refine (eqS Nh.out Nw.out (Dw.out.trans Dh.out.symm) (HSZ.out _ Dh.out)).mono ?_
    rintro e v14 ⟨rfl, hx⟩
    clear row_bw lt_bw
    have HB14 := Lib.hid (HBX.out.trans (hx.mono HBX.out.size))
    have Ew14 := Lib.hid (Nw.out.below (Nat.le_refl _) hx)
    have Eg14 := Lib.hid (Ng.out.below (Nat.le_refl _) hx)
    have Eh14 := Lib.hid (Nh.out.below (Nat.le_refl _) hx)
    have Fa14 := Lib.hid (RowB.below PBa.out hx PBa.out.lt)
    have Fbw14 := Lib.hid (RowB.below PBbw.out hx PBbw.out.lt)
    have Fbx14 := Lib.hid (RowB.below PBbx.out hx PBbx.out.lt)
    have Fbg14 := Lib.hid (RowB.below PBbg.out hx PBbg.out.lt)
    have Fbh14 := Lib.hid (RowB.below PBbh.out hx PBbh.out.lt)
    have sz14 : v13.heap.size ≤ v14.heap.size := Nat.le_trans HX.out.size hx.size
    clear HX HBX HB13 Ew13 Eg13 Eh13 Fa13 Fbw13 Fbx13 Fbg13 Nw Ng Nh PBa PBbw PBbx PBbg PBbh hx
    have HX := Lib.hid (show Below v14.heap.size v14 v14 from (Below.refl v14.heap.size v14))
    have Nw := Lib.hid (Ew14.out.below (Nat.le_refl _) HX.out)
    have Ng := Lib.hid (Eg14.out.below (Nat.le_refl _) HX.out)
    have Nh := Lib.hid (Eh14.out.below (Nat.le_refl _) HX.out)
    have HBX := Lib.hid (HB14.out.trans (HX.out.mono HB14.out.size))
    have PBa := Lib.hid (RowB.below Fa14.out HX.out Fa14.out.lt)
    have PBbw := Lib.hid (RowB.below Fbw14.out HX.out Fbw14.out.lt)
    have PBbx := Lib.hid (RowB.below Fbx14.out HX.out Fbx14.out.lt)
    have PBbg := Lib.hid (RowB.below Fbg14.out HX.out Fbg14.out.lt)
    have PBbh := Lib.hid (RowB.below Fbh14.out HX.out Fbh14.out.lt)
    have row_bg : rowOf v14 (v5.heap.size) = (scrA s4) := Fbg14.out.row
    have lt_bg : v5.heap.size < v14.heap.size := Fbg14.out.lt
    go_wp2_with fail
    refine ((heldScr_any s4 1 _ Ng.out.rd (HSZ.out _ Dg.out) (by omega) (by omega))).mono ?_
    rintro e v15 ⟨rfl, hx⟩
    clear row_bg lt_bg
    have HB15 := Lib.hid (HBX.out.trans (hx.mono HBX.out.size))
    have Ew15 := Lib.hid (Nw.out.below (Nat.le_refl _) hx)
    have Eg15 := Lib.hid (Ng.out.below (Nat.le_refl _) hx)
    have Eh15 := Lib.hid (Nh.out.below (Nat.le_refl _) hx)
    have Fa15 := Lib.hid (RowB.below PBa.out hx PBa.out.lt)
    have Fbw15 := Lib.hid (RowB.below PBbw.out hx PBbw.out.lt)
    have Fbx15 := Lib.hid (RowB.below PBbx.out hx PBbx.out.lt)
    have Fbg15 := Lib.hid (RowB.below PBbg.out hx PBbg.out.lt)
    have Fbh15 := Lib.hid (RowB.below PBbh.out hx PBbh.out.lt)
    have sz15 : v14.heap.size ≤ v15.heap.size := Nat.le_trans HX.out.size hx.size
    clear HX HBX HB14 Ew14 Eg14 Eh14 Fa14 Fbw14 Fbx14 Fbg14 Fbh14 Nw Ng Nh PBa PBbw PBbx PBbg PBbh hx
    rw [← HM0.out]
    go_wp2_with fail
    go_ret
    exact ⟨rfl, HB15.out⟩
end Go.Proofs.Ythlpchojlddnbaa.fnExactScrRune

