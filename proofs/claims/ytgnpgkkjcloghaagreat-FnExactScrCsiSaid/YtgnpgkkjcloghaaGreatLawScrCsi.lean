/- FnExactScrCsi: the walk of the law from the contracts of the program, of its model and of the laws' helpers; at every input, no condition. -/
import Derived.Test.YtgnpgkkjcloghaaGreatCsY
set_option maxRecDepth 100000
set_option maxHeartbeats 16000000
set_option linter.unusedVariables false
namespace Go.Proofs.YtgnpgkkjcloghaaGreat.DOk
open Lib
open RowK
theorem OwnI.only {S : Nat → Prop} {w w' : World} {base : Nat} {A : Option Addr} {n c : Nat} {zs : List Int} (h : OwnI w base A n c zs) (on : Only S w w') (hd : ∀ i, (Value.slice A n c).ownBlock = some i → ¬ S i) : OwnI w' base A n c zs := Only.own h on hd
end Go.Proofs.YtgnpgkkjcloghaaGreat.DOk
namespace Go.Proofs.YtgnpgkkjcloghaaGreat.fnExactScrCsi
open Lib
open Go.RowKit Bytes Rows_ RowK Gr DOk Opq Sc
attribute [local go_sem ↓] Go.wp_at_zero Go.wp_at_succ Sc.exec_storeS Sc.exec_loadS Sc.exec_loadL
attribute [local go_sem] blkOf_ptr isHead_ptr aggN_agg setRow_alloc rowZ_at rowZ_past scrA_size one_scr rowOf_alloc_at rowOf_alloc_past rowOf_drew
theorem own : ownKnob Tryz.prog.godebug = none := by kernel_rfl
theorem sz_csi (mark : Bool) (zs : List Int) (z : Int) (d : ScrD) : szD (csiF mark zs z d) ≤ 1048576 := by
  unfold csiF
  split
  · rename_i hab
    exact sz_okF fun h => by have := ok_size (ok_csi h mark hab z); show szD (csiD d mark zs z) ≤ _; omega
  · decide
theorem only_gr {w w' : World} {r : Option Nat} (h : w.grownBy w' r) : Only (fun i => r = some i) w w' := ⟨h.os, h.tape, h.output, h.size, fun i hi hn => h.block i hi (fun e => hn e.symm)⟩
theorem endS_le {s : ScrS} (h : szS s ≤ 1048576) : endS 1 s ≤ 30000000 := by unfold endS; unfold szS at h; omega
theorem walk (s : ScrS) (mark : Bool) (A : Option Addr) (n c : Nat) (zs : List Int) (z : Int) (w : World) (hr : RdS w w.heap.size s) (hl : LenS s) (hri : RdI w w.heap.size A zs) (hli : zs.length = n) (hm : n ≤ maxLen) (wf0 : (Lit.int .i64 z).wf = true) :
    Calls Tryz.prog 3 #[.agg (scrA s), .bool mark, .slice A n c, .int .i64 z] w fun e w' => e = .returned (.bool true) ∧ Below w.heap.size w w' := by
  unfold maxLen at hm
  by_cases hn : n ≤ 1048576
  rotate_left
  · have hnn : (1048576 : Int) < (n : Int) := by omega
    have hB := hid ((Below.refl w.heap.size w).alloc (Nat.le_refl _) (.cells (scrA s) 30))
    clear hr hl hri hli wf0 hm
    go_enter Tryz.func3, Tryz.ntmps3
    go_wp2_with fail
    go_ret
    exact ⟨rfl, hB.out⟩
  have hnn : ¬ (1048576 : Int) < (n : Int) := by omega
  have HR := hid (fun W (h : Below w.heap.size w W) => (hr.below (Nat.le_refl _) h).more h.size)
  have HRI := hid (fun W (h : Below w.heap.size w W) => show RdI W W.heap.size A zs from (hri.below (Nat.le_refl _) h).more h.size)
  have HLI := hid hli
  have HLN := hid hl
  obtain ⟨d, hd⟩ : ∃ d, d = csiF mark zs z s.data := ⟨_, rfl⟩
  have HDD := hid hd
  have HQ := hid (show ∀ t : ScrS, t.data = s.data → szS t = szS s from fun t h => by rw [szS_data, h, ← szS_data])
  have HSZ := hid (show ∀ t : ScrS, t.data = d → szS t ≤ 1048576 from fun t h => by rw [szS_of h, hd]; exact sz_csi mark zs z _)
  have HWF := hid wf0
  clear hr hl hd hri hli wf0 hm
  have HB0 := hid (Below.refl w.heap.size w)
  go_enter Tryz.func3, Tryz.ntmps3
  have HX := hid (show Below w.heap.size w (w.alloc (.cells (scrA s) 30)) from ((Below.refl w.heap.size w).alloc (by simp <;> omega) (.cells (scrA s) 30)))
  have HBX := hid (HB0.out.trans (HX.out.mono HB0.out.size))
  have pb_ := RowB.new w (scrA s) 30
  (try simp only [World.size_alloc] at pb_)
  have PBa := hid (show RowB (w.alloc (.cells (scrA s) 30)) (w.heap.size) (scrA s) from pb_)
  clear pb_
  go_wp2_with fail
  refine (szScr_any s 1048576 _ (HR.out _ HBX.out).r HLN.out (by omega) (by omega)).mono ?_
  rintro e v1 ⟨r, rfl, hr1, hx⟩
  have HB1 := hid (HBX.out.trans (hx.mono HBX.out.size))
  have Fa1 := hid (RowB.below PBa.out hx PBa.out.lt)
  have sz1 : w.heap.size ≤ v1.heap.size := Nat.le_trans HX.out.size hx.size
  clear HX HBX HB0 PBa hx
  have row_a := Fa1.out.row
  have lt_a := Fa1.out.lt
  rcases hr1 with rfl | ⟨h0, h1⟩
  · go_wp2_with fail
    go_ret
    exact ⟨rfl, HB1.out⟩
  clear row_a lt_a
  have HSA := hid (show szS s ≤ 1048576 by omega)
  clear h1 HLN
  have HSP := hid (show ∀ (t : ScrS) (W : World) (b : Nat) (A' : Option Addr) (c' : Nat), OwnS W b t → t.data = s.data → RdI W W.heap.size A' zs → Calls Tryz.prog 5 #[.agg (scrA t), .bool mark, .slice A' n c', .int .i64 z] W (AnsS d W) from fun t W b A' c' h e hi => by rw [HDD.out, ← e]; exact spec_ScrCsi_any t W b mark A' n c' zs z h (by rw [HQ.out t e]; exact HSA.out) hi HLI.out (by omega))
  have HIM := hid (show ∀ (t : ScrS) (W : World) (b : Nat) (A' : Option Addr) (c' : Nat), OwnS W b t → t.data = s.data → RdI W W.heap.size A' zs → Calls Tryz.prog 8 #[.agg (scrA t), .bool mark, .slice A' n c', .int .i64 z] W (AnsS d W) from fun t W b A' c' h e hi => by rw [HDD.out, ← e]; exact impl_ScrCsi_any t W b mark A' n c' zs z h (by rw [HQ.out t e]; exact HSA.out) hi HLI.out (by omega) HWF.out)
  have HTI := hid (fun W (h : Below w.heap.size w W) => toIntS_any A n c zs W (HRI.out W h) HLI.out (by omega))
  have HX := hid (show Below v1.heap.size v1 v1 from (Below.refl v1.heap.size v1))
  have HBX := hid (HB1.out.trans (HX.out.mono HB1.out.size))
  have PBa := hid (RowB.below Fa1.out HX.out Fa1.out.lt)
  have row_a : rowOf v1 (w.heap.size) = (scrA s) := Fa1.out.row
  have lt_a : w.heap.size < v1.heap.size := Fa1.out.lt
  go_wp2_with fail
  refine (toScr_any s _ (HR.out _ HBX.out) HSA.out).mono ?_
  rintro e v2 ⟨s1, rfl, ho, hd, hx⟩
  clear row_a lt_a
  have HB2 := hid (HBX.out.trans (hx.mono HBX.out.size))
  have Fa2 := hid (RowB.below PBa.out hx PBa.out.lt)
  have sz2 : v1.heap.size ≤ v2.heap.size := Nat.le_trans HX.out.size hx.size
  have Et2 := hid ho
  have Ut := hid (show ∀ i, SS s1 i → v1.heap.size + 0 ≤ i ∧ i < v2.heap.size from fun i hi => by have h := ho.blk i hi; (try simp at h); exact ⟨by omega, h.2⟩)
  clear HX HBX HB1 Fa1 PBa hx ho
  have Dt := hid hd
  clear hd
  have HX := hid (show Below v2.heap.size v2 v2 from (Below.refl v2.heap.size v2))
  have Nt := hid (Et2.out.below (Nat.le_refl _) HX.out)
  have HBX := hid (HB2.out.trans (HX.out.mono HB2.out.size))
  have PBa := hid (RowB.below Fa2.out HX.out Fa2.out.lt)
  go_wp2_with fail
  refine (HTI.out _ HBX.out).mono ?_
  rintro e v3 ⟨A1, c1, rfl, ho, hx⟩
  have HB3 := hid (HBX.out.trans (hx.mono HBX.out.size))
  have Et3 := hid (Nt.out.below (Nat.le_refl _) hx)
  have Fa3 := hid (RowB.below PBa.out hx PBa.out.lt)
  have sz3 : v2.heap.size ≤ v3.heap.size := Nat.le_trans HX.out.size hx.size
  have Eit3 := hid ho
  have Uit := hid (show ∀ i, (Value.slice A1 n c1).ownBlock = some i → v2.heap.size + 0 ≤ i ∧ i < v3.heap.size from fun i hi => by have h := ho.blk i hi; (try simp at h); exact ⟨by omega, h.2⟩)
  clear HX HBX HB2 Et2 Fa2 Nt PBa hx ho
  have HX := hid (show Below v3.heap.size v3 v3 from (Below.refl v3.heap.size v3))
  have Nt := hid (Et3.out.below (Nat.le_refl _) HX.out)
  have Nit := hid (Eit3.out.below (Nat.le_refl _) HX.out)
  have HBX := hid (HB3.out.trans (HX.out.mono HB3.out.size))
  have PBa := hid (RowB.below Fa3.out HX.out Fa3.out.lt)
  go_wp2_with fail
  refine (HSP.out s1 _ _ _ _ Nt.out Dt.out Nit.out.rd).mono ?_
  rintro e v4 ⟨s2, rfl, ho, hd, hx⟩
  have HB4 := hid (HBX.out.trans (hx.mono HBX.out.size))
  have Et4 := hid (Nt.out.below (Nat.le_refl _) hx)
  have Eit4 := hid (Nit.out.below (Nat.le_refl _) hx)
  have Fa4 := hid (RowB.below PBa.out hx PBa.out.lt)
  have sz4 : v3.heap.size ≤ v4.heap.size := Nat.le_trans HX.out.size hx.size
  have Ew4 := hid ho
  have Uw := hid (show ∀ i, SS s2 i → v3.heap.size + 0 ≤ i ∧ i < v4.heap.size from fun i hi => by have h := ho.blk i hi; (try simp at h); exact ⟨by omega, h.2⟩)
  clear HX HBX HB3 Et3 Eit3 Fa3 Nt Nit PBa hx ho
  have Dw := hid hd
  clear hd Ut Uit Dt HSP
  clear Et4
  clear Eit4
  have HX := hid (show Below v4.heap.size v4 (v4.alloc (.cells (scrA s2) 38)) from ((Below.refl v4.heap.size v4).alloc (by simp <;> omega) (.cells (scrA s2) 38)))
  have Nw := hid (Ew4.out.below (Nat.le_refl _) HX.out)
  have HBX := hid (HB4.out.trans (HX.out.mono HB4.out.size))
  have pb_ := RowB.new v4 (scrA s2) 38
  (try simp only [World.size_alloc] at pb_)
  have PBbw := hid (show RowB (v4.alloc (.cells (scrA s2) 38)) (v4.heap.size) (scrA s2) from pb_)
  clear pb_
  have PBa := hid (RowB.below Fa4.out HX.out Fa4.out.lt)
  have row_a : rowOf v4 (w.heap.size) = (scrA s) := Fa4.out.row
  have lt_a : w.heap.size < v4.heap.size := Fa4.out.lt
  go_wp2_with fail
  refine (toScr_any s _ (HR.out _ HBX.out) HSA.out).mono ?_
  rintro e v5 ⟨s3, rfl, ho, hd, hx⟩
  clear row_a lt_a
  have HB5 := hid (HBX.out.trans (hx.mono HBX.out.size))
  have Ew5 := hid (Nw.out.below (Nat.le_refl _) hx)
  have Fa5 := hid (RowB.below PBa.out hx PBa.out.lt)
  have Fbw5 := hid (RowB.below PBbw.out hx PBbw.out.lt)
  have sz5 : v4.heap.size ≤ v5.heap.size := Nat.le_trans HX.out.size hx.size
  have Ex5 := hid ho
  have Ux := hid (show ∀ i, SS s3 i → v4.heap.size + 1 ≤ i ∧ i < v5.heap.size from fun i hi => by have h := ho.blk i hi; (try simp at h); exact ⟨by omega, h.2⟩)
  clear HX HBX HB4 Ew4 Fa4 Nw PBa PBbw hx ho
  have Dx := hid hd
  clear hd
  have HX := hid (show Below v5.heap.size v5 (v5.alloc (.cells (scrA s3) 38)) from ((Below.refl v5.heap.size v5).alloc (by simp <;> omega) (.cells (scrA s3) 38)))
  have Nw := hid (Ew5.out.below (Nat.le_refl _) HX.out)
  have Nx := hid (Ex5.out.below (Nat.le_refl _) HX.out)
  have HBX := hid (HB5.out.trans (HX.out.mono HB5.out.size))
  have pb_ := RowB.new v5 (scrA s3) 38
  (try simp only [World.size_alloc] at pb_)
  have PBbx := hid (show RowB (v5.alloc (.cells (scrA s3) 38)) (v5.heap.size) (scrA s3) from pb_)
  clear pb_
  have PBa := hid (RowB.below Fa5.out HX.out Fa5.out.lt)
  have PBbw := hid (RowB.below Fbw5.out HX.out Fbw5.out.lt)
  go_wp2_with fail
  refine (HTI.out _ HBX.out).mono ?_
  rintro e v6 ⟨A2, c2, rfl, ho, hx⟩
  have HB6 := hid (HBX.out.trans (hx.mono HBX.out.size))
  have Ew6 := hid (Nw.out.below (Nat.le_refl _) hx)
  have Ex6 := hid (Nx.out.below (Nat.le_refl _) hx)
  have Fa6 := hid (RowB.below PBa.out hx PBa.out.lt)
  have Fbw6 := hid (RowB.below PBbw.out hx PBbw.out.lt)
  have Fbx6 := hid (RowB.below PBbx.out hx PBbx.out.lt)
  have sz6 : v5.heap.size ≤ v6.heap.size := Nat.le_trans HX.out.size hx.size
  have Ei6 := hid ho
  have Ui := hid (show ∀ i, (Value.slice A2 n c2).ownBlock = some i → v5.heap.size + 1 ≤ i ∧ i < v6.heap.size from fun i hi => by have h := ho.blk i hi; (try simp at h); exact ⟨by omega, h.2⟩)
  clear HX HBX HB5 Ew5 Ex5 Fa5 Fbw5 Nw Nx PBa PBbw PBbx hx ho
  have sa_ := Fa6.out.lt
  have sb_ := Fbw6.out.lt
  have sx_ := Fbx6.out.lt
  have HX := hid (show Below v6.heap.size v6 v6 from (Below.refl v6.heap.size v6))
  have Nw := hid (Ew6.out.below (Nat.le_refl _) HX.out)
  have Nx := hid (Ex6.out.below (Nat.le_refl _) HX.out)
  have Ni := hid (Ei6.out.below (Nat.le_refl _) HX.out)
  have HBX := hid (HB6.out.trans (HX.out.mono HB6.out.size))
  have PBa := hid (RowB.below Fa6.out HX.out Fa6.out.lt)
  have PBbw := hid (RowB.below Fbw6.out HX.out Fbw6.out.lt)
  have PBbx := hid (RowB.below Fbx6.out HX.out Fbx6.out.lt)
  have row_bx : rowOf v6 (v5.heap.size) = (scrA s3) := Fbx6.out.row
  have lt_bx : v5.heap.size < v6.heap.size := Fbx6.out.lt
  go_wp2_with fail
  refine (HIM.out s3 _ _ _ _ Nx.out Dx.out Ni.out.rd).mono ?_
  rintro e v7 ⟨s4, rfl, ho, hd, hx⟩
  clear row_bx lt_bx
  have HB7 := hid (HBX.out.trans (hx.mono HBX.out.size))
  have Ew7 := hid (Nw.out.below (Nat.le_refl _) hx)
  have Ex7 := hid (Nx.out.below (Nat.le_refl _) hx)
  have Ei7 := hid (Ni.out.below (Nat.le_refl _) hx)
  have Fa7 := hid (RowB.below PBa.out hx PBa.out.lt)
  have Fbw7 := hid (RowB.below PBbw.out hx PBbw.out.lt)
  have Fbx7 := hid (RowB.below PBbx.out hx PBbx.out.lt)
  have sz7 : v6.heap.size ≤ v7.heap.size := Nat.le_trans HX.out.size hx.size
  have Eg7 := hid ho
  have Ug := hid (show ∀ i, SS s4 i → v6.heap.size + 0 ≤ i ∧ i < v7.heap.size from fun i hi => by have h := ho.blk i hi; (try simp at h); exact ⟨by omega, h.2⟩)
  clear HX HBX HB6 Ew6 Ex6 Ei6 Fa6 Fbw6 Fbx6 Nw Nx Ni PBa PBbw PBbx hx ho
  have Dg := hid hd
  clear hd
  have he := hid (endS_ge (k := 1) (s := s4) (by omega))
  obtain ⟨m0, hm0⟩ : ∃ m, m = endS 1 s4 := ⟨_, rfl⟩
  have hm1 : 0 ≤ m0 := by rw [hm0]; have := he.out; omega
  have HM0 := hid hm0
  have hmm : (m0 != m0) = false := by simp
  clear hm0 he
  have he := hid (endS_ge (k := 1) (s := s3) (by omega))
  obtain ⟨k0, hk0⟩ : ∃ m, m = endS 1 s3 := ⟨_, rfl⟩
  have hk1 : 0 ≤ k0 := by rw [hk0]; have := he.out; omega
  have hk2 : k0 ≤ 30000000 := by rw [hk0]; exact endS_le (by rw [HQ.out _ Dx.out]; exact HSA.out)
  have HK0 := hid hk0
  have hkd : decide (k0 + (n : Int) < 0) = false := decide_eq_false (by omega)
  clear hk0 he
  have HX := hid (show Below v7.heap.size v7 (v7.alloc (.cells (scrA s4) 38)) from ((Below.refl v7.heap.size v7).alloc (by simp <;> omega) (.cells (scrA s4) 38)))
  have Nw := hid (Ew7.out.below (Nat.le_refl _) HX.out)
  have Nx := hid (Ex7.out.below (Nat.le_refl _) HX.out)
  have Ni := hid (Ei7.out.below (Nat.le_refl _) HX.out)
  have Ng := hid (Eg7.out.below (Nat.le_refl _) HX.out)
  have HBX := hid (HB7.out.trans (HX.out.mono HB7.out.size))
  have pb_ := RowB.new v7 (scrA s4) 38
  (try simp only [World.size_alloc] at pb_)
  have PBbg := hid (show RowB (v7.alloc (.cells (scrA s4) 38)) (v7.heap.size) (scrA s4) from pb_)
  clear pb_
  have PBa := hid (RowB.below Fa7.out HX.out Fa7.out.lt)
  have PBbw := hid (RowB.below Fbw7.out HX.out Fbw7.out.lt)
  have PBbx := hid (RowB.below Fbx7.out HX.out Fbx7.out.lt)
  have row_bw : rowOf v7 (v4.heap.size) = (scrA s2) := Fbw7.out.row
  have lt_bw : v4.heap.size < v7.heap.size := Fbw7.out.lt
  go_wp2_with fail
  refine (eqS Ng.out Nw.out (Dw.out.trans Dg.out.symm) (HSZ.out _ Dg.out)).mono ?_
  rintro e v8 ⟨rfl, hx⟩
  clear row_bw lt_bw
  have HB8 := hid (HBX.out.trans (hx.mono HBX.out.size))
  have Ew8 := hid (Nw.out.below (Nat.le_refl _) hx)
  have Ex8 := hid (Nx.out.below (Nat.le_refl _) hx)
  have Ei8 := hid (Ni.out.below (Nat.le_refl _) hx)
  have Eg8 := hid (Ng.out.below (Nat.le_refl _) hx)
  have Fa8 := hid (RowB.below PBa.out hx PBa.out.lt)
  have Fbw8 := hid (RowB.below PBbw.out hx PBbw.out.lt)
  have Fbx8 := hid (RowB.below PBbx.out hx PBbx.out.lt)
  have Fbg8 := hid (RowB.below PBbg.out hx PBbg.out.lt)
  have sz8 : v7.heap.size ≤ v8.heap.size := Nat.le_trans HX.out.size hx.size
  clear HX HBX HB7 Ew7 Ex7 Ei7 Eg7 Fa7 Fbw7 Fbx7 Nw Nx Ni Ng PBa PBbw PBbx PBbg hx
  have row_a := Fa8.out.row
  have lt_a := Fa8.out.lt
  have row_x := Fbx8.out.row
  have lt_x := Fbx8.out.lt
  have HT := hid (fun W (h : Below w.heap.size w W) => toScr_any s W (HR.out W h) HSA.out)
  go_upto_region 13 with fail
  go_cut [50] (fun c wx => c = .bool false ∧ Below v8.heap.size v8 wx)
  case first =>
    go_region_with (first
      | (go_at_call 6; refine (HT.out _ ?_).mono ?_; exact ⟨HB8.out.os, HB8.out.tape, HB8.out.output, HB8.out.size, HB8.out.block⟩; rintro e y1 ⟨s9, rfl, hoy, hdy, hxy'⟩; have hxy : Below v8.heap.size v8 y1 := undrew hxy'; clear hxy'; have HOY := hid hoy; have HDY := hid hdy; have HPY := hid (Ex8.out.below (Nat.le_refl _) hxy); have row_y : rowOf y1 (v5.heap.size) = scrA s3 := (RowB.below Fbx8.out hxy lt_x).row; have row_z : rowOf y1 (w.heap.size) = scrA s := (RowB.below Fa8.out hxy lt_a).row; have HXY := hid hxy; have zy := hxy.size; clear hoy hdy hxy)
      | (go_at_call 9; refine (eqS HPY.out HOY.out (HDY.out.trans Dx.out.symm) (by rw [HQ.out _ Dx.out]; exact HSA.out)).mono ?_; rintro e y2 ⟨rfl, hxz⟩))
    all_goals
      have HE := hid (HXY.out.trans (hxz.mono zy))
      clear hxz
      go_wp2_with fail
      go_meet
      case rel => exact ⟨rfl, HE.out⟩
  case rest =>
    obtain ⟨rfl, hx⟩ := hcut
    clear row_a row_x lt_a lt_x HT
    have HB9 := hid (HB8.out.trans (hx.mono HB8.out.size))
    have sz9 : v8.heap.size ≤ wc.heap.size := hx.size
    have Ew9 := hid (Ew8.out.below (Nat.le_refl _) hx)
    have Ex9 := hid (Ex8.out.below (Nat.le_refl _) hx)
    have Ei9 := hid (Ei8.out.below (Nat.le_refl _) hx)
    have Eg9 := hid (Eg8.out.below (Nat.le_refl _) hx)
    have Fa9 := hid (RowB.below Fa8.out hx Fa8.out.lt)
    have Fbw9 := hid (RowB.below Fbw8.out hx Fbw8.out.lt)
    have Fbx9 := hid (RowB.below Fbx8.out hx Fbx8.out.lt)
    have Fbg9 := hid (RowB.below Fbg8.out hx Fbg8.out.lt)
    clear hx HB8 Ew8 Ex8 Ei8 Eg8 Fa8 Fbw8 Fbx8 Fbg8
    have HX := hid (show Below wc.heap.size wc wc from (Below.refl wc.heap.size wc))
    have Nw := hid (Ew9.out.below (Nat.le_refl _) HX.out)
    have Nx := hid (Ex9.out.below (Nat.le_refl _) HX.out)
    have Ni := hid (Ei9.out.below (Nat.le_refl _) HX.out)
    have Ng := hid (Eg9.out.below (Nat.le_refl _) HX.out)
    have HBX := hid (HB9.out.trans (HX.out.mono HB9.out.size))
    have PBa := hid (RowB.below Fa9.out HX.out Fa9.out.lt)
    have PBbw := hid (RowB.below Fbw9.out HX.out Fbw9.out.lt)
    have PBbx := hid (RowB.below Fbx9.out HX.out Fbx9.out.lt)
    have PBbg := hid (RowB.below Fbg9.out HX.out Fbg9.out.lt)
    go_wp2_with fail
    refine (HTI.out _ HBX.out).mono ?_
    rintro e v10 ⟨A3, c3, rfl, ho, hx⟩
    have HB10 := hid (HBX.out.trans (hx.mono HBX.out.size))
    have Ew10 := hid (Nw.out.below (Nat.le_refl _) hx)
    have Ex10 := hid (Nx.out.below (Nat.le_refl _) hx)
    have Ei10 := hid (Ni.out.below (Nat.le_refl _) hx)
    have Eg10 := hid (Ng.out.below (Nat.le_refl _) hx)
    have Fa10 := hid (RowB.below PBa.out hx PBa.out.lt)
    have Fbw10 := hid (RowB.below PBbw.out hx PBbw.out.lt)
    have Fbx10 := hid (RowB.below PBbx.out hx PBbx.out.lt)
    have Fbg10 := hid (RowB.below PBbg.out hx PBbg.out.lt)
    have sz10 : wc.heap.size ≤ v10.heap.size := Nat.le_trans HX.out.size hx.size
    have Ej10 := hid ho
    have Uj := hid (show ∀ i, (Value.slice A3 n c3).ownBlock = some i → wc.heap.size + 0 ≤ i ∧ i < v10.heap.size from fun i hi => by have h := ho.blk i hi; (try simp at h); exact ⟨by omega, h.2⟩)
    clear HX HBX HB9 Ew9 Ex9 Ei9 Eg9 Fa9 Fbw9 Fbx9 Fbg9 Nw Nx Ni Ng PBa PBbw PBbx PBbg hx ho
    have HX := hid (show Below v10.heap.size v10 v10 from (Below.refl v10.heap.size v10))
    have Nw := hid (Ew10.out.below (Nat.le_refl _) HX.out)
    have Nx := hid (Ex10.out.below (Nat.le_refl _) HX.out)
    have Ni := hid (Ei10.out.below (Nat.le_refl _) HX.out)
    have Ng := hid (Eg10.out.below (Nat.le_refl _) HX.out)
    have Nj := hid (Ej10.out.below (Nat.le_refl _) HX.out)
    have HBX := hid (HB10.out.trans (HX.out.mono HB10.out.size))
    have PBa := hid (RowB.below Fa10.out HX.out Fa10.out.lt)
    have PBbw := hid (RowB.below Fbw10.out HX.out Fbw10.out.lt)
    have PBbx := hid (RowB.below Fbx10.out HX.out Fbx10.out.lt)
    have PBbg := hid (RowB.below Fbg10.out HX.out Fbg10.out.lt)
    go_wp2_with fail
    refine (eqIntS_yes A2 A3 n c2 c3 zs _ Ni.out.rd Nj.out.rd HLI.out (by omega)).mono ?_
    rintro e v11 ⟨rfl, hx⟩
    have HB11 := hid (HBX.out.trans (hx.mono HBX.out.size))
    have Ew11 := hid (Nw.out.below (Nat.le_refl _) hx)
    have Ex11 := hid (Nx.out.below (Nat.le_refl _) hx)
    have Ei11 := hid (Ni.out.below (Nat.le_refl _) hx)
    have Eg11 := hid (Ng.out.below (Nat.le_refl _) hx)
    have Ej11 := hid (Nj.out.below (Nat.le_refl _) hx)
    have Fa11 := hid (RowB.below PBa.out hx PBa.out.lt)
    have Fbw11 := hid (RowB.below PBbw.out hx PBbw.out.lt)
    have Fbx11 := hid (RowB.below PBbx.out hx PBbx.out.lt)
    have Fbg11 := hid (RowB.below PBbg.out hx PBbg.out.lt)
    have sz11 : v10.heap.size ≤ v11.heap.size := Nat.le_trans HX.out.size hx.size
    clear HX HBX HB10 Ew10 Ex10 Ei10 Eg10 Ej10 Fa10 Fbw10 Fbx10 Fbg10 Nw Nx Ni Ng Nj PBa PBbw PBbx PBbg hx
    clear Ej11
    clear Uj
    have HX := hid (show Below v11.heap.size v11 v11 from (Below.refl v11.heap.size v11))
    have Nw := hid (Ew11.out.below (Nat.le_refl _) HX.out)
    have Nx := hid (Ex11.out.below (Nat.le_refl _) HX.out)
    have Ni := hid (Ei11.out.below (Nat.le_refl _) HX.out)
    have Ng := hid (Eg11.out.below (Nat.le_refl _) HX.out)
    have HBX := hid (HB11.out.trans (HX.out.mono HB11.out.size))
    have PBa := hid (RowB.below Fa11.out HX.out Fa11.out.lt)
    have PBbw := hid (RowB.below Fbw11.out HX.out Fbw11.out.lt)
    have PBbx := hid (RowB.below Fbx11.out HX.out Fbx11.out.lt)
    have PBbg := hid (RowB.below Fbg11.out HX.out Fbg11.out.lt)
    have row_bx : rowOf v11 (v5.heap.size) = (scrA s3) := Fbx11.out.row
    have lt_bx : v5.heap.size < v11.heap.size := Fbx11.out.lt
    go_wp2_with fail
    refine ((markScr_any s3 _ 1 _ Nx.out (by rw [HQ.out _ Dx.out]; exact HSA.out) (by omega) (by omega))).mono ?_
    rintro e v12 ⟨rfl, ho, on⟩
    clear row_bx lt_bx
    have HB12 := hid (Only.below_ on HBX.out HBX.out.size (fun i hi => by have h := Ux.out i hi; omega))
    have Ew12 := hid (Nw.out.only on (fun i hi hs => by have h := Ux.out i hs; have h2 := Uw.out i hi; omega))
    have Ei12 := hid (Ni.out.only on (fun i hi hs => by have h := Ux.out i hs; have h2 := Ui.out i hi; omega))
    have Eg12 := hid (Ng.out.only on (fun i hi hs => by have h := Ux.out i hs; have h2 := Ug.out i hi; omega))
    have Fa12 := hid (RowB.only PBa.out on (fun hs => by have h := Ux.out _ hs; omega))
    have Fbw12 := hid (RowB.only PBbw.out on (fun hs => by have h := Ux.out _ hs; omega))
    have Fbx12 := hid (RowB.only PBbx.out on (fun hs => by have h := Ux.out _ hs; omega))
    have Fbg12 := hid (RowB.only PBbg.out on (fun hs => by have h := Ux.out _ hs; omega))
    have Ex12 := hid ho
    clear HX HBX HB11 Ew11 Ex11 Ei11 Eg11 Fa11 Fbw11 Fbx11 Fbg11 Nw Nx Ni Ng PBa PBbw PBbx PBbg on ho
    rw [← HK0.out]
    clear Ex12
    clear Ux HK0 Dx
    have HX := hid (show Below v12.heap.size v12 v12 from (Below.refl v12.heap.size v12))
    have Nw := hid (Ew12.out.below (Nat.le_refl _) HX.out)
    have Ni := hid (Ei12.out.below (Nat.le_refl _) HX.out)
    have Ng := hid (Eg12.out.below (Nat.le_refl _) HX.out)
    have HBX := hid (HB12.out.trans (HX.out.mono HB12.out.size))
    have PBa := hid (RowB.below Fa12.out HX.out Fa12.out.lt)
    have PBbw := hid (RowB.below Fbw12.out HX.out Fbw12.out.lt)
    have PBbx := hid (RowB.below Fbx12.out HX.out Fbx12.out.lt)
    have PBbg := hid (RowB.below Fbg12.out HX.out Fbg12.out.lt)
    go_wp2_with fail
    refine (((markIntS_own A2 n c2 _ zs k0 _ Ni.out (by omega) hk1 (by omega)).mono fun e w' h => show e = .returned (.int .i64 (k0 + n)) ∧ OwnI w' _ A2 n c2 (marksN n k0) ∧ Only (fun i => (Value.slice A2 n c2).ownBlock = some i) _ w' from ⟨h.1, h.2.1, only_gr h.2.2⟩)).mono ?_
    rintro e v13 ⟨rfl, ho, on⟩
    have HB13 := hid (Only.below_ on HBX.out HBX.out.size (fun i hi => by have h := Ui.out i hi; omega))
    have Ew13 := hid (Nw.out.only on (fun i hi hs => by have h := Ui.out i hs; have h2 := Uw.out i hi; omega))
    have Eg13 := hid (Ng.out.only on (fun i hi hs => by have h := Ui.out i hs; have h2 := Ug.out i hi; omega))
    have Fa13 := hid (RowB.only PBa.out on (fun hs => by have h := Ui.out _ hs; omega))
    have Fbw13 := hid (RowB.only PBbw.out on (fun hs => by have h := Ui.out _ hs; omega))
    have Fbx13 := hid (RowB.only PBbx.out on (fun hs => by have h := Ui.out _ hs; omega))
    have Fbg13 := hid (RowB.only PBbg.out on (fun hs => by have h := Ui.out _ hs; omega))
    have Ei13 := hid ho
    clear HX HBX HB12 Ew12 Ei12 Eg12 Fa12 Fbw12 Fbx12 Fbg12 Nw Ni Ng PBa PBbw PBbx PBbg on ho
    clear Ei13
    clear Ui
    have HX := hid (show Below v13.heap.size v13 v13 from (Below.refl v13.heap.size v13))
    have Nw := hid (Ew13.out.below (Nat.le_refl _) HX.out)
    have Ng := hid (Eg13.out.below (Nat.le_refl _) HX.out)
    have HBX := hid (HB13.out.trans (HX.out.mono HB13.out.size))
    have PBa := hid (RowB.below Fa13.out HX.out Fa13.out.lt)
    have PBbw := hid (RowB.below Fbw13.out HX.out Fbw13.out.lt)
    have PBbx := hid (RowB.below Fbx13.out HX.out Fbx13.out.lt)
    have PBbg := hid (RowB.below Fbg13.out HX.out Fbg13.out.lt)
    have row_bw : rowOf v13 (v4.heap.size) = (scrA s2) := Fbw13.out.row
    have lt_bw : v4.heap.size < v13.heap.size := Fbw13.out.lt
    have row_bg : rowOf v13 (v7.heap.size) = (scrA s4) := Fbg13.out.row
    have lt_bg : v7.heap.size < v13.heap.size := Fbg13.out.lt
    go_wp2_with fail
    refine (eqS Ng.out Nw.out (Dw.out.trans Dg.out.symm) (HSZ.out _ Dg.out)).mono ?_
    rintro e v14 ⟨rfl, hx⟩
    clear row_bw lt_bw
    clear row_bg lt_bg
    have HB14 := hid (HBX.out.trans (hx.mono HBX.out.size))
    have Ew14 := hid (Nw.out.below (Nat.le_refl _) hx)
    have Eg14 := hid (Ng.out.below (Nat.le_refl _) hx)
    have Fa14 := hid (RowB.below PBa.out hx PBa.out.lt)
    have Fbw14 := hid (RowB.below PBbw.out hx PBbw.out.lt)
    have Fbx14 := hid (RowB.below PBbx.out hx PBbx.out.lt)
    have Fbg14 := hid (RowB.below PBbg.out hx PBbg.out.lt)
    have sz14 : v13.heap.size ≤ v14.heap.size := Nat.le_trans HX.out.size hx.size
    clear HX HBX HB13 Ew13 Eg13 Fa13 Fbw13 Fbx13 Fbg13 Nw Ng PBa PBbw PBbx PBbg hx
    have HX := hid (show Below v14.heap.size v14 v14 from (Below.refl v14.heap.size v14))
    have Nw := hid (Ew14.out.below (Nat.le_refl _) HX.out)
    have Ng := hid (Eg14.out.below (Nat.le_refl _) HX.out)
    have HBX := hid (HB14.out.trans (HX.out.mono HB14.out.size))
    have PBa := hid (RowB.below Fa14.out HX.out Fa14.out.lt)
    have PBbw := hid (RowB.below Fbw14.out HX.out Fbw14.out.lt)
    have PBbx := hid (RowB.below Fbx14.out HX.out Fbx14.out.lt)
    have PBbg := hid (RowB.below Fbg14.out HX.out Fbg14.out.lt)
    have row_bg : rowOf v14 (v7.heap.size) = (scrA s4) := Fbg14.out.row
    have lt_bg : v7.heap.size < v14.heap.size := Fbg14.out.lt
    go_wp2_with fail
    refine ((markScr_any s4 _ 1 _ Ng.out (HSZ.out _ Dg.out) (by omega) (by omega))).mono ?_
    rintro e v15 ⟨rfl, ho, on⟩
    clear row_bg lt_bg
    have HB15 := hid (Only.below_ on HBX.out HBX.out.size (fun i hi => by have h := Ug.out i hi; omega))
    have Ew15 := hid (Nw.out.only on (fun i hi hs => by have h := Ug.out i hs; have h2 := Uw.out i hi; omega))
    have Fa15 := hid (RowB.only PBa.out on (fun hs => by have h := Ug.out _ hs; omega))
    have Fbw15 := hid (RowB.only PBbw.out on (fun hs => by have h := Ug.out _ hs; omega))
    have Fbx15 := hid (RowB.only PBbx.out on (fun hs => by have h := Ug.out _ hs; omega))
    have Fbg15 := hid (RowB.only PBbg.out on (fun hs => by have h := Ug.out _ hs; omega))
    have Eg15 := hid ho
    clear HX HBX HB14 Ew14 Eg14 Fa14 Fbw14 Fbx14 Fbg14 Nw Ng PBa PBbw PBbx PBbg on ho
    rw [← HM0.out]
    have HX := hid (show Below v15.heap.size v15 v15 from (Below.refl v15.heap.size v15))
    have Nw := hid (Ew15.out.below (Nat.le_refl _) HX.out)
    have Ng := hid (Eg15.out.below (Nat.le_refl _) HX.out)
    have HBX := hid (HB15.out.trans (HX.out.mono HB15.out.size))
    have PBa := hid (RowB.below Fa15.out HX.out Fa15.out.lt)
    have PBbw := hid (RowB.below Fbw15.out HX.out Fbw15.out.lt)
    have PBbx := hid (RowB.below Fbx15.out HX.out Fbx15.out.lt)
    have PBbg := hid (RowB.below Fbg15.out HX.out Fbg15.out.lt)
    have row_bg : rowOf v15 (v7.heap.size) = (scrA s4) := Fbg15.out.row
    have lt_bg : v7.heap.size < v15.heap.size := Fbg15.out.lt
    go_wp2_with fail
    refine ((heldScr_any s4 1 _ Ng.out.rd (HSZ.out _ Dg.out) (by omega) (by omega))).mono ?_
    rintro e v16 ⟨rfl, hx⟩
    clear row_bg lt_bg
    have HB16 := hid (HBX.out.trans (hx.mono HBX.out.size))
    have Ew16 := hid (Nw.out.below (Nat.le_refl _) hx)
    have Eg16 := hid (Ng.out.below (Nat.le_refl _) hx)
    have Fa16 := hid (RowB.below PBa.out hx PBa.out.lt)
    have Fbw16 := hid (RowB.below PBbw.out hx PBbw.out.lt)
    have Fbx16 := hid (RowB.below PBbx.out hx PBbx.out.lt)
    have Fbg16 := hid (RowB.below PBbg.out hx PBbg.out.lt)
    have sz16 : v15.heap.size ≤ v16.heap.size := Nat.le_trans HX.out.size hx.size
    clear HX HBX HB15 Ew15 Eg15 Fa15 Fbw15 Fbx15 Fbg15 Nw Ng PBa PBbw PBbx PBbg hx
    rw [← HM0.out]
    have HX := hid (show Below v16.heap.size v16 v16 from (Below.refl v16.heap.size v16))
    have Nw := hid (Ew16.out.below (Nat.le_refl _) HX.out)
    have Ng := hid (Eg16.out.below (Nat.le_refl _) HX.out)
    have HBX := hid (HB16.out.trans (HX.out.mono HB16.out.size))
    have PBa := hid (RowB.below Fa16.out HX.out Fa16.out.lt)
    have PBbw := hid (RowB.below Fbw16.out HX.out Fbw16.out.lt)
    have PBbx := hid (RowB.below Fbx16.out HX.out Fbx16.out.lt)
    have PBbg := hid (RowB.below Fbg16.out HX.out Fbg16.out.lt)
    have row_a : rowOf v16 (w.heap.size) = (scrA s) := Fa16.out.row
    have lt_a : w.heap.size < v16.heap.size := Fa16.out.lt
    go_wp2_with fail
    refine (toScr_any s _ (HR.out _ HBX.out) HSA.out).mono ?_
    rintro e v17 ⟨s5, rfl, ho, hd, hx⟩
    clear row_a lt_a
    have HB17 := hid (HBX.out.trans (hx.mono HBX.out.size))
    have Ew17 := hid (Nw.out.below (Nat.le_refl _) hx)
    have Eg17 := hid (Ng.out.below (Nat.le_refl _) hx)
    have Fa17 := hid (RowB.below PBa.out hx PBa.out.lt)
    have Fbw17 := hid (RowB.below PBbw.out hx PBbw.out.lt)
    have Fbx17 := hid (RowB.below PBbx.out hx PBbx.out.lt)
    have Fbg17 := hid (RowB.below PBbg.out hx PBbg.out.lt)
    have sz17 : v16.heap.size ≤ v17.heap.size := Nat.le_trans HX.out.size hx.size
    have Ey17 := hid ho
    have Uy := hid (show ∀ i, SS s5 i → v16.heap.size + 0 ≤ i ∧ i < v17.heap.size from fun i hi => by have h := ho.blk i hi; (try simp at h); exact ⟨by omega, h.2⟩)
    clear HX HBX HB16 Ew16 Eg16 Fa16 Fbw16 Fbx16 Fbg16 Nw Ng PBa PBbw PBbx PBbg hx ho
    have Dy := hid hd
    clear hd
    have HX := hid (show Below v17.heap.size v17 v17 from (Below.refl v17.heap.size v17))
    have Nw := hid (Ew17.out.below (Nat.le_refl _) HX.out)
    have Ng := hid (Eg17.out.below (Nat.le_refl _) HX.out)
    have Ny := hid (Ey17.out.below (Nat.le_refl _) HX.out)
    have HBX := hid (HB17.out.trans (HX.out.mono HB17.out.size))
    have PBa := hid (RowB.below Fa17.out HX.out Fa17.out.lt)
    have PBbw := hid (RowB.below Fbw17.out HX.out Fbw17.out.lt)
    have PBbx := hid (RowB.below Fbx17.out HX.out Fbx17.out.lt)
    have PBbg := hid (RowB.below Fbg17.out HX.out Fbg17.out.lt)
    go_wp2_with fail
    refine (HTI.out _ HBX.out).mono ?_
    rintro e v18 ⟨A4, c4, rfl, ho, hx⟩
    have HB18 := hid (HBX.out.trans (hx.mono HBX.out.size))
    have Ew18 := hid (Nw.out.below (Nat.le_refl _) hx)
    have Eg18 := hid (Ng.out.below (Nat.le_refl _) hx)
    have Ey18 := hid (Ny.out.below (Nat.le_refl _) hx)
    have Fa18 := hid (RowB.below PBa.out hx PBa.out.lt)
    have Fbw18 := hid (RowB.below PBbw.out hx PBbw.out.lt)
    have Fbx18 := hid (RowB.below PBbx.out hx PBbx.out.lt)
    have Fbg18 := hid (RowB.below PBbg.out hx PBbg.out.lt)
    have sz18 : v17.heap.size ≤ v18.heap.size := Nat.le_trans HX.out.size hx.size
    have Eq18 := hid ho
    have Uq := hid (show ∀ i, (Value.slice A4 n c4).ownBlock = some i → v17.heap.size + 0 ≤ i ∧ i < v18.heap.size from fun i hi => by have h := ho.blk i hi; (try simp at h); exact ⟨by omega, h.2⟩)
    clear HX HBX HB17 Ew17 Eg17 Ey17 Fa17 Fbw17 Fbx17 Fbg17 Nw Ng Ny PBa PBbw PBbx PBbg hx ho
    have HX := hid (show Below v18.heap.size v18 v18 from (Below.refl v18.heap.size v18))
    have Nw := hid (Ew18.out.below (Nat.le_refl _) HX.out)
    have Ng := hid (Eg18.out.below (Nat.le_refl _) HX.out)
    have Ny := hid (Ey18.out.below (Nat.le_refl _) HX.out)
    have Nq := hid (Eq18.out.below (Nat.le_refl _) HX.out)
    have HBX := hid (HB18.out.trans (HX.out.mono HB18.out.size))
    have PBa := hid (RowB.below Fa18.out HX.out Fa18.out.lt)
    have PBbw := hid (RowB.below Fbw18.out HX.out Fbw18.out.lt)
    have PBbx := hid (RowB.below Fbx18.out HX.out Fbx18.out.lt)
    have PBbg := hid (RowB.below Fbg18.out HX.out Fbg18.out.lt)
    go_wp2_with fail
    refine (HIM.out s5 _ _ _ _ Ny.out Dy.out Nq.out.rd).mono ?_
    rintro e v19 ⟨s6, rfl, ho, hd, hx⟩
    have HB19 := hid (HBX.out.trans (hx.mono HBX.out.size))
    have Ew19 := hid (Nw.out.below (Nat.le_refl _) hx)
    have Eg19 := hid (Ng.out.below (Nat.le_refl _) hx)
    have Ey19 := hid (Ny.out.below (Nat.le_refl _) hx)
    have Eq19 := hid (Nq.out.below (Nat.le_refl _) hx)
    have Fa19 := hid (RowB.below PBa.out hx PBa.out.lt)
    have Fbw19 := hid (RowB.below PBbw.out hx PBbw.out.lt)
    have Fbx19 := hid (RowB.below PBbx.out hx PBbx.out.lt)
    have Fbg19 := hid (RowB.below PBbg.out hx PBbg.out.lt)
    have sz19 : v18.heap.size ≤ v19.heap.size := Nat.le_trans HX.out.size hx.size
    have Eh19 := hid ho
    have Uh := hid (show ∀ i, SS s6 i → v18.heap.size + 0 ≤ i ∧ i < v19.heap.size from fun i hi => by have h := ho.blk i hi; (try simp at h); exact ⟨by omega, h.2⟩)
    clear HX HBX HB18 Ew18 Eg18 Ey18 Eq18 Fa18 Fbw18 Fbx18 Fbg18 Nw Ng Ny Nq PBa PBbw PBbx PBbg hx ho
    have Dh := hid hd
    clear hd Uy Uq Dy
    clear Ey19
    clear Eq19
    have HX := hid (show Below v19.heap.size v19 (v19.alloc (.cells (scrA s6) 38)) from ((Below.refl v19.heap.size v19).alloc (by simp <;> omega) (.cells (scrA s6) 38)))
    have Nw := hid (Ew19.out.below (Nat.le_refl _) HX.out)
    have Ng := hid (Eg19.out.below (Nat.le_refl _) HX.out)
    have Nh := hid (Eh19.out.below (Nat.le_refl _) HX.out)
    have HBX := hid (HB19.out.trans (HX.out.mono HB19.out.size))
    have pb_ := RowB.new v19 (scrA s6) 38
    (try simp only [World.size_alloc] at pb_)
    have PBbh := hid (show RowB (v19.alloc (.cells (scrA s6) 38)) (v19.heap.size) (scrA s6) from pb_)
    clear pb_
    have PBa := hid (RowB.below Fa19.out HX.out Fa19.out.lt)
    have PBbw := hid (RowB.below Fbw19.out HX.out Fbw19.out.lt)
    have PBbx := hid (RowB.below Fbx19.out HX.out Fbx19.out.lt)
    have PBbg := hid (RowB.below Fbg19.out HX.out Fbg19.out.lt)
    have row_bw : rowOf v19 (v4.heap.size) = (scrA s2) := Fbw19.out.row
    have lt_bw : v4.heap.size < v19.heap.size := Fbw19.out.lt
    go_wp2_with fail
    refine (eqS Nh.out Nw.out (Dw.out.trans Dh.out.symm) (HSZ.out _ Dh.out)).mono ?_
    rintro e v20 ⟨rfl, hx⟩
    clear row_bw lt_bw
    have HB20 := hid (HBX.out.trans (hx.mono HBX.out.size))
    have Ew20 := hid (Nw.out.below (Nat.le_refl _) hx)
    have Eg20 := hid (Ng.out.below (Nat.le_refl _) hx)
    have Eh20 := hid (Nh.out.below (Nat.le_refl _) hx)
    have Fa20 := hid (RowB.below PBa.out hx PBa.out.lt)
    have Fbw20 := hid (RowB.below PBbw.out hx PBbw.out.lt)
    have Fbx20 := hid (RowB.below PBbx.out hx PBbx.out.lt)
    have Fbg20 := hid (RowB.below PBbg.out hx PBbg.out.lt)
    have Fbh20 := hid (RowB.below PBbh.out hx PBbh.out.lt)
    have sz20 : v19.heap.size ≤ v20.heap.size := Nat.le_trans HX.out.size hx.size
    clear HX HBX HB19 Ew19 Eg19 Eh19 Fa19 Fbw19 Fbx19 Fbg19 Nw Ng Nh PBa PBbw PBbx PBbg PBbh hx
    have HX := hid (show Below v20.heap.size v20 v20 from (Below.refl v20.heap.size v20))
    have Nw := hid (Ew20.out.below (Nat.le_refl _) HX.out)
    have Ng := hid (Eg20.out.below (Nat.le_refl _) HX.out)
    have Nh := hid (Eh20.out.below (Nat.le_refl _) HX.out)
    have HBX := hid (HB20.out.trans (HX.out.mono HB20.out.size))
    have PBa := hid (RowB.below Fa20.out HX.out Fa20.out.lt)
    have PBbw := hid (RowB.below Fbw20.out HX.out Fbw20.out.lt)
    have PBbx := hid (RowB.below Fbx20.out HX.out Fbx20.out.lt)
    have PBbg := hid (RowB.below Fbg20.out HX.out Fbg20.out.lt)
    have PBbh := hid (RowB.below Fbh20.out HX.out Fbh20.out.lt)
    have row_bg : rowOf v20 (v7.heap.size) = (scrA s4) := Fbg20.out.row
    have lt_bg : v7.heap.size < v20.heap.size := Fbg20.out.lt
    go_wp2_with fail
    refine ((heldScr_any s4 1 _ Ng.out.rd (HSZ.out _ Dg.out) (by omega) (by omega))).mono ?_
    rintro e v21 ⟨rfl, hx⟩
    clear row_bg lt_bg
    have HB21 := hid (HBX.out.trans (hx.mono HBX.out.size))
    have Ew21 := hid (Nw.out.below (Nat.le_refl _) hx)
    have Eg21 := hid (Ng.out.below (Nat.le_refl _) hx)
    have Eh21 := hid (Nh.out.below (Nat.le_refl _) hx)
    have Fa21 := hid (RowB.below PBa.out hx PBa.out.lt)
    have Fbw21 := hid (RowB.below PBbw.out hx PBbw.out.lt)
    have Fbx21 := hid (RowB.below PBbx.out hx PBbx.out.lt)
    have Fbg21 := hid (RowB.below PBbg.out hx PBbg.out.lt)
    have Fbh21 := hid (RowB.below PBbh.out hx PBbh.out.lt)
    have sz21 : v20.heap.size ≤ v21.heap.size := Nat.le_trans HX.out.size hx.size
    clear HX HBX HB20 Ew20 Eg20 Eh20 Fa20 Fbw20 Fbx20 Fbg20 Fbh20 Nw Ng Nh PBa PBbw PBbx PBbg PBbh hx
    rw [← HM0.out]
    go_wp2_with fail
    go_ret
    exact ⟨rfl, HB21.out⟩
end Go.Proofs.YtgnpgkkjcloghaaGreat.fnExactScrCsi
