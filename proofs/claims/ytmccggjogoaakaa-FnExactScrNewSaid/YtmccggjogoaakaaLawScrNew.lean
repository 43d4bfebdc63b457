/- FnExactScrNew: the walk of the law from the contracts of the program, of its model and of the laws' helpers; at every input, no condition. -/
import Derived.Test.YtmccggjogoaakaaScMkL
import Derived.Test.YtmccggjogoaakaaScNew
namespace Go.Proofs.Ytmccggjogoaakaa.fnExactScrNew
open Go.RowKit Go.Proofs.Ytmccggjogoaakaa.Bytes Go.Proofs.Ytmccggjogoaakaa.Rows_ Go.Proofs.Ytmccggjogoaakaa.RowK Go.Proofs.Ytmccggjogoaakaa.Gr Go.Proofs.Ytmccggjogoaakaa.DOk Go.Proofs.Ytmccggjogoaakaa.Opq Go.Proofs.Ytmccggjogoaakaa.Sc
set_option linter.unusedVariables false
attribute [local go_sem ↓] Sc.exec_storeS Sc.exec_loadS
attribute [local go_sem] blkOf_ptr isHead_ptr aggN_agg setRow_alloc rowZ_at rowZ_past scrA_size one_scr rowOf_alloc_at rowOf_alloc_past
theorem own : ownKnob Try.prog.godebug = none := by kernel_rfl
theorem new_sz (gw gh lim : Int) : szD (newD gw gh lim) ≤ 1048576 := by
  unfold newD
  cases h : newB gw gh lim
  · show szD zeroS.data ≤ _; simp [szD, ScrS.data, zeroS]
  · have hs : sizeB gw gh = true := by unfold newB at h; simp at h; exact h.1
    obtain ⟨W, H, rfl, rfl, w1, w2, w3, w4, w5, hN⟩ := sidesS hs
    show szD (newS W H lim none none none 0 0 0).data ≤ _
    simp only [szD, ScrS.data, newS, List.length_replicate, tabsK_len, List.map_nil, List.length_nil, List.sum_nil]
    omega
set_option maxRecDepth 100000 in
set_option maxHeartbeats 16000000 in
theorem walk (gw gh lim : Int) (w : World) (w0 : (Lit.int .i64 gw).wf = true) (w1 : (Lit.int .i64 gh).wf = true) (w2 : (Lit.int .i64 lim).wf = true) :
    Calls Try.prog 5 #[.int .i64 gw, .int .i64 gh, .int .i64 lim] w fun e w' => e = .returned (.bool true) ∧ Below w.heap.size w w' := by
  clear w0 w1 w2
  obtain ⟨d, hd⟩ : ∃ d, d = newD gw gh lim := ⟨_, rfl⟩
  obtain ⟨ok, hok⟩ : ∃ b, b = newB gw gh lim := ⟨_, rfl⟩
  have HAN := Lib.hid (show ∀ W e w', AnsNew gw gh lim W e w' → ∃ s, e = .returned (.tuple #[.agg (scrA s), .bool ok]) ∧ OwnS w' W.heap.size s ∧ s.data = d ∧ Below W.heap.size W w' from fun W e w' h => by unfold AnsNew at h; rw [← hd, ← hok] at h; exact h)
  have HSP := Lib.hid (fun W => (spec_ScrNew_any gw gh lim W).mono (fun e w' h => HAN.out W e w' h))
  have HIM := Lib.hid (fun W => (impl_ScrNew_any gw gh lim W).mono (fun e w' h => HAN.out W e w' h))
  have HSZ := Lib.hid (show ∀ s : ScrS, s.data = d → szS s ≤ 1048576 from fun s hs => by rw [szS_of hs, hd]; exact new_sz gw gh lim)
  clear hd hok HAN
  have hne : (ok != ok) = false := by simp
  have HB0 := Lib.hid (Below.refl w.heap.size w)
  go_enter Try.func5, Try.ntmps5
  have HX := Lib.hid (show Below w.heap.size w w from (Below.refl w.heap.size w))
  have HBX := Lib.hid (HB0.out.trans (HX.out.mono HB0.out.size))
  go_wp2_with fail
  refine (HSP.out _).mono ?_
  rintro e v1 ⟨s1, rfl, ho, hd, hx⟩
  have HB1 := Lib.hid (HBX.out.trans (hx.mono HBX.out.size))
  have sz1 : w.heap.size ≤ v1.heap.size := Nat.le_trans HX.out.size hx.size
  have Ew1 := Lib.hid ho
  have Uw := Lib.hid (show ∀ i, SS s1 i → w.heap.size + 0 ≤ i ∧ i < v1.heap.size from fun i hi => by have h := ho.blk i hi; (try simp at h); exact ⟨by omega, h.2⟩)
  clear HX HBX HB0  hx ho
  have D1 := Lib.hid hd
  clear hd
  have HX := Lib.hid (show Below v1.heap.size v1 (v1.alloc (.cells (scrA s1) 45)) from ((Below.refl v1.heap.size v1).alloc (by simp <;> omega) (.cells (scrA s1) 45)))
  have Nw := Lib.hid (Ew1.out.below (Nat.le_refl _) HX.out)
  have HBX := Lib.hid (HB1.out.trans (HX.out.mono HB1.out.size))
  have pb_ := RowB.new v1 (scrA s1) 45
  (try simp only [World.size_alloc] at pb_)
  have PBbw := Lib.hid (show RowB (v1.alloc (.cells (scrA s1) 45)) (v1.heap.size) (scrA s1) from pb_)
  clear pb_
  go_wp2_with fail
  refine (HIM.out _).mono ?_
  rintro e v2 ⟨s2, rfl, ho, hd, hx⟩
  have HB2 := Lib.hid (HBX.out.trans (hx.mono HBX.out.size))
  have Ew2 := Lib.hid (Nw.out.below (Nat.le_refl _) hx)
  have Fbw2 := Lib.hid (RowB.below PBbw.out hx PBbw.out.lt)
  have sz2 : v1.heap.size ≤ v2.heap.size := Nat.le_trans HX.out.size hx.size
  have Eg2 := Lib.hid ho
  have Ug := Lib.hid (show ∀ i, SS s2 i → v1.heap.size + 1 ≤ i ∧ i < v2.heap.size from fun i hi => by have h := ho.blk i hi; (try simp at h); exact ⟨by omega, h.2⟩)
  clear HX HBX HB1 Ew1 Nw PBbw hx ho
  have D2 := Lib.hid hd
  clear hd
  have he := Lib.hid (endS_ge (k := 1) (s := s2) (by omega))
  obtain ⟨m0, hm0⟩ : ∃ m, m = endS 1 s2 := ⟨_, rfl⟩
  have hm1 : 0 ≤ m0 := by rw [hm0]; exact he.out
  have HM0 := Lib.hid hm0
  have hmm : (m0 != m0) = false := by simp
  clear hm0 he
  have HX := Lib.hid (show Below v2.heap.size v2 (v2.alloc (.cells (scrA s2) 45)) from ((Below.refl v2.heap.size v2).alloc (by simp <;> omega) (.cells (scrA s2) 45)))
  have Nw := Lib.hid (Ew2.out.below (Nat.le_refl _) HX.out)
  have Ng := Lib.hid (Eg2.out.below (Nat.le_refl _) HX.out)
  have HBX := Lib.hid (HB2.out.trans (HX.out.mono HB2.out.size))
  have pb_ := RowB.new v2 (scrA s2) 45
  (try simp only [World.size_alloc] at pb_)
  have PBbg := Lib.hid (show RowB (v2.alloc (.cells (scrA s2) 45)) (v2.heap.size) (scrA s2) from pb_)
  clear pb_
  have PBbw := Lib.hid (RowB.below Fbw2.out HX.out Fbw2.out.lt)
  have row_bw : rowOf v2 (v1.heap.size) = (scrA s1) := Fbw2.out.row
  have lt_bw : v1.heap.size < v2.heap.size := Fbw2.out.lt
  go_wp2_with fail
  refine (eqS Ng.out Nw.out (D1.out.trans D2.out.symm) (HSZ.out _ D2.out)).mono ?_
  rintro e v3 ⟨rfl, hx⟩
  clear row_bw lt_bw
  have HB3 := Lib.hid (HBX.out.trans (hx.mono HBX.out.size))
  have Ew3 := Lib.hid (Nw.out.below (Nat.le_refl _) hx)
  have Eg3 := Lib.hid (Ng.out.below (Nat.le_refl _) hx)
  have Fbw3 := Lib.hid (RowB.below PBbw.out hx PBbw.out.lt)
  have Fbg3 := Lib.hid (RowB.below PBbg.out hx PBbg.out.lt)
  have sz3 : v2.heap.size ≤ v3.heap.size := Nat.le_trans HX.out.size hx.size
  clear HX HBX HB2 Ew2 Eg2 Fbw2 Nw Ng PBbw PBbg hx
  have HX := Lib.hid (show Below v3.heap.size v3 v3 from (Below.refl v3.heap.size v3))
  have Nw := Lib.hid (Ew3.out.below (Nat.le_refl _) HX.out)
  have Ng := Lib.hid (Eg3.out.below (Nat.le_refl _) HX.out)
  have HBX := Lib.hid (HB3.out.trans (HX.out.mono HB3.out.size))
  have PBbw := Lib.hid (RowB.below Fbw3.out HX.out Fbw3.out.lt)
  have PBbg := Lib.hid (RowB.below Fbg3.out HX.out Fbg3.out.lt)
  have row_bg : rowOf v3 (v2.heap.size) = (scrA s2) := Fbg3.out.row
  have lt_bg : v2.heap.size < v3.heap.size := Fbg3.out.lt
  go_wp2_with fail
  refine ((markScr_any s2 _ 1 _ Ng.out (HSZ.out _ D2.out) (by omega) (by omega))).mono ?_
  rintro e v4 ⟨rfl, ho, on⟩
  clear row_bg lt_bg
  have HB4 := Lib.hid (Only.below_ on HBX.out HBX.out.size (fun i hi => by have h := Ug.out i hi; omega))
  have Ew4 := Lib.hid (Nw.out.only on (fun i hi hs => by have h := Ug.out i hs; have h2 := Uw.out i hi; omega))
  have Fbw4 := Lib.hid (RowB.only PBbw.out on (fun hs => by have h := Ug.out _ hs; omega))
  have Fbg4 := Lib.hid (RowB.only PBbg.out on (fun hs => by have h := Ug.out _ hs; omega))
  have Eg4 := Lib.hid ho
  clear HX HBX HB3 Ew3 Eg3 Fbw3 Fbg3 Nw Ng PBbw PBbg on ho
  rw [← HM0.out]
  have HX := Lib.hid (show Below v4.heap.size v4 v4 from (Below.refl v4.heap.size v4))
  have Nw := Lib.hid (Ew4.out.below (Nat.le_refl _) HX.out)
  have Ng := Lib.hid (Eg4.out.below (Nat.le_refl _) HX.out)
  have HBX := Lib.hid (HB4.out.trans (HX.out.mono HB4.out.size))
  have PBbw := Lib.hid (RowB.below Fbw4.out HX.out Fbw4.out.lt)
  have PBbg := Lib.hid (RowB.below Fbg4.out HX.out Fbg4.out.lt)
  have row_bg : rowOf v4 (v2.heap.size) = (scrA s2) := Fbg4.out.row
  have lt_bg : v2.heap.size < v4.heap.size := Fbg4.out.lt
  go_wp2_with fail
  refine ((heldScr_any s2 1 _ Ng.out.rd (HSZ.out _ D2.out) (by omega) (by omega))).mono ?_
  rintro e v5 ⟨rfl, hx⟩
  clear row_bg lt_bg
  have HB5 := Lib.hid (HBX.out.trans (hx.mono HBX.out.size))
  have Ew5 := Lib.hid (Nw.out.below (Nat.le_refl _) hx)
  have Eg5 := Lib.hid (Ng.out.below (Nat.le_refl _) hx)
  have Fbw5 := Lib.hid (RowB.below PBbw.out hx PBbw.out.lt)
  have Fbg5 := Lib.hid (RowB.below PBbg.out hx PBbg.out.lt)
  have sz5 : v4.heap.size ≤ v5.heap.size := Nat.le_trans HX.out.size hx.size
  clear HX HBX HB4 Ew4 Eg4 Fbw4 Fbg4 Nw Ng PBbw PBbg hx
  rw [← HM0.out]
  have HX := Lib.hid (show Below v5.heap.size v5 v5 from (Below.refl v5.heap.size v5))
  have Nw := Lib.hid (Ew5.out.below (Nat.le_refl _) HX.out)
  have Ng := Lib.hid (Eg5.out.below (Nat.le_refl _) HX.out)
  have HBX := Lib.hid (HB5.out.trans (HX.out.mono HB5.out.size))
  have PBbw := Lib.hid (RowB.below Fbw5.out HX.out Fbw5.out.lt)
  have PBbg := Lib.hid (RowB.below Fbg5.out HX.out Fbg5.out.lt)
  go_wp2_with fail
  refine (HIM.out _).mono ?_
  rintro e v6 ⟨s3, rfl, ho, hd, hx⟩
  have HB6 := Lib.hid (HBX.out.trans (hx.mono HBX.out.size))
  have Ew6 := Lib.hid (Nw.out.below (Nat.le_refl _) hx)
  have Eg6 := Lib.hid (Ng.out.below (Nat.le_refl _) hx)
  have Fbw6 := Lib.hid (RowB.below PBbw.out hx PBbw.out.lt)
  have Fbg6 := Lib.hid (RowB.below PBbg.out hx PBbg.out.lt)
  have sz6 : v5.heap.size ≤ v6.heap.size := Nat.le_trans HX.out.size hx.size
  have Eh6 := Lib.hid ho
  have Uh := Lib.hid (show ∀ i, SS s3 i → v5.heap.size + 0 ≤ i ∧ i < v6.heap.size from fun i hi => by have h := ho.blk i hi; (try simp at h); exact ⟨by omega, h.2⟩)
  clear HX HBX HB5 Ew5 Eg5 Fbw5 Fbg5 Nw Ng PBbw PBbg hx ho
  have D3 := Lib.hid hd
  clear hd
  have HX := Lib.hid (show Below v6.heap.size v6 (v6.alloc (.cells (scrA s3) 45)) from ((Below.refl v6.heap.size v6).alloc (by simp <;> omega) (.cells (scrA s3) 45)))
  have Nw := Lib.hid (Ew6.out.below (Nat.le_refl _) HX.out)
  have Ng := Lib.hid (Eg6.out.below (Nat.le_refl _) HX.out)
  have Nh := Lib.hid (Eh6.out.below (Nat.le_refl _) HX.out)
  have HBX := Lib.hid (HB6.out.trans (HX.out.mono HB6.out.size))
  have pb_ := RowB.new v6 (scrA s3) 45
  (try simp only [World.size_alloc] at pb_)
  have PBbh := Lib.hid (show RowB (v6.alloc (.cells (scrA s3) 45)) (v6.heap.size) (scrA s3) from pb_)
  clear pb_
  have PBbw := Lib.hid (RowB.below Fbw6.out HX.out Fbw6.out.lt)
  have PBbg := Lib.hid (RowB.below Fbg6.out HX.out Fbg6.out.lt)
  have row_bw : rowOf v6 (v1.heap.size) = (scrA s1) := Fbw6.out.row
  have lt_bw : v1.heap.size < v6.heap.size := Fbw6.out.lt
  go_wp2_with fail
  refine (eqS Nh.out Nw.out (D1.out.trans D3.out.symm) (HSZ.out _ D3.out)).mono ?_
  rintro e v7 ⟨rfl, hx⟩
  clear row_bw lt_bw
  have HB7 := Lib.hid (HBX.out.trans (hx.mono HBX.out.size))
  have Ew7 := Lib.hid (Nw.out.below (Nat.le_refl _) hx)
  have Eg7 := Lib.hid (Ng.out.below (Nat.le_refl _) hx)
  have Eh7 := Lib.hid (Nh.out.below (Nat.le_refl _) hx)
  have Fbw7 := Lib.hid (RowB.below PBbw.out hx PBbw.out.lt)
  have Fbg7 := Lib.hid (RowB.below PBbg.out hx PBbg.out.lt)
  have Fbh7 := Lib.hid (RowB.below PBbh.out hx PBbh.out.lt)
  have sz7 : v6.heap.size ≤ v7.heap.size := Nat.le_trans HX.out.size hx.size
  clear HX HBX HB6 Ew6 Eg6 Eh6 Fbw6 Fbg6 Nw Ng Nh PBbw PBbg PBbh hx
  have HX := Lib.hid (show Below v7.heap.size v7 v7 from (Below.refl v7.heap.size v7))
  have Nw := Lib.hid (Ew7.out.below (Nat.le_refl _) HX.out)
  have Ng := Lib.hid (Eg7.out.below (Nat.le_refl _) HX.out)
  have Nh := Lib.hid (Eh7.out.below (Nat.le_refl _) HX.out)
  have HBX := Lib.hid (HB7.out.trans (HX.out.mono HB7.out.size))
  have PBbw := Lib.hid (RowB.below Fbw7.out HX.out Fbw7.out.lt)
  have PBbg := Lib.hid (RowB.below Fbg7.out HX.out Fbg7.out.lt)
  have PBbh := Lib.hid (RowB.below Fbh7.out HX.out Fbh7.out.lt)
  have row_bg : rowOf v7 (v2.heap.size) = (scrA s2) := Fbg7.out.row
  have lt_bg : v2.heap.size < v7.heap.size := Fbg7.out.lt
  go_wp2_with fail
  refine ((heldScr_any s2 1 _ Ng.out.rd (HSZ.out _ D2.out) (by omega) (by omega))).mono ?_
  rintro e v8 ⟨rfl, hx⟩
  clear row_bg lt_bg
  have HB8 := Lib.hid (HBX.out.trans (hx.mono HBX.out.size))
  have Ew8 := Lib.hid (Nw.out.below (Nat.le_refl _) hx)
  have Eg8 := Lib.hid (Ng.out.below (Nat.le_refl _) hx)
  have Eh8 := Lib.hid (Nh.out.below (Nat.le_refl _) hx)
  have Fbw8 := Lib.hid (RowB.below PBbw.out hx PBbw.out.lt)
  have Fbg8 := Lib.hid (RowB.below PBbg.out hx PBbg.out.lt)
  have Fbh8 := Lib.hid (RowB.below PBbh.out hx PBbh.out.lt)
  have sz8 : v7.heap.size ≤ v8.heap.size := Nat.le_trans HX.out.size hx.size
  clear HX HBX HB7 Ew7 Eg7 Eh7 Fbw7 Fbg7 Fbh7 Nw Ng Nh PBbw PBbg PBbh hx
  rw [← HM0.out]
  go_wp2_with fail
  go_ret
  exact ⟨rfl, HB8.out⟩
end Go.Proofs.Ytmccggjogoaakaa.fnExactScrNew

