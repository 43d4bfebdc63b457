/- impl.isEachInOne. -/
import Derived.Test.YtgnpgkkjcloghaaGreatDoorSoG
import Derived.Test.YtgnpgkkjcloghaaGreatDoorSoW
namespace Go.Proofs.YtgnpgkkjcloghaaGreatDoor.St
open Go.RowKit Go.Proofs.YtgnpgkkjcloghaaGreatDoor.Bytes Go.Proofs.YtgnpgkkjcloghaaGreatDoor.Rows_ Go.Proofs.YtgnpgkkjcloghaaGreatDoor.RowK Go.Proofs.YtgnpgkkjcloghaaGreatDoor.Gr Go.Proofs.YtgnpgkkjcloghaaGreatDoor.DOk Go.Proofs.YtgnpgkkjcloghaaGreatDoor.Opq Go.Proofs.YtgnpgkkjcloghaaGreatDoor.Sc Go.Maps Go.WideMaps
set_option linter.unusedVariables false
attribute [local go_sem ↓] Go.wp_at_zero Go.wp_at_succ lm_lawsVp lm_implVp lm_lawsScr lm_implScr lm_lawsTerm lm_implTerm lm_lawsPane lm_implPane lm_lawsWin lm_implWin lm_lawsSess lm_implSess lr_implVp lr_implTerm lr_implPane lr_implWin lr_implSess lr_lawsState lr_implState sm_Vp sm_Scr sm_Term sm_Pane sm_Win sm_Sess sr_Vp sr_Term sr_Pane sr_Win sr_Sess sr_State
attribute [local go_sem] RowZ.set rowOf_set rowOf_setRow_other rowOf_setRow_same rowOf_setCell_other blkOf_ptr isHead_ptr aggN_agg isPtr_ptr offOf_ptr setRow_alloc rowZ_at rowZ_past rowZ_setRow_other rowOf_alloc_at rowOf_alloc_past rowOf_drew seg_alloc_past seg_alloc_at seg_setCell_other seg_setRow_other seg_drew cut_term_scr cut_term_vp cut_pane_term vpA_size termA_size paneA_size winA_size sessA_size stA_size scrA_size one_vp one_scr one_term one_pane one_win one_sess one_st vp_at0 vp_at1 vp_at2 vp_at3 term_at0 term_at1 term_at2 term_at3 pane_at0 pane_at1 pane_at2 pane_at3 pane_at4 pane_at5 win_at0 win_at1 win_at2 win_at3 win_at4 sess_at0 sess_at1 sess_at2 st_at0 st_at1 st_at2 st_at3 st_at4 st_at5 st_at6
theorem memIds_le (es : List SessS) : ∀ k : Nat, (memIds ((es.map SessS.data).take k)).length ≤ sumN szE es := by
  induction es with
  | nil => intro k; simp [memIds, sumN]
  | cons x r ih =>
    intro k
    cases k with
    | zero => simp [memIds]
    | succ k =>
      have h1 := ih k
      have h2 : (memIds (((x :: r).map SessS.data).take (k + 1))).length = x.wins.length + (memIds ((r.map SessS.data).take k)).length := by
        simp only [List.map_cons, List.take_succ_cons]; unfold memIds; simp only [List.map_cons, List.flatten_cons, List.length_append]; rfl
      have h3 : sumN szE (x :: r) = szE x + sumN szE r := by unfold sumN; simp
      have h4 : szE x = x.name.size + x.wins.length := rfl
      rw [h2, h3]; omega
set_option maxRecDepth 100000 in
set_option maxHeartbeats 3200000 in
theorem isEachInOne_any (B : Nat) (s : StS) (w : World) (h : StIn w B s) (hwf : ∀ z ∈ paneIds s.data ++ winIds s.data, (Lit.int .i64 z).wf = true) :
    Calls Tryz.prog 29 #[.agg (stA s)] w fun e w' => e = .returned (.bool (eachB s.data)) ∧ Below w.heap.size w w' := by
  have HI := Lib.hid (fun W (hb : Below w.heap.size w W) => h.below hb)
  have n1 : s.wins.length ≤ 1048576 := h.lens.2.1
  have n2 : s.sess.length ≤ 1048576 := h.lens.2.2
  have HNM := Lib.hid h.ename
  have HWE := Lib.hid h.e
  have HET := Lib.hid h.r.et
  have HML := Lib.hid (show ∀ k, (memIds (s.data.sess.take k)).length ≤ 1048576 from fun k => Nat.le_trans (memIds_le s.sess k) (by have := h.n; unfold szSt at this; omega))
  have HGW := Lib.hid (show ∀ k (hk : k < s.wins.length) (h' : k < s.data.wins.length), s.data.wins[k] = s.wins[k].data from fun k hk h' => by simp [StS.data])
  have HGE := Lib.hid (show ∀ k (hk : k < s.sess.length) (h' : k < s.data.sess.length), s.data.sess[k] = s.sess[k].data from fun k hk h' => by simp [StS.data])
  have LGW := Lib.hid (show s.data.wins.length = s.wins.length from by simp [StS.data])
  have LGE := Lib.hid (show s.data.sess.length = s.sess.length from by simp [StS.data])
  have HB0 := Lib.hid ((Below.refl w.heap.size w).alloc (Nat.le_refl _) (.cells (stA s) 33))
  have PB := Lib.hid (RowB.new w (stA s) 33)
  have HNV := Lib.hid (notVisited_any s _ (HI.out _ HB0.out).r (HI.out _ HB0.out).n hwf)
  obtain ⟨d, hd⟩ : ∃ d, d = s.data := ⟨_, rfl⟩
  obtain ⟨K, hK⟩ : ∃ K, K = entKeys (paneIds d) (winIds d) := ⟨_, rfl⟩
  obtain ⟨Z, hZ⟩ : ∃ Z, Z = entKeys (leafIds d.wins) (memIds d.sess) := ⟨_, rfl⟩
  have HZ := Lib.hid hZ
  have HKK := Lib.hid hK
  have HKW := Lib.hid (show ∀ x ∈ K, wfE x from fun x hx => by
    rw [hK, hd, keys_pE] at hx
    rcases List.mem_append.1 hx with h | h
    · exact pE_wf (fun z hz => hwf z (List.mem_append_left _ hz)) x h
    · exact pE_wf (fun z hz => hwf z (List.mem_append_right _ hz)) x h)
  rw [← hd] at HGW HGE LGW LGE HNV HML
  rw [← hK] at HNV
  rw [← hd]
  have HEN := Lib.hid (show ∀ S R e, Z = S ++ e :: R → ¬ (e ∈ K ∧ e ∉ S) → eachB d = false from fun S R e h1 h2 => each_no (by rw [← hZ]; exact h1) (by rw [← hK]; exact h2))
  have HEE := Lib.hid (show ∀ S v, Z = S → Good K S → (v = true ↔ ∀ e ∈ K, e ∈ S) → eachB d = v from fun S v h1 h2 h3 => each_end (S := S) (by rw [← hZ]; exact h1) (by rw [← hK]; exact h2) (by rw [← hK]; exact h3))
  clear h hwf hd hK hZ HKK
  go_enter Tryz.func29, Tryz.ntmps29
  go_wp2_with fail
  refine HNV.out.mono ?_
  rintro e w1 ⟨b, n, D, rfl, hbb, hn3, ho1, hv1, hb1⟩
  have hbp : w.heap.size < b := by simp at hbb; omega
  have HB1 := Lib.hid (HB0.out.trans (hb1.mono HB0.out.size))
  have PS1 := Lib.hid (PB.out.below hb1 PB.out.lt)
  have row1 : rowOf w1 w.heap.size = stA s := PS1.out.row
  have ltz1 : w.heap.size < w1.heap.size := PS1.out.lt
  have cs5 : w1.cell? ⟨w.heap.size, 5, none⟩ = some (.slice s.wA s.wins.length s.wc) := PS1.out.cell 5
  have HO1 := Lib.hid ho1
  have HV1 := Lib.hid hv1
  clear ho1 hv1 hb1 hbb HNV
  go_wp2_with fail
  generalize hwA : s.wA = wA
  go_loopw [17] (fun i wr => ∃ (k n : Nat) (D : VDat), k ≤ s.wins.length ∧ i = .int .i64 k ∧ n ≤ 3000000 + k * 31 ∧ VMap wr b n D ∧ Hid (VisD D K (pE false (leafIds (d.wins.take k)))) ∧ Hid (Good K (pE false (leafIds (d.wins.take k)))) ∧ Hid (Below w.heap.size w wr) ∧ Hid (RowB wr w.heap.size (stA s))) (fun i _ => s.wins.length - (intOf i).toNat)
  case atStart => exact ⟨0, n, D, Nat.zero_le _, rfl, by omega, HO1.out, HV1, Lib.hid (Good.nil K), HB1, PS1⟩
  case round =>
    clear HO1 HV1 HB1 PS1 row1 ltz1 cs5
    clear D n hn3
    obtain ⟨k, n, D, hk, rfl, hn3, ho, HV, HGD, HB, PS⟩ := hrel
    have hz : w.heap.size ≤ wr.heap.size := HB.out.size
    have row_s := PS.out.row
    have lt_s := PS.out.lt
    have hbw : b < wr.heap.size := VMap.lt ho
    by_cases hlt : k < s.wins.length
    · have hld : k < d.wins.length := by rw [LGW.out]; exact hlt
      obtain ⟨b1, o1, hA, hBb, hsg0⟩ := rdK_seg (L := winL) (fun _ => rfl) (HI.out _ HB.out).r.wr hlt
      have hsg : seg wr b1 (o1 + k * 5) 5 = winA s.wins[k] := hsg0
      rw [hwA] at hA
      subst hA
      have hbx0 := (Below.refl wr.heap.size wr).alloc (Nat.le_refl _) (.cells (winA s.wins[k]) 90)
      have hbx : Below w.heap.size w (wr.alloc (.cells (winA s.wins[k]) 90)) := HB.out.alloc hz _
      have HIN := Lib.hid ((HI.out _ hbx).wn _ (List.getElem_mem hlt))
      have HOX := Lib.hid (VMap.below ho hbx0)
      have PSX := Lib.hid (RowB.below PS.out hbx0 PS.out.lt)
      have HTR := Lib.hid (show d.wins[k].tree = s.wins[k].tree from by rw [HGW.out k hlt hld]; rfl)
      have HSP := Lib.hid (leafIds_split d.wins k hld)
      have HSN := Lib.hid (leafIds_snoc d.wins k hld)
      rw [HTR.out] at HSP HSN
      have HBX := Lib.hid hbx
      clear ho hbx hbx0 hsg0 HTR
      generalize s.wins[k] = x at *
      obtain ⟨xi, xn, xA, xc, xt, xa, xz⟩ := x
      simp only [] at HIN HSP HSN
      have HLF := Lib.hid (Tr.impl_Leaves_any xA xt.length xc B xt _ HIN.out)
      have HLW := Lib.hid (Tr.leavesD_wf xt)
      have hln := Tr.leavesD_len xt
      obtain ⟨lv, hlv⟩ : ∃ l, l = Tr.leavesD xt := ⟨_, rfl⟩
      rw [← hlv] at HSP HSN HLF HLW hln
      clear hlv
      go_wp2_with fail
      refine HLF.out.mono ?_
      rintro e w2 ⟨A2, n2', c2, rfl, ho2, hb2⟩
      have hl2 : lv.length = n2' := ho2.len
      subst hl2
      have HB2 := Lib.hid (HBX.out.trans (hb2.mono HBX.out.size))
      have PS2 := Lib.hid (RowB.below PSX.out hb2 PSX.out.lt)
      have HV2 := Lib.hid (VMap.below HOX.out hb2)
      have HO2 := Lib.hid ho2
      have hb2w : b < w2.heap.size := VMap.lt HV2.out
      have hbase : b < (wr.alloc (.cells (winA ⟨xi, xn, xA, xc, xt, xa, xz⟩) 90)).heap.size := by simp; omega
      have HEX := Lib.hid (show ∀ j (hj : j < lv.length), Z = (pE false (leafIds (d.wins.take k)) ++ pE false (lv.take j)) ++ (false, lv[j]) :: (pE false (lv.drop (j + 1)) ++ (pE false (leafIds (d.wins.drop (k + 1))) ++ pE true (memIds d.sess))) from fun j hj => by
        rw [HZ.out, keys_pE, HSP.out, pE_app, pE_app, pE_split false lv j hj]; simp [List.append_assoc])
      clear ho2 hb2 HLF HIN
      go_wp2_with fail
      go_loopw [25] (fun i wr => ∃ (j n : Nat) (D : VDat), j ≤ (lv).length ∧ i = .int .i64 j ∧ n ≤ 3000000 + k * 31 + j ∧ VMap wr b n D ∧ Hid (VisD D K (pE false (leafIds (d.wins.take k)) ++ pE false ((lv).take j))) ∧ Hid (Good K (pE false (leafIds (d.wins.take k)) ++ pE false ((lv).take j))) ∧ Hid (w2.grownBy wr (some b))) (fun i _ => (lv).length - (intOf i).toNat)
      case atStart => exact ⟨0, n, D, Nat.zero_le _, rfl, by omega, HV2.out, Lib.hid (by simp only [List.take_zero, pE, List.map_nil, List.append_nil]; exact HV.out), Lib.hid (by simp only [List.take_zero, pE, List.map_nil, List.append_nil]; exact HGD.out), Lib.hid (World.grownBy.refl _ _)⟩
      case round =>
        clear HV2 HV HGD row_s lt_s hsg HOX
        clear D n hn3
        obtain ⟨j, n, D, hj, rfl, hnb, ho, HV, HGD, HG⟩ := hrel
        by_cases hjl : j < (lv).length
        · have HBR := Lib.hid (Tr.grown_new HB2.out HG.out (by omega) (by omega))
          obtain ⟨b2, o2, hA2, hB2, hc2⟩ := (OwnI.grown HO2.out HG.out hbase |>.rd).at_ hjl
          have HEX := Lib.hid (HEX.out j hjl)
          have HSN := Lib.hid (pE_snoc false (lv) j hjl)
          have hwf := HLW.out _ (List.getElem_mem hjl)
          have HVI := Lib.hid (visit_any b n D K (pE false (leafIds (d.wins.take k)) ++ pE false ((lv).take j)) (false, (lv)[j]) wr ho HV.out HKW.out hwf (by omega))
          clear ho
          subst hA2
          generalize (lv)[j] = z at *
          have HVI2 := Lib.hid (show Calls Tryz.prog 71 #[.map (some b), .agg #[.bool false, .int .i64 z]] wr _ from HVI.out)
          clear HVI
          go_wp2_with fail
          refine HVI2.out.mono ?_
          rintro en w4 (⟨hin, rfl, hg4, D4, hv4, hd4⟩ | ⟨hni, rfl, hg4⟩)
          · have HG4 := Lib.hid (grown_trans HG.out hg4)
            have HVD4 := Lib.hid (show VisD D4 K (pE false (leafIds (d.wins.take k)) ++ pE false ((lv).take (j + 1))) from by rw [HSN.out, ← List.append_assoc]; exact hd4)
            have HGD4 := Lib.hid (show Good K (pE false (leafIds (d.wins.take k)) ++ pE false ((lv).take (j + 1))) from by rw [HSN.out, ← List.append_assoc]; exact HGD.out.snoc hin)
            have HO4 := Lib.hid hv4
            clear hv4 hd4 hin hg4
            go_wp2_with fail
            exact ⟨⟨j + 1, n + 1, D4, by omega, by go_num, by omega, HO4.out, HVD4, HGD4, HG4⟩, by simp [intOf]; omega⟩
          · have HF := Lib.hid (HEN.out _ _ _ HEX.out hni)
            have HB5 := Lib.hid (Tr.grown_new HBR.out hg4 (by omega) HBR.out.size)
            clear hni hg4
            go_wp2_with fail
            go_ret
            exact ⟨Attr.rt_bool HF.out.symm, HB5.out⟩
        · obtain rfl : lv.length = j := by omega
          have HKE := Lib.hid (show pE false (leafIds (d.wins.take k)) ++ pE false (lv.take lv.length) = pE false (leafIds (d.wins.take (k + 1))) by rw [List.take_length, HSN.out, pE_app])
          rw [HKE.out] at HV HGD
          have HB4 := Lib.hid (Tr.grown_new HB2.out HG.out (by omega) (by omega))
          have PS4 := Lib.hid (RowB.below PS2.out (below_grown (by omega) HG.out) (by omega))
          have HO := Lib.hid ho
          clear ho
          go_wp2_with fail
          exact ⟨⟨k + 1, n, D, by omega, by go_num, by omega, HO.out, HV, HGD, HB4, PS4⟩, by simp [intOf]; omega⟩
    · obtain rfl : k = s.wins.length := by omega
      have hT : d.wins.take s.wins.length = d.wins := List.take_of_length_le (by rw [LGW.out]; exact Nat.le_refl _)
      rw [hT] at HV HGD
      have HO := Lib.hid ho
      clear ho hT
      have cs6 : wr.cell? ⟨w.heap.size, 6, none⟩ = some (.slice s.eA s.sess.length s.ec) := PS.out.cell 6
      go_wp2_with fail
      generalize heA : s.eA = eA
      go_loopw [39] (fun i wr => ∃ (k n : Nat) (D : VDat), k ≤ s.sess.length ∧ i = .int .i64 k ∧ n ≤ 40000000 + (memIds (d.sess.take k)).length ∧ VMap wr b n D ∧ Hid (VisD D K (pE false (leafIds d.wins) ++ pE true (memIds (d.sess.take k)))) ∧ Hid (Good K (pE false (leafIds d.wins) ++ pE true (memIds (d.sess.take k)))) ∧ Hid (Below w.heap.size w wr)) (fun i _ => s.sess.length - (intOf i).toNat)
      case atStart => exact ⟨0, n, D, Nat.zero_le _, rfl, by omega, HO.out, Lib.hid (by simp only [List.take_zero, memIds, pE, List.map_nil, List.flatten_nil, List.append_nil]; exact HV.out), Lib.hid (by simp only [List.take_zero, memIds, pE, List.map_nil, List.flatten_nil, List.append_nil]; exact HGD.out), HB⟩
      case round =>
        clear HO HV HGD row_s lt_s PS HB hz hbw cs6
        clear D n hn3 hlt hk
        obtain ⟨k, n, D, hk, rfl, hn3, ho, HV, HGD, HB⟩ := hrel
        have hz : w.heap.size ≤ wr.heap.size := HB.out.size
        have hbw : b < wr.heap.size := VMap.lt ho
        have hml : (memIds (d.sess.take k)).length ≤ 1048576 := HML.out k
        by_cases hlt : k < s.sess.length
        · have hld : k < d.sess.length := by rw [LGE.out]; exact hlt
          obtain ⟨b1, o1, hA, hBb, hsg0⟩ := rdK_seg (L := sessL) (fun _ => rfl) (HI.out _ HB.out).r.e hlt
          have hsg : seg wr b1 (o1 + k * 3) 3 = sessA s.sess[k] := hsg0
          rw [heA] at hA
          subst hA
          have hbx0 := (Below.refl wr.heap.size wr).alloc (Nat.le_refl _) (.cells (sessA s.sess[k]) 97)
          have hbx : Below w.heap.size w (wr.alloc (.cells (sessA s.sess[k]) 97)) := HB.out.alloc hz _
          have HRX := Lib.hid (HET.out _ (List.getElem_mem hlt))
          have HXW := Lib.hid (HWE.out _ (List.getElem_mem hlt))
          have hxl := (HNM.out _ (List.getElem_mem hlt)).2
          have HOX := Lib.hid (VMap.below ho hbx0)
          have HTR := Lib.hid (show d.sess[k].wins = s.sess[k].wins from by rw [HGE.out k hlt hld]; rfl)
          have HSP := Lib.hid (memIds_split d.sess k hld)
          have HSN := Lib.hid (memIds_snoc d.sess k hld)
          rw [HTR.out] at HSP HSN
          have HBX := Lib.hid hbx
          clear ho hbx hbx0 hsg0 HTR
          generalize s.sess[k] = x at *
          obtain ⟨xn, xA, xc, xs, xa⟩ := x
          simp only [] at HRX HXW hxl HSP HSN
          obtain ⟨w2, hw2⟩ : ∃ W, W = wr.alloc (.cells (sessA ⟨xn, xA, xc, xs, xa⟩) 97) := ⟨_, rfl⟩
          have hs2 : w2.heap.size = wr.heap.size + 1 := by rw [hw2]; simp
          have hb2w : b < w2.heap.size := by omega
          have HEX := Lib.hid (show ∀ j (hj : j < xs.length), Z = ((pE false (leafIds d.wins) ++ pE true (memIds (d.sess.take k))) ++ pE true (xs.take j)) ++ (true, xs[j]) :: (pE true (xs.drop (j + 1)) ++ pE true (memIds (d.sess.drop (k + 1)))) from fun j hj => by
            rw [HZ.out, keys_pE, HSP.out, pE_app, pE_app, pE_split true xs j hj]; simp [List.append_assoc])
          go_wp2_with fail
          rw [← hw2] at HBX HOX ⊢
          go_loopw [46] (fun i wr => ∃ (j n : Nat) (D : VDat), j ≤ (xs).length ∧ i = .int .i64 j ∧ n ≤ 40000000 + (memIds (d.sess.take k)).length + j ∧ VMap wr b n D ∧ Hid (VisD D K ((pE false (leafIds d.wins) ++ pE true (memIds (d.sess.take k))) ++ pE true ((xs).take j))) ∧ Hid (Good K ((pE false (leafIds d.wins) ++ pE true (memIds (d.sess.take k))) ++ pE true ((xs).take j))) ∧ Hid (w2.grownBy wr (some b))) (fun i _ => (xs).length - (intOf i).toNat)
          case atStart => exact ⟨0, n, D, Nat.zero_le _, rfl, by omega, HOX.out, Lib.hid (by simp only [List.take_zero, pE, List.map_nil, List.append_nil]; exact HV.out), Lib.hid (by simp only [List.take_zero, pE, List.map_nil, List.append_nil]; exact HGD.out), Lib.hid (World.grownBy.refl _ _)⟩
          case round =>
            clear HOX HV HGD hsg
            clear D n hn3
            obtain ⟨j, n, D, hj, rfl, hnb, ho, HV, HGD, HG⟩ := hrel
            by_cases hjl : j < (xs).length
            · have HBR := Lib.hid (Tr.grown_new HBX.out HG.out (by omega) (by omega))
              obtain ⟨b2, o2, hA2, hB2, hc2⟩ := (HRX.out.below (Nat.le_refl _) HBR.out).at_ hjl
              have HEX := Lib.hid (HEX.out j hjl)
              have HSN := Lib.hid (pE_snoc true (xs) j hjl)
              have hwf := HXW.out _ (List.getElem_mem hjl)
              have HVI := Lib.hid (visit_any b n D K ((pE false (leafIds d.wins) ++ pE true (memIds (d.sess.take k))) ++ pE true ((xs).take j)) (true, (xs)[j]) wr ho HV.out HKW.out hwf (by omega))
              clear ho
              subst hA2
              generalize (xs)[j] = z at *
              have HVI2 := Lib.hid (show Calls Tryz.prog 71 #[.map (some b), .agg #[.bool true, .int .i64 z]] wr _ from HVI.out)
              clear HVI
              go_wp2_with fail
              refine HVI2.out.mono ?_
              rintro en w4 (⟨hin, rfl, hg4, D4, hv4, hd4⟩ | ⟨hni, rfl, hg4⟩)
              · have HG4 := Lib.hid (grown_trans HG.out hg4)
                have HVD4 := Lib.hid (show VisD D4 K ((pE false (leafIds d.wins) ++ pE true (memIds (d.sess.take k))) ++ pE true ((xs).take (j + 1))) from by rw [HSN.out, ← List.append_assoc]; exact hd4)
                have HGD4 := Lib.hid (show Good K ((pE false (leafIds d.wins) ++ pE true (memIds (d.sess.take k))) ++ pE true ((xs).take (j + 1))) from by rw [HSN.out, ← List.append_assoc]; exact HGD.out.snoc hin)
                have HO4 := Lib.hid hv4
                clear hv4 hd4 hin hg4
                go_wp2_with fail
                exact ⟨⟨j + 1, n + 1, D4, by omega, by go_num, by omega, HO4.out, HVD4, HGD4, HG4⟩, by simp [intOf]; omega⟩
              · have HF := Lib.hid (HEN.out _ _ _ HEX.out hni)
                have HB5 := Lib.hid (Tr.grown_new HBR.out hg4 (by omega) HBR.out.size)
                clear hni hg4
                go_wp2_with fail
                go_ret
                exact ⟨Attr.rt_bool HF.out.symm, HB5.out⟩
            · obtain rfl : xs.length = j := by omega
              have HKE := Lib.hid (show (pE false (leafIds d.wins) ++ pE true (memIds (d.sess.take k))) ++ pE true (xs.take xs.length) = pE false (leafIds d.wins) ++ pE true (memIds (d.sess.take (k + 1))) by rw [List.take_length, HSN.out, pE_app, List.append_assoc])
              rw [HKE.out] at HV HGD
              have hml2 : (memIds (d.sess.take (k + 1))).length = (memIds (d.sess.take k)).length + xs.length := by rw [HSN.out, List.length_append]
              have HB4 := Lib.hid (Tr.grown_new HBX.out HG.out (by omega) (by omega))
              have HO := Lib.hid ho
              clear ho
              go_wp2_with fail
              exact ⟨⟨k + 1, n, D, by omega, by go_num, by omega, HO.out, HV, HGD, HB4⟩, by simp [intOf]; omega⟩
        · obtain rfl : k = s.sess.length := by omega
          have hT : d.sess.take s.sess.length = d.sess := List.take_of_length_le (by rw [LGE.out]; exact Nat.le_refl _)
          rw [hT] at HV HGD
          have HO := Lib.hid ho
          clear ho hT
          go_wp2_with (go_at_call 72; refine (areComplete_any b n D K _ _ HO.out HV.out HKW.out).mono ?_; rintro e w5 ⟨⟨v, rfl, hv⟩, hb5⟩)
          have HF := Lib.hid (HEE.out _ v (by rw [HZ.out, keys_pE]) HGD.out hv)
          go_ret
          exact ⟨Attr.rt_bool HF.out.symm, HB.out.trans (hb5.mono HB.out.size)⟩
end Go.Proofs.YtgnpgkkjcloghaaGreatDoor.St

