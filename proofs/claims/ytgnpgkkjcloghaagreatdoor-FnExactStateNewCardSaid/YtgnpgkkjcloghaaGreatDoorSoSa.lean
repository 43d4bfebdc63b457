/- spec.l14Sess. -/
import Derived.Test.YtgnpgkkjcloghaaGreatDoorKm22
namespace Go.Proofs.YtgnpgkkjcloghaaGreatDoor.St
open Go.RowKit Go.Proofs.YtgnpgkkjcloghaaGreatDoor.Bytes Go.Proofs.YtgnpgkkjcloghaaGreatDoor.Rows_ Go.Proofs.YtgnpgkkjcloghaaGreatDoor.RowK Go.Proofs.YtgnpgkkjcloghaaGreatDoor.Gr Go.Proofs.YtgnpgkkjcloghaaGreatDoor.DOk Go.Proofs.YtgnpgkkjcloghaaGreatDoor.Opq Go.Proofs.YtgnpgkkjcloghaaGreatDoor.Sc
set_option linter.unusedVariables false
attribute [local go_sem ↓] Go.wp_at_zero Go.wp_at_succ lm_lawsVp lm_implVp lm_lawsScr lm_implScr lm_lawsTerm lm_implTerm lm_lawsPane lm_implPane lm_lawsWin lm_implWin lm_lawsSess lm_implSess lr_implVp lr_implTerm lr_implPane lr_implWin lr_implSess lr_lawsState lr_implState sm_Vp sm_Scr sm_Term sm_Pane sm_Win sm_Sess sr_Vp sr_Term sr_Pane sr_Win sr_Sess sr_State
attribute [local go_sem] RowZ.set rowOf_set rowOf_setRow_other rowOf_setRow_same rowOf_setCell_other blkOf_ptr isHead_ptr aggN_agg isPtr_ptr offOf_ptr setRow_alloc rowZ_at rowZ_past rowZ_setRow_other rowOf_alloc_at rowOf_alloc_past rowOf_drew seg_alloc_past seg_alloc_at seg_setCell_other seg_setRow_other seg_drew cut_term_scr cut_term_vp cut_pane_term vpA_size termA_size paneA_size winA_size sessA_size stA_size scrA_size one_vp one_scr one_term one_pane one_win one_sess one_st vp_at0 vp_at1 vp_at2 vp_at3 term_at0 term_at1 term_at2 term_at3 pane_at0 pane_at1 pane_at2 pane_at3 pane_at4 pane_at5 win_at0 win_at1 win_at2 win_at3 win_at4 sess_at0 sess_at1 sess_at2 st_at0 st_at1 st_at2 st_at3 st_at4 st_at5 st_at6
attribute [local instance] Classical.propDecidable
theorem own_zeroI (w : World) : OwnI (w.alloc (.cells #[] 3)) w.heap.size (some ⟨w.heap.size, 0, none⟩) 0 0 [] := Tr.own_zero w 3 1
set_option maxRecDepth 100000 in
set_option maxHeartbeats 1600000 in
theorem l14Sess_any (B : Nat) (s : StS) (w : World) (h : StIn w B s) :
    Calls Tryz.prog 19 #[.agg (stA s)] w fun e w' => e = .returned (.bool (decide (mSess s.data))) ∧ Below w.heap.size w w' := by
  have HI := Lib.hid (fun W (hb : Below w.heap.size w W) => h.below hb)
  have n1 : s.sess.length ≤ 1048576 := h.lens.2.2
  have n3 : s.wins.length ≤ 1048576 := h.lens.2.1
  have HNM := Lib.hid h.ename
  have HEN := Lib.hid h.en
  have HET := Lib.hid h.r.et
  have HML := Lib.hid (show ∀ k, (memIds (s.data.sess.take k)).length ≤ 1048576 from fun k => Nat.le_trans (memIds_le s.sess k) (by have := h.n; unfold szSt at this; omega))
  have HG := Lib.hid (show ∀ k (hk : k < s.sess.length) (h' : k < s.data.sess.length), s.data.sess[k] = s.sess[k].data from fun k hk h' => by simp [StS.data])
  have HGL := Lib.hid (show s.data.sess.length = s.sess.length from by simp [StS.data])
  have PB := Lib.hid (RowB.new w (stA s) 33)
  have hb0 := (Below.refl w.heap.size w).alloc (Nat.le_refl _) (.cells (stA s) 33)
  have HB0 := Lib.hid (hb0.alloc (by simp) (.cells #[] 3))
  have PB0 := Lib.hid (PB.out.below ((Below.refl _ _).alloc (Nat.le_refl _) (.cells #[] 3)) PB.out.lt)
  clear h hb0 PB
  go_enter Tryz.func19, Tryz.ntmps19
  go_wp2_with fail
  generalize heA : s.eA = eA
  go_loopw [3, 12] (fun v i wr => ∃ (k : Nat) (A2 : Option Addr) (n2 c2 : Nat), k ≤ s.sess.length ∧ i = .int .i64 k ∧ v = .slice A2 n2 c2 ∧ OwnI wr (w.heap.size + 1) A2 n2 c2 (memIds (s.data.sess.take k)) ∧ Hid (Below w.heap.size w wr) ∧ Hid (RowB wr w.heap.size (stA s)) ∧ Hid (∀ j (hj : j < s.data.sess.length), j < k → mSes s.data j s.data.sess[j])) (fun _ i _ => s.sess.length - (intOf i).toNat)
  case atStart => exact ⟨0, _, 0, 0, Nat.zero_le _, rfl, rfl, (by have h := own_zeroI (w.alloc (.cells (stA s) 33)); simp only [World.size_alloc] at h; exact h), HB0, PB0, Lib.hid (fun j _ h => absurd h (by omega))⟩
  case round =>
    clear HB0 PB0
    obtain ⟨k, A2, n2, c2, hk, rfl, rfl, ho, HB, PS, HA⟩ := hrel
    have hz : w.heap.size ≤ wr.heap.size := HB.out.size
    have row_s := PS.out.row
    have lt_s := PS.out.lt
    have hn2 : n2 ≤ 1048576 := by rw [← ho.len]; exact HML.out k
    by_cases hlt : k < s.sess.length
    · have hld : k < s.data.sess.length := by rw [HGL.out]; exact hlt
      obtain ⟨b, o, hA, hBb, hsg0⟩ := rdK_seg (L := sessL) (fun _ => rfl) (HI.out _ HB.out).r.e hlt
      have hsg : seg wr b (o + k * 3) 3 = sessA s.sess[k] := hsg0
      rw [heA] at hA
      subst hA
      have hbx0 := (Below.refl wr.heap.size wr).alloc (Nat.le_refl _) (.cells (sessA s.sess[k]) 97)
      have hbx : Below w.heap.size w (wr.alloc (.cells (sessA s.sess[k]) 97)) := HB.out.alloc hz _
      have HOX := Lib.hid (ho.alloc (.cells (sessA s.sess[k]) 97))
      have PSX := Lib.hid (RowB.below PS.out hbx0 PS.out.lt)
      have HIK := Lib.hid (HET.out _ (List.getElem_mem hlt))
      have HSK := Lib.hid (HNM.out _ (List.getElem_mem hlt))
      have HEK := Lib.hid (HEN.out _ (List.getElem_mem hlt))
      have HNO := Lib.hid (fun h0 : ¬ mSes s.data k s.sess[k].data => (show decide (mSess s.data) = false from decide_eq_false (fun hm => h0 (by have := hm.1 k hld; rw [HG.out k hlt hld] at this; exact this))))
      have HYS := Lib.hid (fun h0 : mSes s.data k s.sess[k].data => (show ∀ j (hj : j < s.data.sess.length), j < k + 1 → mSes s.data j s.data.sess[j] from fun j hj hjk => by
        by_cases e : j = k
        · subst e; rw [HG.out j hlt hj]; exact h0
        · exact HA.out j hj (by omega)))
      have HS2 := Lib.hid (show memIds (s.data.sess.take (k + 1)) = memIds (s.data.sess.take k) ++ s.sess[k].wins by rw [memIds_snoc _ k hld, HG.out k hlt hld]; rfl)
      have HBX := Lib.hid hbx
      clear ho hbx hbx0 hsg0 HA
      generalize s.sess[k] = x at *
      obtain ⟨xn, xA, xc, xs, xa⟩ := x
      simp only [] at HIK HSK HEK HS2
      have HW := Lib.hid (show mSes s.data k (SessS.data ⟨xn, xA, xc, xs, xa⟩) = (Made.madeB Made.wb 12 xn.data.toList = true ∧ idx (fun y => y.name.toList == xn.toList) s.data.sess = (k : Int) ∧ hasI xs xa = true) from rfl)
      rw [HW.out] at HNO HYS
      clear HW
      have HWD := Lib.hid (fun W => fnExactWordOk.spec_any xn W HSK.out.1)
      have HSA := Lib.hid (spec_SessAt_any s xn _ (HI.out _ HBX.out).r (HI.out _ HBX.out).n)
      generalize Made.madeB Made.wb 12 xn.data.toList = okn at *
      generalize idx (fun y => y.name.toList == xn.toList) s.data.sess = ix at *
      go_wp2_with fail
      refine (HWD.out _).mono ?_
      rintro e v1 ⟨rfl, rfl⟩
      cases okn
      · have HF := Lib.hid (HNO.out (fun h => by have := h.1; cases this))
        clear HNO HYS
        go_wp2_with fail
        go_ret
        exact ⟨Attr.rt_bool HF.out.symm, HBX.out⟩
      go_wp2_with fail
      refine HSA.out.mono ?_
      rintro e v2 ⟨rfl, hb2⟩
      have HB2 := Lib.hid (HBX.out.trans (hb2.mono (by simp; omega)))
      have PS2 := Lib.hid (RowB.below PSX.out hb2 PSX.out.lt)
      have HO2 := Lib.hid (HOX.out.below (Nat.le_refl _) hb2)
      have Fx := Lib.hid (RowB.below (RowB.new wr (sessA ⟨xn, xA, xc, xs, xa⟩) 97) hb2 (by simp))
      have lt_x := Fx.out.lt
      have cx1 : v2.cell? ⟨wr.heap.size, 1, none⟩ = some (.slice xA xs.length xc) := Fx.out.cell 1
      have cx2 : v2.cell? ⟨wr.heap.size, 2, none⟩ = some (.int .i64 xa) := Fx.out.cell 2
      have hs2 : w.heap.size < v2.heap.size := PS2.out.lt
      clear hb2 HSA
      by_cases hix : ix = (k : Int)
      · have HCN := Lib.hid (l02HasInt_any xA xs.length xc xs xa v2 _ (HIK.out.below (Nat.le_refl _) HB2.out) rfl (by have := HSK.out.2; omega))
        generalize hasI xs xa = okc at *
        go_wp2_with fail
        refine HCN.out.mono ?_
        rintro e v3 ⟨rfl, rfl⟩
        cases okc
        · have HF := Lib.hid (HNO.out (fun h => by have := h.2.2; cases this))
          clear HNO HYS
          go_wp2_with fail
          go_ret
          exact ⟨Attr.rt_bool HF.out.symm, HB2.out⟩
        · have HY := Lib.hid (HYS.out (by first | exact ⟨rfl, hix, rfl⟩ | exact ⟨trivial, hix, trivial⟩ | simp [hix]))
          clear HNO HYS
          have hxl := HSK.out.2
          go_wp2_with (at_builtin; refine Tr.append_ints rfl _ _ rfl rfl rfl HO2.out (HIK.out.below (Nat.le_refl _) HB2.out) HEK.out rfl (by omega) (by omega) (by omega) ?_)
          intro A3 c3 w3 ho3 hb3 hg3
          have HO3 := Lib.hid (show OwnI w3 (w.heap.size + 1) A3 (n2 + xs.length) c3 (memIds (s.data.sess.take (k + 1))) by rw [HS2.out]; exact ho3)
          have HB3 := Lib.hid (HB2.out.trans (hb3.mono (by omega)))
          have PS3 := Lib.hid (show RowB w3 w.heap.size (stA s) from PS2.out.below hb3 (by omega))
          clear ho3 hb3 hg3
          go_wp2_with fail
          exact ⟨⟨k + 1, A3, n2 + xs.length, c3, by omega, by go_num, rfl, HO3.out, HB3, PS3, HY⟩, by simp [intOf]; omega⟩
      · have HF := Lib.hid (HNO.out (fun h => hix h.2.1))
        clear HNO HYS
        go_wp2_with fail
        go_ret
        exact ⟨Attr.rt_bool HF.out.symm, HB2.out⟩
    · obtain rfl : k = s.sess.length := by omega
      have hT : s.data.sess.take s.sess.length = s.data.sess := List.take_of_length_le (by rw [HGL.out]; exact Nat.le_refl _)
      rw [hT] at ho
      have HALL := Lib.hid (show ∀ i (h : i < s.data.sess.length), mSes s.data i s.data.sess[i] from fun i h => HA.out i h (by have := HGL.out; omega))
      have HOA := Lib.hid ho
      clear ho HA hT row_s lt_s
      have hLl : (memIds s.data.sess).length = n2 := HOA.out.len
      have cl : wr.cell? ⟨w.heap.size, 5, none⟩ = some (.slice s.wA s.wins.length s.wc) := PS.out.cell 5
      obtain ⟨V, hV⟩ : ∃ V, V = wr := ⟨_, rfl⟩
      rw [← hV] at HOA HB PS
      rw [← hV]
      clear hV cl
      go_wp2_with fail
      go_loopw [44] (fun i wr => ∃ k : Nat, k ≤ n2 ∧ i = .int .i64 k ∧ Hid (Below V.heap.size V wr) ∧ Hid (∀ j (hj : j < (memIds s.data.sess).length), j < k → hasI ((memIds s.data.sess).take j) (memIds s.data.sess)[j] = false ∧ 0 ≤ idx (fun p => p.id == (memIds s.data.sess)[j]) s.data.wins)) (fun i _ => n2 - (intOf i).toNat)
      case atStart => exact ⟨0, Nat.zero_le _, rfl, Lib.hid (Below.refl _ _), Lib.hid (fun j _ h => absurd h (by omega))⟩
      case round =>
        clear hk
        obtain ⟨k, hk, rfl, HBV, HA2⟩ := hrel
        have HB5 := Lib.hid (HB.out.trans (HBV.out.mono HB.out.size))
        have PS5 := Lib.hid (PS.out.below HBV.out PS.out.lt)
        have row_5 := PS5.out.row
        have lt_5 := PS5.out.lt
        have hnc := HOA.out.cap
        by_cases hlt : k < n2
        · have hlt' : k < (memIds s.data.sess).length := by omega
          obtain ⟨b5, o5, rfl, hB5, hc5⟩ := (HOA.out.below (Nat.le_refl _) HBV.out).rd.at_ hlt'
          have HTK := Lib.hid ((HOA.out.below (Nat.le_refl _) HBV.out).rd.take k)
          have HTL := Lib.hid (show ((memIds s.data.sess).take k).length = k by rw [List.length_take]; omega)
          have HNO := Lib.hid (fun h0 : ¬ (hasI ((memIds s.data.sess).take k) (memIds s.data.sess)[k] = false ∧ 0 ≤ idx (fun p => p.id == (memIds s.data.sess)[k]) s.data.wins) => (show decide (mSess s.data) = false from decide_eq_false (fun hm => h0 (hm.2.1 k hlt'))))
          have HYS := Lib.hid (fun h0 : (hasI ((memIds s.data.sess).take k) (memIds s.data.sess)[k] = false ∧ 0 ≤ idx (fun p => p.id == (memIds s.data.sess)[k]) s.data.wins) => (show ∀ j (hj : j < (memIds s.data.sess).length), j < k + 1 → hasI ((memIds s.data.sess).take j) (memIds s.data.sess)[j] = false ∧ 0 ≤ idx (fun p => p.id == (memIds s.data.sess)[j]) s.data.wins from fun j hj hjk => by
            by_cases e : j = k
            · subst e; exact h0
            · exact HA2.out j hj (by omega)))
          have HHI := Lib.hid (fun z => l02HasInt_any (some ⟨b5, o5, none⟩) k c2 ((memIds s.data.sess).take k) z wr _ HTK.out HTL.out (by omega))
          have HAT := Lib.hid (fun z => spec_WinAt_any s z wr (HI.out _ HB5.out).r (HI.out _ HB5.out).n)
          generalize (memIds s.data.sess)[k] = z at *
          generalize hh : hasI ((memIds s.data.sess).take k) z = h1 at *
          generalize hi : idx (fun p => p.id == z) s.data.wins = iv0 at *
          have HH := Lib.hid hh
          have HHi := Lib.hid hi
          have HHJ := Lib.hid (show Calls Tryz.prog 47 #[.slice (some ⟨b5, o5, none⟩) k c2, .int .i64 z] wr fun e w' => e = .returned (.bool h1) ∧ wr = w' from by rw [← HH.out]; exact HHI.out z)
          have HAU := Lib.hid (show Calls Tryz.prog 50 #[.agg (stA s), .int .i64 z] wr fun e w' => e = .returned (.int .i64 iv0) ∧ Below wr.heap.size wr w' from by rw [← HHi.out]; exact HAT.out z)
          clear hh hi HHI HAT
          go_wp2_with fail
          refine HHJ.out.mono ?_
          rintro e v ⟨rfl, rfl⟩
          cases h1
          · go_wp2_with fail
            refine HAU.out.mono ?_
            rintro e v6 ⟨rfl, hb6⟩
            have HB6 := Lib.hid (HBV.out.trans (hb6.mono HBV.out.size))
            have HB7 := Lib.hid (HB5.out.trans (hb6.mono HB5.out.size))
            clear hb6
            by_cases h2 : iv0 < 0
            · have HF := Lib.hid (HNO.out (fun h => by have := h.2; omega))
              clear HNO HYS
              go_wp2_with fail
              go_ret
              exact ⟨Attr.rt_bool HF.out.symm, HB7.out⟩
            · have HY := Lib.hid (HYS.out (by first | exact ⟨rfl, by omega⟩ | exact ⟨trivial, by omega⟩))
              clear HNO HYS
              go_wp2_with fail
              exact ⟨⟨k + 1, by omega, by go_num, HB6, HY⟩, by simp [intOf]; omega⟩
          · have HF := Lib.hid (HNO.out (fun h => by have := h.1; cases this))
            clear HNO HYS
            go_wp2_with fail
            go_ret
            exact ⟨Attr.rt_bool HF.out.symm, HB5.out⟩
        · obtain rfl : n2 = k := by omega
          have cl5 : wr.cell? ⟨w.heap.size, 5, none⟩ = some (.slice s.wA s.wins.length s.wc) := PS5.out.cell 5
          have HE := Lib.hid (show decide (mSess s.data) = decide ((n2 : Int) = (s.wins.length : Int)) from by
            congr 1; apply propext
            have hll : s.data.wins.length = s.wins.length := by simp [StS.data]
            constructor
            · intro hm; have := hm.2.2; omega
            · intro hm; exact ⟨HALL.out, fun j hj => HA2.out j hj (by omega), by omega⟩)
          go_wp2_with fail
          go_ret
          exact ⟨Attr.rt_bool (by rw [HE.out]; first | rfl | simp), HB5.out⟩
end Go.Proofs.YtgnpgkkjcloghaaGreatDoor.St

