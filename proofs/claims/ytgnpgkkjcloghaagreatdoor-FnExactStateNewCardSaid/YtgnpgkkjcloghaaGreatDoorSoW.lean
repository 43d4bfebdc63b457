/- impl.winsOk and impl.sessOk. -/
import Derived.Test.YtgnpgkkjcloghaaGreatDoorKm20
namespace Go.Proofs.YtgnpgkkjcloghaaGreatDoor.St
open Go.RowKit Go.Proofs.YtgnpgkkjcloghaaGreatDoor.Bytes Go.Proofs.YtgnpgkkjcloghaaGreatDoor.Rows_ Go.Proofs.YtgnpgkkjcloghaaGreatDoor.RowK Go.Proofs.YtgnpgkkjcloghaaGreatDoor.Gr Go.Proofs.YtgnpgkkjcloghaaGreatDoor.DOk Go.Proofs.YtgnpgkkjcloghaaGreatDoor.Opq Go.Proofs.YtgnpgkkjcloghaaGreatDoor.Sc
set_option linter.unusedVariables false
attribute [local go_sem ↓] Go.wp_at_zero Go.wp_at_succ lm_lawsVp lm_implVp lm_lawsScr lm_implScr lm_lawsTerm lm_implTerm lm_lawsPane lm_implPane lm_lawsWin lm_implWin lm_lawsSess lm_implSess lr_implVp lr_implTerm lr_implPane lr_implWin lr_implSess lr_lawsState lr_implState sm_Vp sm_Scr sm_Term sm_Pane sm_Win sm_Sess sr_Vp sr_Term sr_Pane sr_Win sr_Sess sr_State
attribute [local go_sem] RowZ.set rowOf_set rowOf_setRow_other rowOf_setRow_same rowOf_setCell_other blkOf_ptr isHead_ptr aggN_agg isPtr_ptr offOf_ptr setRow_alloc rowZ_at rowZ_past rowZ_setRow_other rowOf_alloc_at rowOf_alloc_past rowOf_drew seg_alloc_past seg_alloc_at seg_setCell_other seg_setRow_other seg_drew cut_term_scr cut_term_vp cut_pane_term vpA_size termA_size paneA_size winA_size sessA_size stA_size scrA_size one_vp one_scr one_term one_pane one_win one_sess one_st vp_at0 vp_at1 vp_at2 vp_at3 term_at0 term_at1 term_at2 term_at3 pane_at0 pane_at1 pane_at2 pane_at3 pane_at4 pane_at5 win_at0 win_at1 win_at2 win_at3 win_at4 sess_at0 sess_at1 sess_at2 st_at0 st_at1 st_at2 st_at3 st_at4 st_at5 st_at6
theorem strInfo : (Tryz.prog.info? 9).map (fun i => (i.zero, i.size, i.bytes)) = some (some (.string ⟨#[]⟩), 1, 16) := by kernel_rfl
theorem names_flat (es : List SessS) : ((es.map (·.name)).map fun s => [Value.string s]).flatten = es.map fun x => Value.string x.name := by
  induction es with
  | nil => rfl
  | cons x r ih => simp only [List.map_cons, List.flatten_cons, ih]; rfl
theorem all_no {α : Type} {p : α → Bool} {l : List α} {k : Nat} (h : k < l.length) (hk : p l[k] = false) : l.all p = false := List.all_eq_false.2 ⟨l[k], List.getElem_mem h, by rw [hk]; simp⟩
set_option maxRecDepth 100000 in
set_option maxHeartbeats 1600000 in
theorem winsOk_any (B : Nat) (s : StS) (w : World) (h : StIn w B s) :
    Calls Tryz.prog 27 #[.agg (stA s)] w fun e w' => e = .returned (.bool (winsB s.data)) ∧ Below w.heap.size w w' := by
  have HI := Lib.hid (fun W (hb : Below w.heap.size w W) => h.below hb)
  have n1 : s.wins.length ≤ 1048576 := h.lens.2.1
  have HNM := Lib.hid h.wname
  have HG := Lib.hid (show ∀ k (hk : k < s.wins.length) (h' : k < s.data.wins.length), s.data.wins[k] = s.wins[k].data from fun k hk h' => by simp [StS.data])
  have HGL := Lib.hid (show s.data.wins.length = s.wins.length from by simp [StS.data])
  have PB := Lib.hid (RowB.new w (stA s) 33)
  have hb0 := (Below.refl w.heap.size w).alloc (Nat.le_refl _) (.cells (stA s) 33)
  have HB0 := Lib.hid hb0
  clear h hb0
  go_enter Tryz.func27, Tryz.ntmps27
  go_wp2_with fail
  generalize hwA : s.wA = wA
  go_loopw [10] (fun i wr => ∃ k : Nat, k ≤ s.wins.length ∧ i = .int .i64 k ∧ Hid (Below w.heap.size w wr) ∧ Hid (RowB wr w.heap.size (stA s)) ∧ Hid (∀ j (hj : j < s.data.wins.length), j < k → winB s.data s.data.wins[j] = true)) (fun i _ => s.wins.length - (intOf i).toNat)
  case atStart => exact ⟨0, Nat.zero_le _, rfl, HB0, PB, Lib.hid (fun j _ h => absurd h (by omega))⟩
  case round =>
    clear HB0 PB
    obtain ⟨k, hk, rfl, HB, PS, HA⟩ := hrel
    have hz : w.heap.size ≤ wr.heap.size := HB.out.size
    have row_s := PS.out.row
    have lt_s := PS.out.lt
    have cs0 : wr.cell? ⟨w.heap.size, 0, none⟩ = some (.int .i64 s.w) := PS.out.cell 0
    have cs1 : wr.cell? ⟨w.heap.size, 1, none⟩ = some (.int .i64 s.h) := PS.out.cell 1
    by_cases hlt : k < s.wins.length
    · have hld : k < s.data.wins.length := by rw [HGL.out]; exact hlt
      obtain ⟨b, o, hA, hBb, hsg0⟩ := rdK_seg (L := winL) (fun _ => rfl) (HI.out _ HB.out).r.wr hlt
      have hsg : seg wr b (o + k * 5) 5 = winA s.wins[k] := hsg0
      rw [hwA] at hA
      subst hA
      have hbx : Below w.heap.size w (wr.alloc (.cells (winA s.wins[k]) 90)) := HB.out.alloc hz _
      have HIN := Lib.hid ((HI.out _ hbx).wn _ (List.getElem_mem hlt))
      have HNK := Lib.hid (HNM.out _ (List.getElem_mem hlt))
      have HNO := Lib.hid (fun h0 : winB s.data s.wins[k].data = false => (show winsB s.data = false from all_no hld (by rw [HG.out k hlt hld]; exact h0)))
      have HYS := Lib.hid (fun h0 : winB s.data s.wins[k].data = true => (show ∀ j (hj : j < s.data.wins.length), j < k + 1 → winB s.data s.data.wins[j] = true from fun j hj hjk => by
        by_cases e : j = k
        · subst e; rw [HG.out j hlt hj]; exact h0
        · exact HA.out j hj (by omega)))
      have HBX := Lib.hid hbx
      have PSX := Lib.hid (RowB.below PS.out ((Below.refl wr.heap.size wr).alloc (Nat.le_refl _) (.cells (winA s.wins[k]) 90)) PS.out.lt)
      clear hbx hsg0
      generalize s.wins[k] = x at *
      obtain ⟨xi, xn, xA, xc, xt, xa, xz⟩ := x
      simp only [] at HIN HNK
      have HW := Lib.hid (show winB s.data (WinS.data ⟨xi, xn, xA, xc, xt, xa, xz⟩) = ((Tr.pofD (Tr.listD xt s.w s.h) xa).isSome && Made.madeB Made.wb 12 xn.data.toList) from rfl)
      rw [HW.out] at HNO HYS
      clear HW
      have HC := Lib.hid (Tr.impl_PlaceOf_any xA xt.length xc B xt s.w s.h xa _ HIN.out)
      generalize Tr.pofR (Tr.listD xt s.w s.h) xa = r at *
      obtain ⟨r0, r1, r2, r3, r4⟩ := r
      generalize (Tr.pofD (Tr.listD xt s.w s.h) xa).isSome = okp at *
      go_wp2_with fail
      refine HC.out.mono ?_
      rintro e v1 ⟨rfl, hb1⟩
      have hs1 : wr.heap.size + 1 ≤ v1.heap.size := by have := hb1.size; simpa using this
      have HB1 := Lib.hid ((HBX.out.trans (hb1.mono (by simp; omega))).alloc (by omega) (.cells #[.int .i64 r0, .int .i64 r1, .int .i64 r2, .int .i64 r3, .int .i64 r4] 120))
      have PS1 := Lib.hid (RowB.below (RowB.below PSX.out hb1 PSX.out.lt) ((Below.refl v1.heap.size v1).alloc (Nat.le_refl _) (.cells #[.int .i64 r0, .int .i64 r1, .int .i64 r2, .int .i64 r3, .int .i64 r4] 120)) (RowB.below PSX.out hb1 PSX.out.lt).lt)
      have Fx := Lib.hid (RowB.below (RowB.new wr (winA ⟨xi, xn, xA, xc, xt, xa, xz⟩) 90) hb1 (by simp))
      have lt_x := Fx.out.lt
      have cx1 : v1.cell? ⟨wr.heap.size, 1, none⟩ = some (.string xn) := Fx.out.cell 1
      clear hb1 HC
      cases okp
      · have HF := Lib.hid (HNO.out rfl)
        clear HNO HYS
        go_wp2_with fail
        go_ret
        exact ⟨Attr.rt_bool HF.out.symm, HB1.out⟩
      · have HWD := Lib.hid (fun W => fnExactWordOk.impl_any xn W HNK.out)
        generalize Made.madeB Made.wb 12 xn.data.toList = okn at *
        go_wp2_with (go_at_call 66; refine (HWD.out _).mono ?_; rintro e v2 ⟨rfl, rfl⟩; cases okn)
        · have HF := Lib.hid (HNO.out rfl)
          clear HNO HYS
          go_wp2_with fail
          go_ret
          exact ⟨Attr.rt_bool HF.out.symm, HB1.out⟩
        · have HY := Lib.hid (HYS.out rfl)
          clear HNO HYS
          go_wp2_with fail
          exact ⟨⟨k + 1, by omega, by go_num, HB1, PS1, HY⟩, by simp [intOf]; omega⟩
    · have hkl : k = s.wins.length := by omega
      subst hkl
      have HE := Lib.hid (show winsB s.data = true from (all_iff_idx _ _).2 (fun j hj => HA.out j hj (by have := HGL.out; omega)))
      go_wp2_with fail
      go_ret
      exact ⟨Attr.rt_bool HE.out.symm, HB.out⟩
set_option maxRecDepth 100000 in
set_option maxHeartbeats 1600000 in
theorem sessOk_any (A : Option Addr) (n c : Nat) (es : List SessS) (w : World) (hr : RdK 3 w w.heap.size A (es.map sessL)) (hi : ∀ x ∈ es, RdI w w.heap.size x.wA x.wins) (hs : ∀ x ∈ es, x.name.size ≤ maxLen ∧ x.wins.length ≤ 1048576) (hl : es.length = n) (hn : n ≤ 1000000) :
    Calls Tryz.prog 28 #[.slice A n c] w fun e w' => e = .returned (.bool ((es.map SessS.data).all sess1 && decide ((es.map SessS.data).map (·.name)).Nodup)) ∧ Below w.heap.size w w' := by
  obtain ⟨i0, hi0, hz0, hz1, hz2⟩ := info_parts strInfo
  have HR := Lib.hid hr
  have HL := Lib.hid hl
  have HI := Lib.hid (fun x hx W (hb : Below w.heap.size w W) => (hi x hx).below (Nat.le_refl _) hb)
  have HS := Lib.hid hs
  have HNS := Lib.hid (show (es.map SessS.data).map (·.name) = es.map (·.name) from by rw [List.map_map]; rfl)
  obtain ⟨ds, hds⟩ : ∃ ds, ds = es.map SessS.data := ⟨_, rfl⟩
  have dl : ds.length = n := by rw [hds, List.length_map]; exact hl
  have DG := Lib.hid (show ∀ k (h : k < ds.length) (h' : k < es.length), ds[k] = es[k].data from fun k h h' => by subst hds; rw [List.getElem_map])
  have DL := Lib.hid dl
  rw [HNS.out]
  rw [← hds]
  clear hr hl hi hs hds dl HNS
  go_enter Tryz.func28, Tryz.ntmps28
  go_wp2_with fail
  go_loopw [3, 8] (fun v i wr => ∃ (k : Nat) (A2 : Option Addr) (c2 : Nat), k ≤ n ∧ i = .int .i64 k ∧ v = .slice A2 k c2 ∧ wr.ownsRow w.heap.size 9 1 (.slice A2 k c2) k ((es.take k).map fun x => .string x.name) ∧ Below w.heap.size w wr ∧ Hid (∀ j (hj : j < ds.length), j < k → sess1 ds[j] = true)) (fun _ i _ => n - (intOf i).toNat)
  case atStart => exact ⟨0, none, 0, Nat.zero_le _, rfl, rfl, World.ownsRow_nil _ _ _ _, Below.refl _ _, Lib.hid (fun j _ h => absurd h (by omega))⟩
  case round =>
    obtain ⟨k, A2, c2, hk, rfl, rfl, ho, hb, HA⟩ := hrel
    have hz : w.heap.size ≤ wr.heap.size := hb.size
    by_cases hlt : k < n
    · have hlt' : k < es.length := by rw [HL.out]; exact hlt
      have hld : k < ds.length := by rw [DL.out]; exact hlt
      obtain ⟨b, o, rfl, hBb, hsg0⟩ := rdK_seg (L := sessL) (fun _ => rfl) (HR.out.below (Nat.le_refl _) hb) hlt'
      have hsg : seg wr b (o + k * 3) 3 = sessA es[k] := hsg0
      have hbx : Below w.heap.size w (wr.alloc (.cells (sessA es[k]) 97)) := hb.alloc hz _
      have HOX := Lib.hid (World.ownsRow.alloc ho (.cells (sessA es[k]) 97))
      have HIK := Lib.hid (HI.out _ (List.getElem_mem hlt') _ hbx)
      have HSK := Lib.hid (HS.out _ (List.getElem_mem hlt'))
      have HNO := Lib.hid (fun h0 : sess1 es[k].data = false => (show (ds.all sess1 && decide (es.map (·.name)).Nodup) = false from by rw [all_no hld (by rw [DG.out k hld hlt']; exact h0)]; rfl))
      have HYS := Lib.hid (fun h0 : sess1 es[k].data = true => (show ∀ j (hj : j < ds.length), j < k + 1 → sess1 ds[j] = true from fun j hj hjk => by
        by_cases e : j = k
        · subst e; rw [DG.out j hj hlt']; exact h0
        · exact HA.out j hj (by omega)))
      have HS2 := Lib.hid (show ((es.take (k + 1)).map fun x => Value.string x.name) = ((es.take k).map fun x => Value.string x.name) ++ [.string es[k].name] by rw [List.take_succ_eq_append_getElem hlt', List.map_append]; rfl)
      have HBX := Lib.hid hbx
      clear ho hb hbx hsg0
      generalize es[k] = x at *
      obtain ⟨xn, xA, xc, xs, xa⟩ := x
      simp only [] at HIK HSK HS2
      have HW := Lib.hid (show sess1 (SessS.data ⟨xn, xA, xc, xs, xa⟩) = (Made.madeB Made.wb 12 xn.data.toList && hasI xs xa) from rfl)
      rw [HW.out] at HNO HYS
      clear HW
      have HWD := Lib.hid (fun W => fnExactWordOk.impl_any xn W HSK.out.1)
      generalize Made.madeB Made.wb 12 xn.data.toList = okn at *
      cases okn
      · have HF := Lib.hid (HNO.out rfl)
        clear HNO HYS
        go_wp2_with (go_at_call 66; refine (HWD.out _).mono ?_; rintro e v2 ⟨rfl, rfl⟩)
        go_ret
        exact ⟨Attr.rt_bool HF.out.symm, HBX.out⟩
      · have HCN := Lib.hid (containsI_any xA xs.length xc _ xs xa _ HIK.out rfl HSK.out.2)
        generalize hasI xs xa = okc at *
        cases okc
        · have HF := Lib.hid (HNO.out rfl)
          clear HNO HYS
          go_wp2_with (first | (go_at_call 66; refine (HWD.out _).mono ?_; rintro e v2 ⟨rfl, rfl⟩) | (go_at_call 67; refine HCN.out.mono ?_; rintro e v2 ⟨rfl, rfl⟩))
          go_ret
          exact ⟨Attr.rt_bool HF.out.symm, HBX.out⟩
        · have HY := Lib.hid (HYS.out rfl)
          clear HNO HYS
          go_wp2_with (first | (go_at_call 66; refine (HWD.out _).mono ?_; rintro e v2 ⟨rfl, rfl⟩) | (go_at_call 67; refine HCN.out.mono ?_; rintro e v2 ⟨rfl, rfl⟩) | (at_builtin; refine AppOne.append_one Tryz.underlying123 hi0 hz0 hz1 hz2 rfl (by decide) rfl _ _ rfl rfl (wr.heap.size + 1) (by simp) rfl HOX.out rfl (by omega) (by simp; omega) ?_))
          intro A3 c3 w3 ho3 hg3 hl3
          have HO3 := Lib.hid (show w3.ownsRow w.heap.size 9 1 (.slice A3 (k + 1) c3) (k + 1) ((es.take (k + 1)).map fun x => Value.string x.name) by rw [HS2.out, List.map_take]; exact ho3)
          have HB3 := Lib.hid (HBX.out.grown hg3 (by simp; omega) (fun g hg => (World.ownsRow.lt HOX.out g hg).1))
          clear ho3 hg3 hl3
          go_wp2_with fail
          exact ⟨⟨k + 1, A3, c3, by omega, by go_num, rfl, HO3.out, HB3.out, HY⟩, by simp [intOf]; omega⟩
    · obtain rfl : n = k := by omega
      rw [List.take_of_length_le (by rw [HL.out]; exact Nat.le_refl _)] at ho
      have HO := Lib.hid ho
      have HB := Lib.hid hb
      have hall : ∀ j (hj : j < ds.length), sess1 ds[j] = true := fun j hj => HA.out j hj (by have := DL.out; omega)
      have HE := Lib.hid (show (ds.all sess1 && decide (es.map (·.name)).Nodup) = decide (es.map (·.name)).Nodup from by rw [(all_iff_idx sess1 ds).2 hall]; rfl)
      have HRK := Lib.hid (show RdK 1 wr wr.heap.size A2 ((es.map (·.name)).map fun s => [Value.string s]) from by
        have h1 : ((es.map (·.name)).map fun s => [Value.string s]).flatten = es.map fun x => Value.string x.name := by
          exact names_flat es
        refine own_rdK (e := 9) (base := w.heap.size) (n := n) (c := c2) (fun r hr => ?_) (Nat.le_refl 1) (by rw [h1]; exact HO.out)
        rw [List.mem_map] at hr; obtain ⟨z, _, rfl⟩ := hr; rfl)
      have HWF := Lib.hid (show ∀ z ∈ es.map (·.name), z.size ≤ maxLen from fun z hz => by
        obtain ⟨x, hx, rfl⟩ := List.mem_map.1 hz; exact (HS.out x hx).1)
      have HLN := Lib.hid (show (es.map (·.name)).length = n by rw [List.length_map]; exact HL.out)
      clear ho hb hall
      go_wp2_with (go_at_call 68; refine (Tr.areDistinctS_any A2 n c2 _ (es.map (·.name)) _ HRK.out HLN.out (by omega) HWF.out (Nat.le_refl _)).mono ?_; rintro e v5 ⟨rfl, hb5⟩)
      go_ret
      exact ⟨Attr.rt_bool HE.out.symm, HB.out.trans (hb5.mono HB.out.size)⟩
end Go.Proofs.YtgnpgkkjcloghaaGreatDoor.St

