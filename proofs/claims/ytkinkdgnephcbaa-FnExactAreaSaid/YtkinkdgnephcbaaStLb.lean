/- The laws' helpers over rows of windows and sessions: the copy, the size, the comparison where both hold the same. -/
import Derived.Test.YtkinkdgnephcbaaStL
import Derived.Deep.RegionWith
import Derived.Deep.DrawnRows
namespace Go.Proofs.Ytkinkdgnephcbaa.St
open Go.RowKit Go.Proofs.Ytkinkdgnephcbaa.Bytes Go.Proofs.Ytkinkdgnephcbaa.Rows_ Go.Proofs.Ytkinkdgnephcbaa.RowK Go.Proofs.Ytkinkdgnephcbaa.Gr Go.Proofs.Ytkinkdgnephcbaa.DOk Go.Proofs.Ytkinkdgnephcbaa.Opq Go.Proofs.Ytkinkdgnephcbaa.Sc
set_option linter.unusedVariables false
attribute [local go_sem ↓] Go.wp_at_zero Go.wp_at_succ lm_lawsVp lm_implVp lm_lawsScr lm_implScr lm_lawsTerm lm_implTerm lm_lawsPane lm_implPane lm_lawsWin lm_implWin lm_lawsSess lm_implSess lr_implVp lr_implTerm lr_implPane lr_implWin lr_implSess lr_lawsState lr_implState sm_Vp sm_Scr sm_Term sm_Pane sm_Win sm_Sess sr_Vp sr_Term sr_Pane sr_Win sr_Sess sr_State
attribute [local go_sem] RowZ.set rowOf_set rowOf_setRow_other rowOf_setRow_same rowOf_setCell_other blkOf_ptr isHead_ptr aggN_agg isPtr_ptr offOf_ptr setRow_alloc rowZ_at rowZ_past rowZ_setRow_other rowOf_alloc_at rowOf_alloc_past rowOf_drew seg_alloc_past seg_alloc_at seg_setCell_other seg_setRow_other seg_drew cut_term_scr cut_term_vp cut_pane_term vpA_size termA_size paneA_size winA_size sessA_size stA_size scrA_size one_vp one_scr one_term one_pane one_win one_sess one_st vp_at0 vp_at1 vp_at2 vp_at3 term_at0 term_at1 term_at2 term_at3 pane_at0 pane_at1 pane_at2 pane_at3 pane_at4 pane_at5 win_at0 win_at1 win_at2 win_at3 win_at4 sess_at0 sess_at1 sess_at2 st_at0 st_at1 st_at2 st_at3 st_at4 st_at5 st_at6
def zWin : List Value := [.int .i64 0, .string ByteArray.empty, .slice none 0 0, .int .i64 0, .bool false]
theorem infoWin : (Try.prog.info? 142).map (fun i => (i.zero, i.size, i.bytes)) = some (some (.agg #[.int .i64 0, .string ByteArray.empty, .slice none 0 0, .int .i64 0, .bool false]), 5, 64) := by kernel_rfl
def partWin (gs : List WinS) (n k : Nat) : List Value := (gs.map winL ++ List.replicate (n - k) zWin).flatten
set_option maxRecDepth 100000 in
set_option maxHeartbeats 1600000 in
theorem toWinS_any (A : Option Addr) (n c : Nat) (ps : List WinS) (w : World) (hr : RdK 5 w w.heap.size A (ps.map winL)) (hl : ps.length = n) (hp : RdWs w w.heap.size ps) (hn : n ≤ 1048576) (hs : ∀ p ∈ ps, p.tree.length ≤ 1048576) :
    Calls Try.prog 101 #[.slice A n c] w fun e w' => ∃ A' c' gs, e = .returned (.slice A' n c') ∧ w'.ownsRow w.heap.size 142 5 (.slice A' n c') n (gs.map winL).flatten ∧ gs.map WinS.data = ps.map WinS.data ∧ OwnWs w' w.heap.size gs ∧ Below w.heap.size w w' := by
  obtain ⟨i0, hi, hz0, hz1, hz2⟩ := info_parts infoWin
  have hm : n ≤ maxLen := by unfold maxLen; omega
  have HL := Lib.hid hl
  have HR := Lib.hid hr
  have HP := Lib.hid hp
  have HS := Lib.hid hs
  clear hl hr hp hs
  go_enter Try.func101, Try.ntmps101
  go_wp2_with (at_make; refine wpList_make_full _ rfl _ _ 78 rfl w.heap.size 142 i0 (.agg #[.int .i64 0, .string ByteArray.empty, .slice none 0 0, .int .i64 0, .bool false]) 5 Try.underlying78 hi hz0 hz1 _ _ _ _ n rfl rfl rfl rfl ?c1 hm (Nat.le_refl _) ?_)
  case c1 => first | omega | (rw [hz2]; omega)
  intro w1 hown hgrow
  have hown' : w1.ownsRow w.heap.size 142 5 (.slice (some ⟨w.heap.size, 0, none⟩) n n) n (partWin [] n 0) := by
    rw [made_flat _ 5 n rfl (by omega)] at hown
    exact hown
  have hb1 : Below w.heap.size w w1 := (Below.refl _ _).grown hgrow (Nat.le_refl _) (by simp)
  have hz1' : w.heap.size < w1.heap.size := by
    rcases hown'.2 with ⟨h, _⟩ | ⟨g, cap, cur, h, _, hg, _⟩
    · cases h
    · injection h with h; injection h with h; injection h with h; subst h; exact (Array.getElem?_eq_some_iff.1 hg).1
  clear hown hgrow
  go_wp2_with fail
  go_loopw [4] (fun i wr => ∃ (k : Nat) (gs : List WinS), k ≤ n ∧ i = .int .i64 k ∧ wr.ownsRow w.heap.size 142 5 (.slice (some ⟨w.heap.size, 0, none⟩) n n) n (partWin gs n k) ∧ Hid (gs.map WinS.data = (ps.take k).map WinS.data) ∧ OwnWs wr (w.heap.size + 1) gs ∧ Below w.heap.size w wr ∧ w.heap.size < wr.heap.size) (fun i _ => n - (intOf i).toNat)
  case atStart => exact ⟨0, [], Nat.zero_le _, rfl, hown', Lib.hid rfl, OwnWs.nil, hb1, hz1'⟩
  case round =>
    obtain ⟨k, gs, hk, rfl, ho, HK, hbs, hb, hzr⟩ := hrel
    clear hown' hb1 hz1'
    have hz : w.heap.size ≤ wr.heap.size := hb.size
    by_cases hlt : k < n
    · have hlt' : k < ps.length := by rw [HL.out]; exact hlt
      obtain ⟨b, o, rfl, hB, hsg0⟩ := rdK_seg (L := winL) (fun _ => rfl) (HR.out.below (Nat.le_refl _) hb) hlt'
      have HB := Lib.hid hb
      have HBS := Lib.hid hbs
      have HRb := Lib.hid (((HP.out _ (List.getElem_mem hlt')).below (Nat.le_refl _) hb).more hz)
      have HSn := Lib.hid (HS.out _ (List.getElem_mem hlt'))
      have HGL := Lib.hid (show (gs.map winL).length = k by
        have := congrArg List.length HK.out
        rw [List.length_map, List.length_map, List.length_take] at this
        rw [List.length_map]; omega)
      have HPO := Lib.hid (show partWin gs n k = (gs.map winL ++ [zWin] ++ List.replicate (n - (k + 1)) zWin).flatten by
        unfold partWin; rw [rep_flat zWin n k hlt, ← List.append_assoc])
      have HKN := Lib.hid (show (ps.take (k + 1)).map WinS.data = (ps.take k).map WinS.data ++ [ps[k].data] by
        rw [List.take_succ_eq_append_getElem hlt', List.map_append]; rfl)
      have HO := Lib.hid ho
      have hsg : seg wr b (o + k * 5) 5 = winA ps[k] := hsg0
      clear hb ho hbs hsg0
      generalize ps[k] = p at *
      go_wp2_with fail
      refine (toWin_any p _ HRb.out HSn.out).mono ?_
      rintro e v ⟨p1, rfl, ho1, hd1, hb1⟩
      have HOv := Lib.hid (own_belowK HO.out (Nat.le_refl _) hb1)
      have HBv := Lib.hid (HB.out.trans (hb1.mono hz))
      have hzv : w.heap.size < v.heap.size := by have := hb1.size; omega
      have HPV := Lib.hid (own_put (K := 5) (z := zWin) rfl (win_len gs) k HGL.out (winA p1) rfl (by have h := HOv.out; rw [HPO.out] at h; exact h))
      have rm : Room v w.heap.size (k * 5) 5 := HPV.out.2
      have HBSv := Lib.hid ((HBS.out.below (Nat.le_refl _) hb1).snoc (mid := wr.heap.size) (fun q hq i hi => ((HBS.out.1 q hq).blk i hi).2) ho1 (by omega))
      have HK2 := Lib.hid (show (gs ++ [p1]).map WinS.data = (ps.take (k + 1)).map WinS.data by
        rw [List.map_append, HK.out, HKN.out, ← hd1]; rfl)
      have HN := Lib.hid (show (v.setRow w.heap.size (put (rowOf v w.heap.size) (k * 5) (winA p1))).ownsRow w.heap.size 142 5 (.slice (some ⟨w.heap.size, 0, none⟩) n n) n (partWin (gs ++ [p1]) n (k + 1)) by
        have h := HPV.out.1
        unfold partWin; rw [List.map_append]; exact h)
      clear hb1 ho1 hd1 hsg
      go_wp2_with fail
      exact ⟨⟨k + 1, gs ++ [p1], by omega, by go_num, HN.out, HK2, HBSv.out.row_ _ _ (by omega), below_setRow HBv.out (Nat.le_refl _) _, by simp; exact hzv⟩, by simp [intOf]; omega⟩
    · obtain rfl : n = k := by omega
      have hK := HK.out
      rw [List.take_of_length_le (by rw [HL.out]; exact Nat.le_refl _)] at hK
      have HK2 := Lib.hid hK
      have e2 : partWin gs n n = (gs.map winL).flatten := by unfold partWin; simp
      rw [e2] at ho
      have HO := Lib.hid ho
      have HBS := Lib.hid (hbs.more (base' := w.heap.size) (by omega))
      have HB := Lib.hid hb
      clear ho hbs hb hK e2
      go_wp2_with fail
      go_ret
      exact ⟨_, _, gs, rfl, HO.out, HK2.out, HBS.out, HB.out⟩
set_option maxRecDepth 100000 in
set_option maxHeartbeats 1600000 in
theorem szWinS_any (A : Option Addr) (n c : Nat) (ps : List WinS) (left : Int) (w : World) (hr : RdK 5 w w.heap.size A (ps.map winL)) (hl : ps.length = n) (hp : RdWs w w.heap.size ps) (hn : n ≤ 9223372036854775807) (hcn : ∀ p ∈ ps, LenW p) (h0 : 0 ≤ left) (h1 : left ≤ 1048576) :
    Calls Try.prog 98 #[.slice A n c, .int .i64 left] w (Sc.Left left (n + sumN szW ps) w.heap.size w) := by
  have HL := Lib.hid hl
  have HR := Lib.hid hr
  have HP := Lib.hid hp
  have HFN := Lib.hid hcn
  clear hl hr hcn hp
  by_cases h : left < (n : Int)
  · have h2 : left - (n : Int) < 0 := by omega
    go_enter Try.func98, Try.ntmps98
    go_wp2_with fail
    go_ret
    exact ⟨-1, rfl, .inl rfl, Below.refl _ _⟩
  have h2 : 0 ≤ left - (n : Int) := by omega
  go_enter Try.func98, Try.ntmps98
  go_wp2_with fail
  go_loopw [1, 5] (fun m i wr => ∃ (k : Nat) (z : Int), k ≤ n ∧ i = .int .i64 k ∧ m = .int .i64 z ∧ 0 ≤ z ∧ z = left - n - sumN szW (ps.take k) ∧ Below w.heap.size w wr) (fun _ i _ => n - (intOf i).toNat)
  case atStart => exact ⟨0, left - n, Nat.zero_le _, rfl, rfl, h2, by simp [sumN], Below.refl _ _⟩
  case round =>
    obtain ⟨k, z, hk, rfl, rfl, hz0, hze, hb⟩ := hrel
    have HZE := Lib.hid hze
    have hz1 : z ≤ 1048576 := by omega
    clear hze
    have hz : w.heap.size ≤ wr.heap.size := hb.size
    by_cases hlt : k < n
    · have hlt' : k < ps.length := by rw [HL.out]; exact hlt
      obtain ⟨b, o, rfl, hB, hsg0⟩ := rdK_seg (L := winL) (fun _ => rfl) (HR.out.below (Nat.le_refl _) hb) hlt'
      have HB := Lib.hid hb
      have HSn := Lib.hid (HFN.out _ (List.getElem_mem hlt'))
      have HRb := Lib.hid (((HP.out _ (List.getElem_mem hlt')).below (Nat.le_refl _) hb).more hz)
      have HT := Lib.hid (sumN_take szW ps k hlt')
      have hsg : seg wr b (o + k * 5) 5 = winA ps[k] := hsg0
      clear hb hsg0
      generalize ps[k] = p at *
      go_wp2_with fail
      refine (szWin_any p z _ HSn.out hz0 hz1).mono ?_
      rintro e v ⟨r, rfl, hr, hb1⟩
      have HBv := Lib.hid (HB.out.trans (hb1.mono hz))
      clear hb1 hsg
      rcases hr with rfl | ⟨hr0, hr1⟩
      · go_wp2_with fail
        go_ret
        exact ⟨-1, rfl, .inl rfl, HBv.out⟩
      · have HR1 := Lib.hid hr1
        clear hr1
        go_wp2_with fail
        exact ⟨⟨k + 1, r, by omega, by go_num, rfl, hr0, by have := HR1.out; have := HZE.out; have := HT.out; omega, HBv.out⟩, by simp [intOf]; omega⟩
    · obtain rfl : n = k := by omega
      have HZ2 := Lib.hid (show z = left - n - sumN szW ps by
        have := HZE.out
        rw [List.take_of_length_le (by rw [HL.out]; exact Nat.le_refl _)] at this
        exact this)
      go_wp2_with fail
      go_ret
      exact ⟨z, rfl, .inr ⟨hz0, by have := HZ2.out; omega⟩, hb⟩
set_option maxRecDepth 100000 in
set_option maxHeartbeats 1600000 in
theorem eqWinS_yes (A A' : Option Addr) (n c c' : Nat) (ps qs : List WinS) (w : World) (hr : RdK 5 w w.heap.size A (ps.map winL)) (hr' : RdK 5 w w.heap.size A' (qs.map winL)) (hp : RdWs w w.heap.size ps) (hp' : RdWs w w.heap.size qs) (he : qs.map WinS.data = ps.map WinS.data) (hl : ps.length = n) (hn : n ≤ 1048576) (hs : ∀ p ∈ ps, p.tree.length ≤ 1048576) :
    Calls Try.prog 106 #[.slice A n c, .slice A' n c'] w fun e w' => e = .returned (.bool true) ∧ Below w.heap.size w w' := by
  have HL := Lib.hid hl
  have HL' := Lib.hid (show qs.length = n by rw [map_len he]; exact hl)
  have HR := Lib.hid hr
  have HR' := Lib.hid hr'
  have HS := Lib.hid hs
  have HE := Lib.hid he
  have HPA := Lib.hid (fun W (h : Below w.heap.size w W) => (hp.below (Nat.le_refl _) h).more h.size)
  have HPB := Lib.hid (fun W (h : Below w.heap.size w W) => (hp'.below (Nat.le_refl _) h).more h.size)
  have hnn : (n != n) = false := by simp
  clear hl hr hr' hp hp' hs he
  go_enter Try.func106, Try.ntmps106
  go_wp2_with fail
  go_loopw [5] (fun i wr => ∃ k : Nat, k ≤ n ∧ i = .int .i64 k ∧ Below w.heap.size w wr) (fun i _ => n - (intOf i).toNat)
  case atStart => exact ⟨0, Nat.zero_le _, rfl, Below.refl _ _⟩
  case round =>
    obtain ⟨k, hk, rfl, hb⟩ := hrel
    have hz : w.heap.size ≤ wr.heap.size := hb.size
    by_cases hlt : k < n
    · have hl1 : k < ps.length := by rw [HL.out]; exact hlt
      have hl2 : k < qs.length := by rw [HL'.out]; exact hlt
      obtain ⟨b, o, rfl, hB, hsg0⟩ := rdK_seg (L := winL) (fun _ => rfl) (HR.out.below (Nat.le_refl _) hb) hl1
      obtain ⟨b', o', rfl, hB', hsg1⟩ := rdK_seg (L := winL) (fun _ => rfl) (HR'.out.below (Nat.le_refl _) hb) hl2
      have HB := Lib.hid hb
      have HSn := Lib.hid (HS.out _ (List.getElem_mem hl1))
      have HEn := Lib.hid (map_at HE.out k hl1 hl2)
      have HPa := Lib.hid (fun W (h : Below w.heap.size w W) => HPA.out W h _ (List.getElem_mem hl1))
      have HPb := Lib.hid (fun W (h : Below w.heap.size w W) => HPB.out W h _ (List.getElem_mem hl2))
      have hsa : seg wr b (o + k * 5) 5 = winA ps[k] := hsg0
      have hsb : seg wr b' (o' + k * 5) 5 = winA qs[k] := hsg1
      clear hb hsg0 hsg1
      generalize ps[k] = p at *
      generalize qs[k] = q at *
      go_wp2_with fail
      go_region_with ((go_at_call 157; refine (eqWin_yes p q _ (HPa.out _ (by first | exact HB.out | exact ⟨HB.out.os, HB.out.tape, HB.out.output, HB.out.size, HB.out.block⟩)) (HPb.out _ (by first | exact HB.out | exact ⟨HB.out.os, HB.out.tape, HB.out.output, HB.out.size, HB.out.block⟩)) HEn.out HSn.out).mono ?_; rintro e v1 ⟨rfl, hb1'⟩; have hb1 : Below wr.heap.size wr v1 := undrew hb1'; clear hb1'))
      all_goals
        have HB1 := Lib.hid (HB.out.trans (hb1.mono hz))
        clear hb1
        go_wp2_with fail
        exact ⟨⟨k + 1, by omega, by go_num, HB1.out⟩, by simp [intOf]; omega⟩
    · obtain rfl : n = k := by omega
      go_wp2_with fail
      go_ret
      exact ⟨rfl, hb⟩
def zSess : List Value := [.string ByteArray.empty, .slice none 0 0, .int .i64 0]
theorem infoSess : (Try.prog.info? 146).map (fun i => (i.zero, i.size, i.bytes)) = some (some (.agg #[.string ByteArray.empty, .slice none 0 0, .int .i64 0]), 3, 48) := by kernel_rfl
def partSess (gs : List SessS) (n k : Nat) : List Value := (gs.map sessL ++ List.replicate (n - k) zSess).flatten
set_option maxRecDepth 100000 in
set_option maxHeartbeats 1600000 in
theorem toSessS_any (A : Option Addr) (n c : Nat) (ps : List SessS) (w : World) (hr : RdK 3 w w.heap.size A (ps.map sessL)) (hl : ps.length = n) (hp : RdEs w w.heap.size ps) (hn : n ≤ 1048576) (hs : ∀ p ∈ ps, p.wins.length ≤ 1048576) :
    Calls Try.prog 102 #[.slice A n c] w fun e w' => ∃ A' c' gs, e = .returned (.slice A' n c') ∧ w'.ownsRow w.heap.size 146 3 (.slice A' n c') n (gs.map sessL).flatten ∧ gs.map SessS.data = ps.map SessS.data ∧ OwnEs w' w.heap.size gs ∧ Below w.heap.size w w' := by
  obtain ⟨i0, hi, hz0, hz1, hz2⟩ := info_parts infoSess
  have hm : n ≤ maxLen := by unfold maxLen; omega
  have HL := Lib.hid hl
  have HR := Lib.hid hr
  have HP := Lib.hid hp
  have HS := Lib.hid hs
  clear hl hr hp hs
  go_enter Try.func102, Try.ntmps102
  go_wp2_with (at_make; refine wpList_make_full _ rfl _ _ 79 rfl w.heap.size 146 i0 (.agg #[.string ByteArray.empty, .slice none 0 0, .int .i64 0]) 3 Try.underlying79 hi hz0 hz1 _ _ _ _ n rfl rfl rfl rfl ?c1 hm (Nat.le_refl _) ?_)
  case c1 => first | omega | (rw [hz2]; omega)
  intro w1 hown hgrow
  have hown' : w1.ownsRow w.heap.size 146 3 (.slice (some ⟨w.heap.size, 0, none⟩) n n) n (partSess [] n 0) := by
    rw [made_flat _ 3 n rfl (by omega)] at hown
    exact hown
  have hb1 : Below w.heap.size w w1 := (Below.refl _ _).grown hgrow (Nat.le_refl _) (by simp)
  have hz1' : w.heap.size < w1.heap.size := by
    rcases hown'.2 with ⟨h, _⟩ | ⟨g, cap, cur, h, _, hg, _⟩
    · cases h
    · injection h with h; injection h with h; injection h with h; subst h; exact (Array.getElem?_eq_some_iff.1 hg).1
  clear hown hgrow
  go_wp2_with fail
  go_loopw [4] (fun i wr => ∃ (k : Nat) (gs : List SessS), k ≤ n ∧ i = .int .i64 k ∧ wr.ownsRow w.heap.size 146 3 (.slice (some ⟨w.heap.size, 0, none⟩) n n) n (partSess gs n k) ∧ Hid (gs.map SessS.data = (ps.take k).map SessS.data) ∧ OwnEs wr (w.heap.size + 1) gs ∧ Below w.heap.size w wr ∧ w.heap.size < wr.heap.size) (fun i _ => n - (intOf i).toNat)
  case atStart => exact ⟨0, [], Nat.zero_le _, rfl, hown', Lib.hid rfl, OwnEs.nil, hb1, hz1'⟩
  case round =>
    obtain ⟨k, gs, hk, rfl, ho, HK, hbs, hb, hzr⟩ := hrel
    clear hown' hb1 hz1'
    have hz : w.heap.size ≤ wr.heap.size := hb.size
    by_cases hlt : k < n
    · have hlt' : k < ps.length := by rw [HL.out]; exact hlt
      obtain ⟨b, o, rfl, hB, hsg0⟩ := rdK_seg (L := sessL) (fun _ => rfl) (HR.out.below (Nat.le_refl _) hb) hlt'
      have HB := Lib.hid hb
      have HBS := Lib.hid hbs
      have HRb := Lib.hid (((HP.out _ (List.getElem_mem hlt')).below (Nat.le_refl _) hb).more hz)
      have HSn := Lib.hid (HS.out _ (List.getElem_mem hlt'))
      have HGL := Lib.hid (show (gs.map sessL).length = k by
        have := congrArg List.length HK.out
        rw [List.length_map, List.length_map, List.length_take] at this
        rw [List.length_map]; omega)
      have HPO := Lib.hid (show partSess gs n k = (gs.map sessL ++ [zSess] ++ List.replicate (n - (k + 1)) zSess).flatten by
        unfold partSess; rw [rep_flat zSess n k hlt, ← List.append_assoc])
      have HKN := Lib.hid (show (ps.take (k + 1)).map SessS.data = (ps.take k).map SessS.data ++ [ps[k].data] by
        rw [List.take_succ_eq_append_getElem hlt', List.map_append]; rfl)
      have HO := Lib.hid ho
      have hsg : seg wr b (o + k * 3) 3 = sessA ps[k] := hsg0
      clear hb ho hbs hsg0
      generalize ps[k] = p at *
      go_wp2_with fail
      refine (toSess_any p _ HRb.out HSn.out).mono ?_
      rintro e v ⟨p1, rfl, ho1, hd1, hb1⟩
      have HOv := Lib.hid (own_belowK HO.out (Nat.le_refl _) hb1)
      have HBv := Lib.hid (HB.out.trans (hb1.mono hz))
      have hzv : w.heap.size < v.heap.size := by have := hb1.size; omega
      have HPV := Lib.hid (own_put (K := 3) (z := zSess) rfl (sess_len gs) k HGL.out (sessA p1) rfl (by have h := HOv.out; rw [HPO.out] at h; exact h))
      have rm : Room v w.heap.size (k * 3) 3 := HPV.out.2
      have HBSv := Lib.hid ((HBS.out.below (Nat.le_refl _) hb1).snoc (mid := wr.heap.size) (fun q hq i hi => ((HBS.out.1 q hq).blk i hi).2) ho1 (by omega))
      have HK2 := Lib.hid (show (gs ++ [p1]).map SessS.data = (ps.take (k + 1)).map SessS.data by
        rw [List.map_append, HK.out, HKN.out, ← hd1]; rfl)
      have HN := Lib.hid (show (v.setRow w.heap.size (put (rowOf v w.heap.size) (k * 3) (sessA p1))).ownsRow w.heap.size 146 3 (.slice (some ⟨w.heap.size, 0, none⟩) n n) n (partSess (gs ++ [p1]) n (k + 1)) by
        have h := HPV.out.1
        unfold partSess; rw [List.map_append]; exact h)
      clear hb1 ho1 hd1 hsg
      go_wp2_with fail
      exact ⟨⟨k + 1, gs ++ [p1], by omega, by go_num, HN.out, HK2, HBSv.out.row_ _ _ (by omega), below_setRow HBv.out (Nat.le_refl _) _, by simp; exact hzv⟩, by simp [intOf]; omega⟩
    · obtain rfl : n = k := by omega
      have hK := HK.out
      rw [List.take_of_length_le (by rw [HL.out]; exact Nat.le_refl _)] at hK
      have HK2 := Lib.hid hK
      have e2 : partSess gs n n = (gs.map sessL).flatten := by unfold partSess; simp
      rw [e2] at ho
      have HO := Lib.hid ho
      have HBS := Lib.hid (hbs.more (base' := w.heap.size) (by omega))
      have HB := Lib.hid hb
      clear ho hbs hb hK e2
      go_wp2_with fail
      go_ret
      exact ⟨_, _, gs, rfl, HO.out, HK2.out, HBS.out, HB.out⟩
set_option maxRecDepth 100000 in
set_option maxHeartbeats 1600000 in
theorem szSessS_any (A : Option Addr) (n c : Nat) (ps : List SessS) (left : Int) (w : World) (hr : RdK 3 w w.heap.size A (ps.map sessL)) (hl : ps.length = n) (hp : RdEs w w.heap.size ps) (hn : n ≤ 9223372036854775807) (hcn : ∀ p ∈ ps, LenE p) (h0 : 0 ≤ left) (h1 : left ≤ 1048576) :
    Calls Try.prog 99 #[.slice A n c, .int .i64 left] w (Sc.Left left (n + sumN szE ps) w.heap.size w) := by
  have HL := Lib.hid hl
  have HR := Lib.hid hr
  have HP := Lib.hid hp
  have HFN := Lib.hid hcn
  clear hl hr hcn hp
  by_cases h : left < (n : Int)
  · have h2 : left - (n : Int) < 0 := by omega
    go_enter Try.func99, Try.ntmps99
    go_wp2_with fail
    go_ret
    exact ⟨-1, rfl, .inl rfl, Below.refl _ _⟩
  have h2 : 0 ≤ left - (n : Int) := by omega
  go_enter Try.func99, Try.ntmps99
  go_wp2_with fail
  go_loopw [1, 5] (fun m i wr => ∃ (k : Nat) (z : Int), k ≤ n ∧ i = .int .i64 k ∧ m = .int .i64 z ∧ 0 ≤ z ∧ z = left - n - sumN szE (ps.take k) ∧ Below w.heap.size w wr) (fun _ i _ => n - (intOf i).toNat)
  case atStart => exact ⟨0, left - n, Nat.zero_le _, rfl, rfl, h2, by simp [sumN], Below.refl _ _⟩
  case round =>
    obtain ⟨k, z, hk, rfl, rfl, hz0, hze, hb⟩ := hrel
    have HZE := Lib.hid hze
    have hz1 : z ≤ 1048576 := by omega
    clear hze
    have hz : w.heap.size ≤ wr.heap.size := hb.size
    by_cases hlt : k < n
    · have hlt' : k < ps.length := by rw [HL.out]; exact hlt
      obtain ⟨b, o, rfl, hB, hsg0⟩ := rdK_seg (L := sessL) (fun _ => rfl) (HR.out.below (Nat.le_refl _) hb) hlt'
      have HB := Lib.hid hb
      have HSn := Lib.hid (HFN.out _ (List.getElem_mem hlt'))
      have HRb := Lib.hid (((HP.out _ (List.getElem_mem hlt')).below (Nat.le_refl _) hb).more hz)
      have HT := Lib.hid (sumN_take szE ps k hlt')
      have hsg : seg wr b (o + k * 3) 3 = sessA ps[k] := hsg0
      clear hb hsg0
      generalize ps[k] = p at *
      go_wp2_with fail
      refine (szSess_any p z _ HSn.out hz0 hz1).mono ?_
      rintro e v ⟨r, rfl, hr, hb1⟩
      have HBv := Lib.hid (HB.out.trans (hb1.mono hz))
      clear hb1 hsg
      rcases hr with rfl | ⟨hr0, hr1⟩
      · go_wp2_with fail
        go_ret
        exact ⟨-1, rfl, .inl rfl, HBv.out⟩
      · have HR1 := Lib.hid hr1
        clear hr1
        go_wp2_with fail
        exact ⟨⟨k + 1, r, by omega, by go_num, rfl, hr0, by have := HR1.out; have := HZE.out; have := HT.out; omega, HBv.out⟩, by simp [intOf]; omega⟩
    · obtain rfl : n = k := by omega
      have HZ2 := Lib.hid (show z = left - n - sumN szE ps by
        have := HZE.out
        rw [List.take_of_length_le (by rw [HL.out]; exact Nat.le_refl _)] at this
        exact this)
      go_wp2_with fail
      go_ret
      exact ⟨z, rfl, .inr ⟨hz0, by have := HZ2.out; omega⟩, hb⟩
set_option maxRecDepth 100000 in
set_option maxHeartbeats 1600000 in
theorem eqSessS_yes (A A' : Option Addr) (n c c' : Nat) (ps qs : List SessS) (w : World) (hr : RdK 3 w w.heap.size A (ps.map sessL)) (hr' : RdK 3 w w.heap.size A' (qs.map sessL)) (hp : RdEs w w.heap.size ps) (hp' : RdEs w w.heap.size qs) (he : qs.map SessS.data = ps.map SessS.data) (hl : ps.length = n) (hn : n ≤ 1048576) (hs : ∀ p ∈ ps, p.wins.length ≤ 1048576) :
    Calls Try.prog 107 #[.slice A n c, .slice A' n c'] w fun e w' => e = .returned (.bool true) ∧ Below w.heap.size w w' := by
  have HL := Lib.hid hl
  have HL' := Lib.hid (show qs.length = n by rw [map_len he]; exact hl)
  have HR := Lib.hid hr
  have HR' := Lib.hid hr'
  have HS := Lib.hid hs
  have HE := Lib.hid he
  have HPA := Lib.hid (fun W (h : Below w.heap.size w W) => (hp.below (Nat.le_refl _) h).more h.size)
  have HPB := Lib.hid (fun W (h : Below w.heap.size w W) => (hp'.below (Nat.le_refl _) h).more h.size)
  have hnn : (n != n) = false := by simp
  clear hl hr hr' hp hp' hs he
  go_enter Try.func107, Try.ntmps107
  go_wp2_with fail
  go_loopw [5] (fun i wr => ∃ k : Nat, k ≤ n ∧ i = .int .i64 k ∧ Below w.heap.size w wr) (fun i _ => n - (intOf i).toNat)
  case atStart => exact ⟨0, Nat.zero_le _, rfl, Below.refl _ _⟩
  case round =>
    obtain ⟨k, hk, rfl, hb⟩ := hrel
    have hz : w.heap.size ≤ wr.heap.size := hb.size
    by_cases hlt : k < n
    · have hl1 : k < ps.length := by rw [HL.out]; exact hlt
      have hl2 : k < qs.length := by rw [HL'.out]; exact hlt
      obtain ⟨b, o, rfl, hB, hsg0⟩ := rdK_seg (L := sessL) (fun _ => rfl) (HR.out.below (Nat.le_refl _) hb) hl1
      obtain ⟨b', o', rfl, hB', hsg1⟩ := rdK_seg (L := sessL) (fun _ => rfl) (HR'.out.below (Nat.le_refl _) hb) hl2
      have HB := Lib.hid hb
      have HSn := Lib.hid (HS.out _ (List.getElem_mem hl1))
      have HEn := Lib.hid (map_at HE.out k hl1 hl2)
      have HPa := Lib.hid (fun W (h : Below w.heap.size w W) => HPA.out W h _ (List.getElem_mem hl1))
      have HPb := Lib.hid (fun W (h : Below w.heap.size w W) => HPB.out W h _ (List.getElem_mem hl2))
      have hsa : seg wr b (o + k * 3) 3 = sessA ps[k] := hsg0
      have hsb : seg wr b' (o' + k * 3) 3 = sessA qs[k] := hsg1
      clear hb hsg0 hsg1
      generalize ps[k] = p at *
      generalize qs[k] = q at *
      go_wp2_with fail
      go_region_with ((go_at_call 158; refine (eqSess_yes p q _ (HPa.out _ (by first | exact HB.out | exact ⟨HB.out.os, HB.out.tape, HB.out.output, HB.out.size, HB.out.block⟩)) (HPb.out _ (by first | exact HB.out | exact ⟨HB.out.os, HB.out.tape, HB.out.output, HB.out.size, HB.out.block⟩)) HEn.out HSn.out).mono ?_; rintro e v1 ⟨rfl, hb1'⟩; have hb1 : Below wr.heap.size wr v1 := undrew hb1'; clear hb1'))
      all_goals
        have HB1 := Lib.hid (HB.out.trans (hb1.mono hz))
        clear hb1
        go_wp2_with fail
        exact ⟨⟨k + 1, by omega, by go_num, HB1.out⟩, by simp [intOf]; omega⟩
    · obtain rfl : n = k := by omega
      go_wp2_with fail
      go_ret
      exact ⟨rfl, hb⟩
end Go.Proofs.Ytkinkdgnephcbaa.St
