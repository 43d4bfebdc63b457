/- The program's parser: VpBytes in the program. -/
import Derived.Test.YtfdbmhelcmifoaaDoorKitB
import Derived.Deep.RegionWith
import Derived.Deep.DrawnRows
namespace Go.Proofs.YtfdbmhelcmifoaaDoor.Vp
open Go.RowKit Go.Proofs.YtfdbmhelcmifoaaDoor.Bytes Go.Proofs.YtfdbmhelcmifoaaDoor.DOk Go.Proofs.YtfdbmhelcmifoaaDoor.Rune Go.Proofs.YtfdbmhelcmifoaaDoor.RowK Go.Proofs.YtfdbmhelcmifoaaDoor.Gr
set_option linter.unusedVariables false
attribute [local go_sem ↓] Go.wp_at_zero Go.wp_at_succ
/-- what VpBytes answers -/
def AnsBs (w : World) (s' : VS) (as_ : List AS) (e : Ending) (w' : World) : Prop :=
  ∃ A' na' ca' P' np' cp' F n c ds, e = .returned (.tuple #[.agg #[.int .i64 s'.st, .bool s'.q, .slice A' na' ca', .slice P' np' cp'], .slice F n c]) ∧ OwnI w' w.heap.size A' na' ca' s'.zs ∧ Own w' w.heap.size P' np' cp' s'.bs ∧ OwnF4 w' w.heap.size F n c ds ∧ OwnAs w' w.heap.size ds ∧ ds.map ActD.a = as_ ∧ (∀ d ∈ ds, ∀ i, Blk d.A d.n d.c i → ¬ Blk A' na' ca' i) ∧ Below w.heap.size w w'
set_option maxRecDepth 100000 in
set_option maxHeartbeats 1600000 in
theorem impl_VpBytes_bad (st : Int) (mk : Bool) (A : Option Addr) (na ca : Nat) (zs : List Int) (P : Option Addr) (np cp : Nat) (bs : List Int) (Y : Option Addr) (ny cy : Nat) (ys : List Int) (w : World) (hT : Dec.Tabs8 w) (hr : RdI w w.heap.size A zs) (hA : A = none → na = 0 ∧ ca = 0) (hl : zs.length = na) (hn : na ≤ 1048576) (hp : Rd w w.heap.size P bs) (hP : P = none → np = 0 ∧ cp = 0) (hg : Rng bs) (hpl : bs.length = np) (hpn : np ≤ 1048576) (hy : Rd w w.heap.size Y ys) (hyl : ys.length = ny) (hyn : ny ≤ 1000000000) (hyr : Rng ys) (hok : okVp st mk zs bs = false) :
    Calls Tryd.prog 23 #[.agg #[.int .i64 st, .bool mk, .slice A na ca, .slice P np cp], .slice Y ny cy] w (AnsBs w vz []) := by
  have HW0 := Lib.hid (show Below w.heap.size w ((w.alloc (.cells #[.int .i64 st, .bool mk, .slice A na ca, .slice P np cp] 38)).alloc (.cells #[.int .i64 0, .bool false, .slice none 0 0, .slice none 0 0] 38)) from ((Below.refl _ _).alloc (Nat.le_refl _) _).alloc (by simp) _)
  have HV := Lib.hid (show BoxV ((w.alloc (.cells #[.int .i64 st, .bool mk, .slice A na ca, .slice P np cp] 38)).alloc (.cells #[.int .i64 0, .bool false, .slice none 0 0, .slice none 0 0] 38)) w.heap.size #[.int .i64 st, .bool mk, .slice A na ca, .slice P np cp] from (BoxV.new w _).below ((Below.refl _ _).alloc (Nat.le_refl _) _) (by simp))
  have HV1 := Lib.hid (show BoxV ((w.alloc (.cells #[.int .i64 st, .bool mk, .slice A na ca, .slice P np cp] 38)).alloc (.cells #[.int .i64 0, .bool false, .slice none 0 0, .slice none 0 0] 38)) (w.heap.size + 1) #[.int .i64 0, .bool false, .slice none 0 0, .slice none 0 0] from by have h := BoxV.new (w.alloc (.cells #[.int .i64 st, .bool mk, .slice A na ca, .slice P np cp] 38)) #[.int .i64 0, .bool false, .slice none 0 0, .slice none 0 0]; simp only [World.size_alloc] at h; exact h)
  have HC := impl_VpOk_any st mk A na ca zs P np cp bs ((w.alloc (.cells #[.int .i64 st, .bool mk, .slice A na ca, .slice P np cp] 38)).alloc (.cells #[.int .i64 0, .bool false, .slice none 0 0, .slice none 0 0] 38)) (tabs_below hT HW0.out) ((hr.below (Nat.le_refl _) HW0.out).more HW0.out.size) hl (by omega) ((hp.below (Nat.le_refl _) HW0.out).more HW0.out.size) hg hpl (by omega)
  rw [hok] at HC
  have HC := Lib.hid HC
  clear hT hr hA hl hn hp hP hg hpl hpn hy hyl hyn hyr hok
  go_enter Tryd.func23, Tryd.ntmps23
  go_wp2_with fail
  refine HC.out.mono ?_
  rintro e w1 ⟨rfl, hb1⟩
  have HW1 := Lib.hid (HW0.out.trans (hb1.mono (by simp <;> omega)))
  have v1 := HV1.out.below hb1 (by simp <;> omega)
  have v0 := HV.out.below hb1 (by simp <;> omega)
  have hz1 : w.heap.size + 1 < w1.heap.size := by have := hb1.size; simp at this; omega
  have x0 : w1.cell? ⟨w.heap.size + 1, 0, none⟩ = some (.int .i64 0) := v1.cell 0
  have x1 : w1.cell? ⟨w.heap.size + 1, 1, none⟩ = some (.bool false) := v1.cell 1
  have x2 : w1.cell? ⟨w.heap.size + 1, 2, none⟩ = some (.slice none 0 0) := v1.cell 2
  have x3 : w1.cell? ⟨w.heap.size + 1, 3, none⟩ = some (.slice none 0 0) := v1.cell 3
  have f0 := v1.free 0
  have f1 := v1.free 1
  have f2 := v1.free 2
  have f3 := v1.free 3
  clear v0 v1 hb1
  go_wp2_with fail
  refine bodyPost_ret (v := .tuple #[.agg #[.int .i64 0, .bool false, .slice none 0 0, .slice none 0 0], .slice none 0 0]) (by simp [results, Tryd.results23, go_sem, x0, x1, x2, x3]) rfl ?_
  exact ⟨none, 0, 0, none, 0, 0, none, 0, 0, [], rfl, ownI_nil _ _, own_nil _ _, ownF4_nil _ _, OwnAs.nil _ _, rfl, by simp, below_put4 HW1.out (by omega) _ _ _ _⟩
set_option maxRecDepth 100000 in
set_option maxHeartbeats 1600000 in
theorem impl_VpBytes_ok (st : Int) (mk : Bool) (A : Option Addr) (na ca : Nat) (zs : List Int) (P : Option Addr) (np cp : Nat) (bs : List Int) (Y : Option Addr) (ny cy : Nat) (ys : List Int) (w : World) (hT : Dec.Tabs8 w) (hr : RdI w w.heap.size A zs) (hA : A = none → na = 0 ∧ ca = 0) (hl : zs.length = na) (hn : na ≤ 1048576) (hp : Rd w w.heap.size P bs) (hP : P = none → np = 0 ∧ cp = 0) (hg : Rng bs) (hpl : bs.length = np) (hpn : np ≤ 1048576) (hy : Rd w w.heap.size Y ys) (hyl : ys.length = ny) (hyn : ny ≤ 1000000000) (hyr : Rng ys) (hok : okVp st mk zs bs = true) :
    Calls Tryd.prog 23 #[.agg #[.int .i64 st, .bool mk, .slice A na ca, .slice P np cp], .slice Y ny cy] w (AnsBs w (runV ⟨st, mk, zs, bs⟩ ys).1 (runV ⟨st, mk, zs, bs⟩ ys).2) := by
  have HW0 := Lib.hid (show Below w.heap.size w ((w.alloc (.cells #[.int .i64 st, .bool mk, .slice A na ca, .slice P np cp] 38)).alloc (.cells #[.int .i64 0, .bool false, .slice none 0 0, .slice none 0 0] 38)) from ((Below.refl _ _).alloc (Nat.le_refl _) _).alloc (by simp) _)
  have HV := Lib.hid (show BoxV ((w.alloc (.cells #[.int .i64 st, .bool mk, .slice A na ca, .slice P np cp] 38)).alloc (.cells #[.int .i64 0, .bool false, .slice none 0 0, .slice none 0 0] 38)) w.heap.size #[.int .i64 st, .bool mk, .slice A na ca, .slice P np cp] from (BoxV.new w _).below ((Below.refl _ _).alloc (Nat.le_refl _) _) (by simp))
  have HV1 := Lib.hid (show BoxV ((w.alloc (.cells #[.int .i64 st, .bool mk, .slice A na ca, .slice P np cp] 38)).alloc (.cells #[.int .i64 0, .bool false, .slice none 0 0, .slice none 0 0] 38)) (w.heap.size + 1) #[.int .i64 0, .bool false, .slice none 0 0, .slice none 0 0] from by have h := BoxV.new (w.alloc (.cells #[.int .i64 st, .bool mk, .slice A na ca, .slice P np cp] 38)) #[.int .i64 0, .bool false, .slice none 0 0, .slice none 0 0]; simp only [World.size_alloc] at h; exact h)
  have HC := impl_VpOk_any st mk A na ca zs P np cp bs ((w.alloc (.cells #[.int .i64 st, .bool mk, .slice A na ca, .slice P np cp] 38)).alloc (.cells #[.int .i64 0, .bool false, .slice none 0 0, .slice none 0 0] 38)) (tabs_below hT HW0.out) ((hr.below (Nat.le_refl _) HW0.out).more HW0.out.size) hl (by omega) ((hp.below (Nat.le_refl _) HW0.out).more HW0.out.size) hg hpl (by omega)
  rw [hok] at HC
  have HC := Lib.hid HC
  have HOK := Lib.hid (show VS.ok ⟨st, mk, zs, bs⟩ from ⟨hok, hg⟩)
  have hst : 0 ≤ st ∧ st ≤ 3 := by rcases ok_parts HOK.out with ⟨h, _⟩ | ⟨h, _⟩ | ⟨h, _⟩ <;> simp only at h <;> omega
  have HP := Lib.hid (fun W (h : Below w.heap.size w W) => newParser_any st hst mk A na ca zs P np cp bs W ((hr.below (Nat.le_refl _) h).more h.size) hA hl (by omega) ((hp.below (Nat.le_refl _) h).more h.size) hP hpl (by omega))
  have HT := Lib.hid (fun W (h : Below w.heap.size w W) => tabs_below hT h)
  obtain ⟨s, hs⟩ : ∃ s : VS, s = ⟨st, mk, zs, bs⟩ := ⟨_, rfl⟩
  rw [← hs] at HOK HP
  rw [← hs]
  have HYL := Lib.hid hyl
  have HYR := Lib.hid hyr
  have HY := Lib.hid hy
  clear hT hr hA hl hn hp hP hg hpl hpn hy hyl hyr hok hst hs
  go_enter Tryd.func23, Tryd.ntmps23
  go_wp2_with fail
  refine HC.out.mono ?_
  rintro e w1 ⟨rfl, hb1⟩
  have HW1 := Lib.hid (HW0.out.trans (hb1.mono (by simp <;> omega)))
  have v1 := HV1.out.below hb1 (by simp <;> omega)
  have v0 := HV.out.below hb1 (by simp <;> omega)
  have hz1 : w.heap.size + 1 < w1.heap.size := by have := hb1.size; simp at this; omega
  have HV0 := Lib.hid v0
  have HV2 := Lib.hid v1
  have y0 : w1.cell? ⟨w.heap.size, 0, none⟩ = some (.int .i64 st) := v0.cell 0
  have y1 : w1.cell? ⟨w.heap.size, 1, none⟩ = some (.bool mk) := v0.cell 1
  have y2 : w1.cell? ⟨w.heap.size, 2, none⟩ = some (.slice A na ca) := v0.cell 2
  have y3 : w1.cell? ⟨w.heap.size, 3, none⟩ = some (.slice P np cp) := v0.cell 3
  clear v0 v1 hb1
  go_wp2_with fail
  refine (HP.out _ HW1.out).mono ?_
  rintro e w2 ⟨g, A1, c1, P1, d1, rfl, hp2, hg2, hb2⟩
  have HP2 := Lib.hid hp2
  have HB2 := Lib.hid hb2
  have HV3 := Lib.hid (HV2.out.below hb2 (by omega))
  have HTW := Lib.hid (HT.out _ HW1.out)
  have hz2 : w1.heap.size ≤ w2.heap.size := hb2.size
  clear hp2 hb2 y0 y1 y2 y3
  go_wp2_with fail
  go_loopw [7, 19] (fun acts i wr => LoopI w1 w1.heap.size g s ys acts i wr) (fun _ i _ => ny - (intOf i).toNat)
  case atStart => exact ⟨0, A1, na, c1, P1, np, d1, none, 0, 0, [], Nat.zero_le _, rfl, rfl, HP2.out, ownF4_nil _ _, OwnAs.nil _ _, rfl, by simp, HB2.out⟩
  case round =>
    obtain ⟨k, A2, n2, c2, P2, p2, d2, F, n, c, ds, hk, rfl, rfl, hpa, h4, hAs, hm, hsp, hbw⟩ := hrel
    have HPA := Lib.hid hpa
    have H4 := Lib.hid h4
    have HAS := Lib.hid hAs
    have HM := Lib.hid hm
    have HSP := Lib.hid hsp
    have HBW := Lib.hid hbw
    have hzr : w1.heap.size ≤ wr.heap.size := hbw.size
    clear hpa h4 hAs hm hsp hbw
    by_cases hlt : k < ny
    · obtain ⟨bb, oo, hY, hyb, hyc⟩ := (HY.out.below (Nat.le_refl _) (HW1.out.trans (HBW.out.mono (by omega)))).at_ (k := k) (by rw [HYL.out]; exact hlt)
      subst hY
      have hyr := HYR.out.at_ k
      obtain ⟨y, hyy⟩ : ∃ y, y = ys.getD k 0 := ⟨_, rfl⟩
      rw [← hyy] at hyc hyr
      have hkl : k < ys.length := by rw [HYL.out]; exact hlt
      have hok' := runV_ok HOK.out (ys.take k) (fun z hz => HYR.out z (List.mem_of_mem_take hz))
      obtain ⟨r, hr9⟩ : ∃ r, r = stepV (runV s (ys.take k)).1 (ys.getD k 0) := ⟨_, rfl⟩
      have hrd := read_any g w1.heap.size _ A2 n2 c2 P2 p2 d2 y wr HPA.out ⟨w1, HTW.out, Nat.le_refl _, HBW.out⟩ hok' hzr hg2 hyr.1 (by omega)
      rw [hyy, ← hr9] at hrd
      rw [← hyy] at hrd
      have HRD := Lib.hid hrd
      have HR9 := Lib.hid hr9
      have HK9 := Lib.hid hkl
      have hy0 := hyr.1
      have hy1 := hyr.2
      clear hyr hok' hr9 hrd hyy hkl
      by_cases h0 : r.2.k = 0
      · have HZ := Lib.hid h0
        have hz0 : (r.2.k != 0) = false := by simp [h0]
        clear h0
        go_wp2_with fail
        refine HRD.out.mono ?_
        rintro e w3 ⟨A9, n9, c9, P9, p9, d9, A8, n8, c8, rfl, hp3, hi3, hfa, hfp, hf8, hap, hon⟩
        have HL := Lib.hid (fun o => loopI_keep HK9.out HPA.out H4.out HAS.out HM.out HSP.out HBW.out hzr hg2 HR9.out HZ.out hp3 hfa hon o)
        clear hp3 hi3 hfa hfp hf8 hap hon
        go_wp2_with fail
        exact ⟨HL.out _, by simp [intOf]; omega⟩
      · have HZ := Lib.hid h0
        have hz0 : (r.2.k != 0) = true := by simp [h0]
        clear h0
        go_wp2_with fail
        refine HRD.out.mono ?_
        rintro e w3 ⟨A9, n9, c9, P9, p9, d9, A8, n8, c8, rfl, hp3, hi3, hfa, hfp, hf8, hap, hon⟩
        have h5 := stepI HPA.out H4.out HAS.out HSP.out hon
        have H5 := Lib.hid (show OwnF4 (w3.alloc (.cells #[.int .i64 r.2.k, .int .i64 r.2.r, .bool r.2.q, .slice A8 n8 c8] 53)) w1.heap.size F n c ds from World.ownsRow.alloc h5.1 _)
        have hz3 : wr.heap.size ≤ w3.heap.size := hon.size
        have hnl : n ≤ 1000000000 := by have h1 := ownF4_len H4.out; have h2 := congrArg List.length HM.out; have h3 := runV_len (s := s) (ys.take k); simp at h2 h3; omega
        have HL := Lib.hid (fun F' c' w4 h7 hgr => loopI_app (F' := F') (c' := c') (w3 := w4) (o := .cells #[.int .i64 r.2.k, .int .i64 r.2.r, .bool r.2.q, .slice A8 n8 c8] 53) HK9.out HPA.out H4.out HAS.out HM.out HSP.out HBW.out hzr hg2 HR9.out HZ.out hp3 hi3 hfa hf8 hap hon h7 hgr)
        clear hp3 hi3 hfa hfp hf8 hap hon h5
        go_wp2_with (at_builtin; refine append_act (d := ⟨r.2.k, r.2.r, r.2.q, A8, n8, c8, r.2.zs⟩) rfl _ _ rfl rfl (w3.heap.size + 1) (by simp) rfl H5.out hnl (by simp; omega) ?_)
        intro F' c' w4 h7 hgr
        have HQ := Lib.hid (HL.out F' c' w4 h7 hgr)
        clear h7 hgr
        go_wp2_with fail
        exact ⟨HQ.out, by simp [intOf]; omega⟩
    · obtain rfl : k = ny := by have := HYL.out; omega
      have hpa := HPA.out
      have hm := HM.out
      rw [runV_all s ys HYL.out] at hpa hm
      obtain ⟨s', hs'⟩ : ∃ s', s' = (runV s ys).1 := ⟨_, rfl⟩
      obtain ⟨as_, has'⟩ : ∃ as_, as_ = (runV s ys).2 := ⟨_, rfl⟩
      rw [← hs'] at hpa
      rw [← has'] at hm
      have HPB := Lib.hid hpa
      have HMB := Lib.hid hm
      have HE1 := Lib.hid hs'
      have HE2 := Lib.hid has'
      have v1 := HV2.out.below HBW.out hz1
      have x0 : wr.cell? ⟨w.heap.size + 1, 0, none⟩ = some (.int .i64 0) := v1.cell 0
      have x1 : wr.cell? ⟨w.heap.size + 1, 1, none⟩ = some (.bool false) := v1.cell 1
      have x2 : wr.cell? ⟨w.heap.size + 1, 2, none⟩ = some (.slice none 0 0) := v1.cell 2
      have x3 : wr.cell? ⟨w.heap.size + 1, 3, none⟩ = some (.slice none 0 0) := v1.cell 3
      have f0 := v1.free 0
      have f1 := v1.free 1
      have f2 := v1.free 2
      have f3 := v1.free 3
      obtain ⟨⟨y0, y1, y2, y3, y4⟩, _⟩ := hpa.cells
      clear hpa hm hs' has' v1 HPA HM
      go_wp2_with fail
      refine bodyPost_ret (v := .tuple #[.agg #[.int .i64 s'.st, .bool s'.q, .slice A2 n2 c2, .slice P2 p2 d2], .slice F n c]) (by simp [results, Tryd.results23, go_sem, x0, x1, x2, x3]) rfl ?_
      have hB : w.heap.size ≤ w1.heap.size := by omega
      rw [← HE1.out, ← HE2.out]
      exact ⟨A2, n2, c2, P2, p2, d2, F, n, c, ds, rfl, own_moreK (own_put4 HPB.out.i hz1 _ _ _ _) hB, own_moreK (own_put4 HPB.out.b hz1 _ _ _ _) hB, own_moreK (own_put4 H4.out hz1 _ _ _ _) hB, ⟨fun d hd => own_moreK (own_put4 (HAS.out.own d hd) hz1 _ _ _ _) hB, HAS.out.sep⟩, HMB.out, HSP.out, below_put4 (HW1.out.trans (HBW.out.mono hB)) (by omega) _ _ _ _⟩
def vbsV (s : VS) (ys : List Int) : VS × List AS := if okVp s.st s.q s.zs s.bs = true then runV s ys else (vz, [])
theorem impl_VpBytes_any (st : Int) (mk : Bool) (A : Option Addr) (na ca : Nat) (zs : List Int) (P : Option Addr) (np cp : Nat) (bs : List Int) (Y : Option Addr) (ny cy : Nat) (ys : List Int) (w : World) (hT : Dec.Tabs8 w) (hr : RdI w w.heap.size A zs) (hA : A = none → na = 0 ∧ ca = 0) (hl : zs.length = na) (hn : na ≤ 1048576) (hp : Rd w w.heap.size P bs) (hP : P = none → np = 0 ∧ cp = 0) (hg : Rng bs) (hpl : bs.length = np) (hpn : np ≤ 1048576) (hy : Rd w w.heap.size Y ys) (hyl : ys.length = ny) (hyn : ny ≤ 1000000000) (hyr : Rng ys) :
    Calls Tryd.prog 23 #[.agg #[.int .i64 st, .bool mk, .slice A na ca, .slice P np cp], .slice Y ny cy] w (AnsBs w (vbsV ⟨st, mk, zs, bs⟩ ys).1 (vbsV ⟨st, mk, zs, bs⟩ ys).2) := by
  cases hok : okVp st mk zs bs with
  | false =>
    have e : vbsV ⟨st, mk, zs, bs⟩ ys = (vz, []) := by unfold vbsV; simp [hok]
    rw [e]; exact impl_VpBytes_bad st mk A na ca zs P np cp bs Y ny cy ys w hT hr hA hl hn hp hP hg hpl hpn hy hyl hyn hyr hok
  | true =>
    have e : vbsV ⟨st, mk, zs, bs⟩ ys = runV ⟨st, mk, zs, bs⟩ ys := by unfold vbsV; simp [hok]
    rw [e]; exact impl_VpBytes_ok st mk A na ca zs P np cp bs Y ny cy ys w hT hr hA hl hn hp hP hg hpl hpn hy hyl hyn hyr hok
end Go.Proofs.YtfdbmhelcmifoaaDoor.Vp
