/- The program's parser: VpByte in the model. -/
import Derived.Test.YtfdbmhelcmifoaaDoorVpL
import Derived.Deep.RegionWith
import Derived.Deep.DrawnRows
namespace Go.Proofs.YtfdbmhelcmifoaaDoor.Vp
open Go.RowKit Go.Proofs.YtfdbmhelcmifoaaDoor.Bytes Go.Proofs.YtfdbmhelcmifoaaDoor.DOk Go.Proofs.YtfdbmhelcmifoaaDoor.Rune Go.Proofs.YtfdbmhelcmifoaaDoor.RowK Go.Proofs.YtfdbmhelcmifoaaDoor.Gr
set_option linter.unusedVariables false
attribute [local go_sem ↓] Go.wp_at_zero Go.wp_at_succ
theorem csi_any (base : Nat) (q : Bool) (A : Option Addr) (na ca : Nat) (zs : List Int) (Q : Option Addr) (np cp : Nat) (b : Int) (w : World) (hI : OwnI w base A na ca zs) (hQ : Own w base Q np cp []) (hb : base ≤ w.heap.size) (h8 : na ≤ 8) (hz : ∀ z ∈ zs, 0 ≤ z ∧ z ≤ 9999) (h0 : 0 ≤ b) (h1 : b ≤ 255) :
    Calls Tryd.prog 40 #[.agg #[.int .i64 2, .bool q, .slice A na ca, .slice Q np cp], .int .i64 b] w (AnsC w base A na ca (csiV q zs b)) := by
  have hl : zs.length = na := hI.len
  by_cases h63 : b = 63
  · by_cases hna : na = 0
    · cases hq : q with
      | false =>
        subst hq
        have e : csiV false zs b = (⟨2, true, zs, []⟩, az) := by unfold csiV; rw [if_pos ⟨h63, by rw [hl, hna]; rfl⟩]
        rw [e]; exact csi_mark base false A na ca zs [] Q np cp b w hI hQ hb h63 rfl hna
      | true =>
        subst hq
        have e : csiV true zs b = (⟨3, true, zs, []⟩, az) := by unfold csiV; rw [if_neg (by simp [hpB]), if_neg (by omega), if_neg (by omega), if_neg (by omega), if_neg (by omega)]
        rw [e]; exact csi_mark2b base true A na ca zs [] Q np cp b w hI hQ hb h63 hna rfl
    · have e : csiV q zs b = (⟨3, q, zs, []⟩, az) := by unfold csiV; rw [if_neg (by rw [hl]; simp [hpB]; omega), if_neg (by omega), if_neg (by omega), if_neg (by omega), if_neg (by omega)]
      rw [e]; exact csi_mark2a base q A na ca zs [] Q np cp b w hI hQ hb h63 hna
  have n1 : ¬ (b = 63 ∧ hpB q zs.length = false) := fun x => h63 x.1
  by_cases hd : 48 ≤ b ∧ b ≤ 57
  · have e : csiV q zs b = (⟨2, q, digV zs (b - 48), []⟩, az) := by unfold csiV; rw [if_neg n1, if_pos hd]
    rw [e]
    by_cases hna : na = 0
    · subst hna
      rw [digV_nil hl]; exact csi_digit_0 base q A ca zs [] Q np cp b w hI hQ hb hd.1 hd.2
    · obtain ⟨ga, rfl⟩ := own_addr hI (by omega)
      obtain ⟨m, rfl⟩ : ∃ m, na = m + 1 := ⟨na - 1, by omega⟩
      have hbd := getD_mem_bd hz m
      by_cases hs : 9999 < zs.getD m 0 * 10 + b - 48
      · rw [digV_some hl rfl, show min (10 * zs.getD (m + 1 - 1) 0 + (b - 48)) 9999 = 9999 by simp only [Nat.add_sub_cancel]; omega]
        exact csi_digit_big base q ga m ca zs [] Q np cp b w hI hQ hb (by omega) hd.1 hd.2 _ hbd.1 hbd.2 rfl hs
      · rw [digV_some hl rfl, show min (10 * zs.getD (m + 1 - 1) 0 + (b - 48)) 9999 = zs.getD m 0 * 10 + b - 48 by simp only [Nat.add_sub_cancel]; omega]
        exact csi_digit_small base q ga m ca zs [] Q np cp b w hI hQ hb (by omega) hd.1 hd.2 _ hbd.1 hbd.2 rfl hs
  by_cases h59 : b = 59
  · by_cases h9 : na = 8
    · have e : csiV q zs b = (⟨3, q, zs, []⟩, az) := by unfold csiV; rw [if_neg n1, if_neg hd, if_pos h59, if_pos (by omega)]
      rw [e]; exact csi_sep8 base q A na ca zs [] Q np cp b w hI hQ hb h59 h9
    · have e : csiV q zs b = (⟨2, q, argV zs, []⟩, az) := by unfold csiV; rw [if_neg n1, if_neg hd, if_pos h59, if_neg (by omega)]
      rw [e]
      by_cases hna : na = 0
      · subst hna
        rw [argV_nil hl]; exact csi_sep_0 base q A ca zs [] Q np cp b w hI hQ hb h59
      · rw [argV_some (by omega)]; exact csi_sep_n base q A na ca zs [] Q np cp b w hI hQ hb h59 (by omega) (by omega)
  by_cases he : 64 ≤ b ∧ b ≤ 126
  · have e : csiV q zs b = (vz, ⟨4, b, q, zs⟩) := by unfold csiV; rw [if_neg n1, if_neg hd, if_neg h59, if_pos he]
    rw [e]; exact csi_end base q A na ca zs [] Q np cp b w hI hQ hb he.1 he.2
  by_cases hc : b < 32 ∨ b = 127
  · have e : csiV q zs b = (⟨2, q, zs, []⟩, ⟨2, b, false, []⟩) := by unfold csiV; rw [if_neg n1, if_neg hd, if_neg h59, if_neg he, if_pos hc]
    rw [e]
    by_cases h2 : b < 32
    · exact csi_ctl1 base q A na ca zs [] Q np cp b w hI hQ hb h2
    · obtain rfl : b = 127 := by omega
      exact csi_ctl2 base q A na ca zs [] Q np cp 127 w hI hQ hb rfl
  · have e : csiV q zs b = (⟨3, q, zs, []⟩, az) := by unfold csiV; rw [if_neg n1, if_neg hd, if_neg h59, if_neg he, if_neg hc]
    rw [e]
    by_cases ha : b < 48
    · exact csi_skip1 base q A na ca zs [] Q np cp b w hI hQ hb (by omega) ha
    by_cases hb2 : b < 64
    · exact csi_skip2 base q A na ca zs [] Q np cp b w hI hQ hb (by omega) hb2 h63 h59
    · exact csi_skip3 base q A na ca zs [] Q np cp b w hI hQ hb (by omega)
set_option maxRecDepth 100000 in
set_option maxHeartbeats 1600000 in
theorem spec_VpByte_bad (st : Int) (mk : Bool) (A : Option Addr) (na ca : Nat) (zs : List Int) (P : Option Addr) (np cp : Nat) (bs : List Int) (b : Int) (w : World) (hr : RdI w w.heap.size A zs) (hA : A = none → na = 0 ∧ ca = 0) (hl : zs.length = na) (hn : na ≤ 1048576) (hp : Rd w w.heap.size P bs) (hP : P = none → np = 0 ∧ cp = 0) (hg : Rng bs) (hpl : bs.length = np) (hpn : np ≤ 1048576) (hpc : np ≤ cp) (hok : okVp st mk zs bs = false) :
    Calls Tryd.prog 12 #[.agg #[.int .i64 st, .bool mk, .slice A na ca, .slice P np cp], .int .i64 b] w (AnsVB w (vz, az)) := by
  have HW0 := Lib.hid (show Below w.heap.size w (((w.alloc (.cells #[.int .i64 st, .bool mk, .slice A na ca, .slice P np cp] 38)).alloc (.cells #[.int .i64 0, .bool false, .slice none 0 0, .slice none 0 0] 38)).alloc (.cells #[.int .i64 0, .int .i64 0, .bool false, .slice none 0 0] 53)) from (((Below.refl _ _).alloc (Nat.le_refl _) _).alloc (by simp) _).alloc (by simp; omega) _)
  have HV := Lib.hid (show BoxV (((w.alloc (.cells #[.int .i64 st, .bool mk, .slice A na ca, .slice P np cp] 38)).alloc (.cells #[.int .i64 0, .bool false, .slice none 0 0, .slice none 0 0] 38)).alloc (.cells #[.int .i64 0, .int .i64 0, .bool false, .slice none 0 0] 53)) w.heap.size #[.int .i64 st, .bool mk, .slice A na ca, .slice P np cp] from ((BoxV.new w _).below ((Below.refl _ _).alloc (Nat.le_refl _) _) (by simp)).below ((Below.refl _ _).alloc (Nat.le_refl _) _) (by simp; omega))
  have HV1 := Lib.hid (show BoxV (((w.alloc (.cells #[.int .i64 st, .bool mk, .slice A na ca, .slice P np cp] 38)).alloc (.cells #[.int .i64 0, .bool false, .slice none 0 0, .slice none 0 0] 38)).alloc (.cells #[.int .i64 0, .int .i64 0, .bool false, .slice none 0 0] 53)) (w.heap.size + 1) #[.int .i64 0, .bool false, .slice none 0 0, .slice none 0 0] from by have h := BoxV.new (w.alloc (.cells #[.int .i64 st, .bool mk, .slice A na ca, .slice P np cp] 38)) #[.int .i64 0, .bool false, .slice none 0 0, .slice none 0 0]; simp only [World.size_alloc] at h; exact h.below ((Below.refl _ _).alloc (Nat.le_refl _) _) (by simp))
  have HA2 := Lib.hid (show BoxA (((w.alloc (.cells #[.int .i64 st, .bool mk, .slice A na ca, .slice P np cp] 38)).alloc (.cells #[.int .i64 0, .bool false, .slice none 0 0, .slice none 0 0] 38)).alloc (.cells #[.int .i64 0, .int .i64 0, .bool false, .slice none 0 0] 53)) (w.heap.size + 1 + 1) #[.int .i64 0, .int .i64 0, .bool false, .slice none 0 0] from by have h := BoxA.new ((w.alloc (.cells #[.int .i64 st, .bool mk, .slice A na ca, .slice P np cp] 38)).alloc (.cells #[.int .i64 0, .bool false, .slice none 0 0, .slice none 0 0] 38)) #[.int .i64 0, .int .i64 0, .bool false, .slice none 0 0]; simp only [World.size_alloc] at h; exact h)
  have HC := spec_VpOk_any st mk A na ca zs P np cp bs (((w.alloc (.cells #[.int .i64 st, .bool mk, .slice A na ca, .slice P np cp] 38)).alloc (.cells #[.int .i64 0, .bool false, .slice none 0 0, .slice none 0 0] 38)).alloc (.cells #[.int .i64 0, .int .i64 0, .bool false, .slice none 0 0] 53)) ((hr.below (Nat.le_refl _) HW0.out).more HW0.out.size) hl (by omega) ((hp.below (Nat.le_refl _) HW0.out).more HW0.out.size) hg hpl hP (by omega) hpc
  rw [hok] at HC
  have HC := Lib.hid HC
  clear hr hA hl hn hp hP hg hpl hpn hpc hok 
  go_enter Tryd.func12, Tryd.ntmps12
  go_wp2_with fail
  refine HC.out.mono ?_
  rintro e w1 ⟨rfl, hb1⟩
  have HW1 := Lib.hid (HW0.out.trans (hb1.mono (by simp <;> omega)))
  have v1 := HV1.out.below hb1 (by simp <;> omega)
  have a2 := HA2.out.below hb1 (by simp <;> omega)
  have v0 := HV.out.below hb1 (by simp <;> omega)
  have hz1 : w.heap.size + 1 + 1 < w1.heap.size := by have := hb1.size; simp at this; omega
  have x0 : w1.cell? ⟨w.heap.size + 1, 0, none⟩ = some (.int .i64 0) := v1.cell 0
  have x1 : w1.cell? ⟨w.heap.size + 1, 1, none⟩ = some (.bool false) := v1.cell 1
  have x2 : w1.cell? ⟨w.heap.size + 1, 2, none⟩ = some (.slice none 0 0) := v1.cell 2
  have x3 : w1.cell? ⟨w.heap.size + 1, 3, none⟩ = some (.slice none 0 0) := v1.cell 3
  have f0 := v1.free 0
  have f1 := v1.free 1
  have f2 := v1.free 2
  have f3 := v1.free 3
  obtain ⟨⟨u0, u1, u2, u3⟩, g0, g1, g2, g3⟩ := a2.cells
  clear v0 v1 a2 hb1
  go_wp2_with fail
  refine bodyPost_ret (v := .tuple #[.agg #[.int .i64 0, .bool false, .slice none 0 0, .slice none 0 0], .agg #[.int .i64 0, .int .i64 0, .bool false, .slice none 0 0]]) (by simp [results, Tryd.results12, go_sem, x0, x1, x2, x3, u0, u1, u2, u3]) rfl ?_
  exact ⟨none, 0, 0, none, 0, 0, none, 0, 0, rfl, ownI_nil _ _, own_nil _ _, ownI_nil _ _, .inl rfl, below_put4 (below_put4 HW1.out (by omega) _ _ _ _) (by omega) _ _ _ _⟩
set_option maxRecDepth 100000 in
set_option maxHeartbeats 1600000 in
theorem spec_VpByte_lo (st : Int) (mk : Bool) (A : Option Addr) (na ca : Nat) (zs : List Int) (P : Option Addr) (np cp : Nat) (bs : List Int) (b : Int) (w : World) (hr : RdI w w.heap.size A zs) (hA : A = none → na = 0 ∧ ca = 0) (hl : zs.length = na) (hn : na ≤ 1048576) (hp : Rd w w.heap.size P bs) (hP : P = none → np = 0 ∧ cp = 0) (hg : Rng bs) (hpl : bs.length = np) (hpn : np ≤ 1048576) (hpc : np ≤ cp) (hok : okVp st mk zs bs = true) (hb : b < 0) :
    Calls Tryd.prog 12 #[.agg #[.int .i64 st, .bool mk, .slice A na ca, .slice P np cp], .int .i64 b] w (AnsVB w (vz, az)) := by
  have HW0 := Lib.hid (show Below w.heap.size w (((w.alloc (.cells #[.int .i64 st, .bool mk, .slice A na ca, .slice P np cp] 38)).alloc (.cells #[.int .i64 0, .bool false, .slice none 0 0, .slice none 0 0] 38)).alloc (.cells #[.int .i64 0, .int .i64 0, .bool false, .slice none 0 0] 53)) from (((Below.refl _ _).alloc (Nat.le_refl _) _).alloc (by simp) _).alloc (by simp; omega) _)
  have HV := Lib.hid (show BoxV (((w.alloc (.cells #[.int .i64 st, .bool mk, .slice A na ca, .slice P np cp] 38)).alloc (.cells #[.int .i64 0, .bool false, .slice none 0 0, .slice none 0 0] 38)).alloc (.cells #[.int .i64 0, .int .i64 0, .bool false, .slice none 0 0] 53)) w.heap.size #[.int .i64 st, .bool mk, .slice A na ca, .slice P np cp] from ((BoxV.new w _).below ((Below.refl _ _).alloc (Nat.le_refl _) _) (by simp)).below ((Below.refl _ _).alloc (Nat.le_refl _) _) (by simp; omega))
  have HV1 := Lib.hid (show BoxV (((w.alloc (.cells #[.int .i64 st, .bool mk, .slice A na ca, .slice P np cp] 38)).alloc (.cells #[.int .i64 0, .bool false, .slice none 0 0, .slice none 0 0] 38)).alloc (.cells #[.int .i64 0, .int .i64 0, .bool false, .slice none 0 0] 53)) (w.heap.size + 1) #[.int .i64 0, .bool false, .slice none 0 0, .slice none 0 0] from by have h := BoxV.new (w.alloc (.cells #[.int .i64 st, .bool mk, .slice A na ca, .slice P np cp] 38)) #[.int .i64 0, .bool false, .slice none 0 0, .slice none 0 0]; simp only [World.size_alloc] at h; exact h.below ((Below.refl _ _).alloc (Nat.le_refl _) _) (by simp))
  have HA2 := Lib.hid (show BoxA (((w.alloc (.cells #[.int .i64 st, .bool mk, .slice A na ca, .slice P np cp] 38)).alloc (.cells #[.int .i64 0, .bool false, .slice none 0 0, .slice none 0 0] 38)).alloc (.cells #[.int .i64 0, .int .i64 0, .bool false, .slice none 0 0] 53)) (w.heap.size + 1 + 1) #[.int .i64 0, .int .i64 0, .bool false, .slice none 0 0] from by have h := BoxA.new ((w.alloc (.cells #[.int .i64 st, .bool mk, .slice A na ca, .slice P np cp] 38)).alloc (.cells #[.int .i64 0, .bool false, .slice none 0 0, .slice none 0 0] 38)) #[.int .i64 0, .int .i64 0, .bool false, .slice none 0 0]; simp only [World.size_alloc] at h; exact h)
  have HC := spec_VpOk_any st mk A na ca zs P np cp bs (((w.alloc (.cells #[.int .i64 st, .bool mk, .slice A na ca, .slice P np cp] 38)).alloc (.cells #[.int .i64 0, .bool false, .slice none 0 0, .slice none 0 0] 38)).alloc (.cells #[.int .i64 0, .int .i64 0, .bool false, .slice none 0 0] 53)) ((hr.below (Nat.le_refl _) HW0.out).more HW0.out.size) hl (by omega) ((hp.below (Nat.le_refl _) HW0.out).more HW0.out.size) hg hpl hP (by omega) hpc
  rw [hok] at HC
  have HC := Lib.hid HC
  clear hr hA hl hn hp hP hg hpl hpn hpc hok 
  go_enter Tryd.func12, Tryd.ntmps12
  go_wp2_with fail
  refine HC.out.mono ?_
  rintro e w1 ⟨rfl, hb1⟩
  have HW1 := Lib.hid (HW0.out.trans (hb1.mono (by simp <;> omega)))
  have v1 := HV1.out.below hb1 (by simp <;> omega)
  have a2 := HA2.out.below hb1 (by simp <;> omega)
  have v0 := HV.out.below hb1 (by simp <;> omega)
  have hz1 : w.heap.size + 1 + 1 < w1.heap.size := by have := hb1.size; simp at this; omega
  have x0 : w1.cell? ⟨w.heap.size + 1, 0, none⟩ = some (.int .i64 0) := v1.cell 0
  have x1 : w1.cell? ⟨w.heap.size + 1, 1, none⟩ = some (.bool false) := v1.cell 1
  have x2 : w1.cell? ⟨w.heap.size + 1, 2, none⟩ = some (.slice none 0 0) := v1.cell 2
  have x3 : w1.cell? ⟨w.heap.size + 1, 3, none⟩ = some (.slice none 0 0) := v1.cell 3
  have f0 := v1.free 0
  have f1 := v1.free 1
  have f2 := v1.free 2
  have f3 := v1.free 3
  obtain ⟨⟨u0, u1, u2, u3⟩, g0, g1, g2, g3⟩ := a2.cells
  clear v0 v1 a2 hb1
  go_wp2_with fail
  refine bodyPost_ret (v := .tuple #[.agg #[.int .i64 0, .bool false, .slice none 0 0, .slice none 0 0], .agg #[.int .i64 0, .int .i64 0, .bool false, .slice none 0 0]]) (by simp [results, Tryd.results12, go_sem, x0, x1, x2, x3, u0, u1, u2, u3]) rfl ?_
  exact ⟨none, 0, 0, none, 0, 0, none, 0, 0, rfl, ownI_nil _ _, own_nil _ _, ownI_nil _ _, .inl rfl, below_put4 (below_put4 HW1.out (by omega) _ _ _ _) (by omega) _ _ _ _⟩
set_option maxRecDepth 100000 in
set_option maxHeartbeats 1600000 in
theorem spec_VpByte_hi (st : Int) (mk : Bool) (A : Option Addr) (na ca : Nat) (zs : List Int) (P : Option Addr) (np cp : Nat) (bs : List Int) (b : Int) (w : World) (hr : RdI w w.heap.size A zs) (hA : A = none → na = 0 ∧ ca = 0) (hl : zs.length = na) (hn : na ≤ 1048576) (hp : Rd w w.heap.size P bs) (hP : P = none → np = 0 ∧ cp = 0) (hg : Rng bs) (hpl : bs.length = np) (hpn : np ≤ 1048576) (hpc : np ≤ cp) (hok : okVp st mk zs bs = true) (hb : 255 < b) :
    Calls Tryd.prog 12 #[.agg #[.int .i64 st, .bool mk, .slice A na ca, .slice P np cp], .int .i64 b] w (AnsVB w (vz, az)) := by
  have HW0 := Lib.hid (show Below w.heap.size w (((w.alloc (.cells #[.int .i64 st, .bool mk, .slice A na ca, .slice P np cp] 38)).alloc (.cells #[.int .i64 0, .bool false, .slice none 0 0, .slice none 0 0] 38)).alloc (.cells #[.int .i64 0, .int .i64 0, .bool false, .slice none 0 0] 53)) from (((Below.refl _ _).alloc (Nat.le_refl _) _).alloc (by simp) _).alloc (by simp; omega) _)
  have HV := Lib.hid (show BoxV (((w.alloc (.cells #[.int .i64 st, .bool mk, .slice A na ca, .slice P np cp] 38)).alloc (.cells #[.int .i64 0, .bool false, .slice none 0 0, .slice none 0 0] 38)).alloc (.cells #[.int .i64 0, .int .i64 0, .bool false, .slice none 0 0] 53)) w.heap.size #[.int .i64 st, .bool mk, .slice A na ca, .slice P np cp] from ((BoxV.new w _).below ((Below.refl _ _).alloc (Nat.le_refl _) _) (by simp)).below ((Below.refl _ _).alloc (Nat.le_refl _) _) (by simp; omega))
  have HV1 := Lib.hid (show BoxV (((w.alloc (.cells #[.int .i64 st, .bool mk, .slice A na ca, .slice P np cp] 38)).alloc (.cells #[.int .i64 0, .bool false, .slice none 0 0, .slice none 0 0] 38)).alloc (.cells #[.int .i64 0, .int .i64 0, .bool false, .slice none 0 0] 53)) (w.heap.size + 1) #[.int .i64 0, .bool false, .slice none 0 0, .slice none 0 0] from by have h := BoxV.new (w.alloc (.cells #[.int .i64 st, .bool mk, .slice A na ca, .slice P np cp] 38)) #[.int .i64 0, .bool false, .slice none 0 0, .slice none 0 0]; simp only [World.size_alloc] at h; exact h.below ((Below.refl _ _).alloc (Nat.le_refl _) _) (by simp))
  have HA2 := Lib.hid (show BoxA (((w.alloc (.cells #[.int .i64 st, .bool mk, .slice A na ca, .slice P np cp] 38)).alloc (.cells #[.int .i64 0, .bool false, .slice none 0 0, .slice none 0 0] 38)).alloc (.cells #[.int .i64 0, .int .i64 0, .bool false, .slice none 0 0] 53)) (w.heap.size + 1 + 1) #[.int .i64 0, .int .i64 0, .bool false, .slice none 0 0] from by have h := BoxA.new ((w.alloc (.cells #[.int .i64 st, .bool mk, .slice A na ca, .slice P np cp] 38)).alloc (.cells #[.int .i64 0, .bool false, .slice none 0 0, .slice none 0 0] 38)) #[.int .i64 0, .int .i64 0, .bool false, .slice none 0 0]; simp only [World.size_alloc] at h; exact h)
  have HC := spec_VpOk_any st mk A na ca zs P np cp bs (((w.alloc (.cells #[.int .i64 st, .bool mk, .slice A na ca, .slice P np cp] 38)).alloc (.cells #[.int .i64 0, .bool false, .slice none 0 0, .slice none 0 0] 38)).alloc (.cells #[.int .i64 0, .int .i64 0, .bool false, .slice none 0 0] 53)) ((hr.below (Nat.le_refl _) HW0.out).more HW0.out.size) hl (by omega) ((hp.below (Nat.le_refl _) HW0.out).more HW0.out.size) hg hpl hP (by omega) hpc
  rw [hok] at HC
  have HC := Lib.hid HC
  have hb0 : ¬ b < 0 := by omega
  clear hr hA hl hn hp hP hg hpl hpn hpc hok 
  go_enter Tryd.func12, Tryd.ntmps12
  go_wp2_with fail
  refine HC.out.mono ?_
  rintro e w1 ⟨rfl, hb1⟩
  have HW1 := Lib.hid (HW0.out.trans (hb1.mono (by simp <;> omega)))
  have v1 := HV1.out.below hb1 (by simp <;> omega)
  have a2 := HA2.out.below hb1 (by simp <;> omega)
  have v0 := HV.out.below hb1 (by simp <;> omega)
  have hz1 : w.heap.size + 1 + 1 < w1.heap.size := by have := hb1.size; simp at this; omega
  have x0 : w1.cell? ⟨w.heap.size + 1, 0, none⟩ = some (.int .i64 0) := v1.cell 0
  have x1 : w1.cell? ⟨w.heap.size + 1, 1, none⟩ = some (.bool false) := v1.cell 1
  have x2 : w1.cell? ⟨w.heap.size + 1, 2, none⟩ = some (.slice none 0 0) := v1.cell 2
  have x3 : w1.cell? ⟨w.heap.size + 1, 3, none⟩ = some (.slice none 0 0) := v1.cell 3
  have f0 := v1.free 0
  have f1 := v1.free 1
  have f2 := v1.free 2
  have f3 := v1.free 3
  obtain ⟨⟨u0, u1, u2, u3⟩, g0, g1, g2, g3⟩ := a2.cells
  clear v0 v1 a2 hb1
  go_wp2_with fail
  refine bodyPost_ret (v := .tuple #[.agg #[.int .i64 0, .bool false, .slice none 0 0, .slice none 0 0], .agg #[.int .i64 0, .int .i64 0, .bool false, .slice none 0 0]]) (by simp [results, Tryd.results12, go_sem, x0, x1, x2, x3, u0, u1, u2, u3]) rfl ?_
  exact ⟨none, 0, 0, none, 0, 0, none, 0, 0, rfl, ownI_nil _ _, own_nil _ _, ownI_nil _ _, .inl rfl, below_put4 (below_put4 HW1.out (by omega) _ _ _ _) (by omega) _ _ _ _⟩
set_option maxRecDepth 100000 in
set_option maxHeartbeats 1600000 in
theorem spec_VpByte_27 (st : Int) (mk : Bool) (A : Option Addr) (na ca : Nat) (zs : List Int) (P : Option Addr) (np cp : Nat) (bs : List Int) (b : Int) (w : World) (hr : RdI w w.heap.size A zs) (hA : A = none → na = 0 ∧ ca = 0) (hl : zs.length = na) (hn : na ≤ 1048576) (hp : Rd w w.heap.size P bs) (hP : P = none → np = 0 ∧ cp = 0) (hg : Rng bs) (hpl : bs.length = np) (hpn : np ≤ 1048576) (hpc : np ≤ cp) (hok : okVp st mk zs bs = true) (hb : b = 27) :
    Calls Tryd.prog 12 #[.agg #[.int .i64 st, .bool mk, .slice A na ca, .slice P np cp], .int .i64 b] w (AnsVB w (⟨1, false, [], []⟩, az)) := by
  have HW0 := Lib.hid (show Below w.heap.size w (((w.alloc (.cells #[.int .i64 st, .bool mk, .slice A na ca, .slice P np cp] 38)).alloc (.cells #[.int .i64 0, .bool false, .slice none 0 0, .slice none 0 0] 38)).alloc (.cells #[.int .i64 0, .int .i64 0, .bool false, .slice none 0 0] 53)) from (((Below.refl _ _).alloc (Nat.le_refl _) _).alloc (by simp) _).alloc (by simp; omega) _)
  have HV := Lib.hid (show BoxV (((w.alloc (.cells #[.int .i64 st, .bool mk, .slice A na ca, .slice P np cp] 38)).alloc (.cells #[.int .i64 0, .bool false, .slice none 0 0, .slice none 0 0] 38)).alloc (.cells #[.int .i64 0, .int .i64 0, .bool false, .slice none 0 0] 53)) w.heap.size #[.int .i64 st, .bool mk, .slice A na ca, .slice P np cp] from ((BoxV.new w _).below ((Below.refl _ _).alloc (Nat.le_refl _) _) (by simp)).below ((Below.refl _ _).alloc (Nat.le_refl _) _) (by simp; omega))
  have HV1 := Lib.hid (show BoxV (((w.alloc (.cells #[.int .i64 st, .bool mk, .slice A na ca, .slice P np cp] 38)).alloc (.cells #[.int .i64 0, .bool false, .slice none 0 0, .slice none 0 0] 38)).alloc (.cells #[.int .i64 0, .int .i64 0, .bool false, .slice none 0 0] 53)) (w.heap.size + 1) #[.int .i64 0, .bool false, .slice none 0 0, .slice none 0 0] from by have h := BoxV.new (w.alloc (.cells #[.int .i64 st, .bool mk, .slice A na ca, .slice P np cp] 38)) #[.int .i64 0, .bool false, .slice none 0 0, .slice none 0 0]; simp only [World.size_alloc] at h; exact h.below ((Below.refl _ _).alloc (Nat.le_refl _) _) (by simp))
  have HA2 := Lib.hid (show BoxA (((w.alloc (.cells #[.int .i64 st, .bool mk, .slice A na ca, .slice P np cp] 38)).alloc (.cells #[.int .i64 0, .bool false, .slice none 0 0, .slice none 0 0] 38)).alloc (.cells #[.int .i64 0, .int .i64 0, .bool false, .slice none 0 0] 53)) (w.heap.size + 1 + 1) #[.int .i64 0, .int .i64 0, .bool false, .slice none 0 0] from by have h := BoxA.new ((w.alloc (.cells #[.int .i64 st, .bool mk, .slice A na ca, .slice P np cp] 38)).alloc (.cells #[.int .i64 0, .bool false, .slice none 0 0, .slice none 0 0] 38)) #[.int .i64 0, .int .i64 0, .bool false, .slice none 0 0]; simp only [World.size_alloc] at h; exact h)
  have HC := spec_VpOk_any st mk A na ca zs P np cp bs (((w.alloc (.cells #[.int .i64 st, .bool mk, .slice A na ca, .slice P np cp] 38)).alloc (.cells #[.int .i64 0, .bool false, .slice none 0 0, .slice none 0 0] 38)).alloc (.cells #[.int .i64 0, .int .i64 0, .bool false, .slice none 0 0] 53)) ((hr.below (Nat.le_refl _) HW0.out).more HW0.out.size) hl (by omega) ((hp.below (Nat.le_refl _) HW0.out).more HW0.out.size) hg hpl hP (by omega) hpc
  rw [hok] at HC
  have HC := Lib.hid HC
  subst hb
  clear hr hA hl hn hp hP hg hpl hpn hpc hok 
  go_enter Tryd.func12, Tryd.ntmps12
  go_wp2_with fail
  refine HC.out.mono ?_
  rintro e w1 ⟨rfl, hb1⟩
  have HW1 := Lib.hid (HW0.out.trans (hb1.mono (by simp <;> omega)))
  have v1 := HV1.out.below hb1 (by simp <;> omega)
  have a2 := HA2.out.below hb1 (by simp <;> omega)
  have v0 := HV.out.below hb1 (by simp <;> omega)
  have hz1 : w.heap.size + 1 + 1 < w1.heap.size := by have := hb1.size; simp at this; omega
  have x0 : w1.cell? ⟨w.heap.size + 1, 0, none⟩ = some (.int .i64 0) := v1.cell 0
  have x1 : w1.cell? ⟨w.heap.size + 1, 1, none⟩ = some (.bool false) := v1.cell 1
  have x2 : w1.cell? ⟨w.heap.size + 1, 2, none⟩ = some (.slice none 0 0) := v1.cell 2
  have x3 : w1.cell? ⟨w.heap.size + 1, 3, none⟩ = some (.slice none 0 0) := v1.cell 3
  have f0 := v1.free 0
  have f1 := v1.free 1
  have f2 := v1.free 2
  have f3 := v1.free 3
  obtain ⟨⟨u0, u1, u2, u3⟩, g0, g1, g2, g3⟩ := a2.cells
  clear v0 v1 a2 hb1
  go_wp2_with fail
  refine bodyPost_ret (v := .tuple #[.agg #[.int .i64 1, .bool false, .slice none 0 0, .slice none 0 0], .agg #[.int .i64 0, .int .i64 0, .bool false, .slice none 0 0]]) (by simp [results, Tryd.results12, go_sem, x0, x1, x2, x3, u0, u1, u2, u3]) rfl ?_
  exact ⟨none, 0, 0, none, 0, 0, none, 0, 0, rfl, ownI_nil _ _, own_nil _ _, ownI_nil _ _, .inl rfl, below_put4 (below_put4 HW1.out (by omega) _ _ _ _) (by omega) _ _ _ _⟩
set_option maxRecDepth 100000 in
set_option maxHeartbeats 1600000 in
theorem spec_VpByte_24 (st : Int) (mk : Bool) (A : Option Addr) (na ca : Nat) (zs : List Int) (P : Option Addr) (np cp : Nat) (bs : List Int) (b : Int) (w : World) (hr : RdI w w.heap.size A zs) (hA : A = none → na = 0 ∧ ca = 0) (hl : zs.length = na) (hn : na ≤ 1048576) (hp : Rd w w.heap.size P bs) (hP : P = none → np = 0 ∧ cp = 0) (hg : Rng bs) (hpl : bs.length = np) (hpn : np ≤ 1048576) (hpc : np ≤ cp) (hok : okVp st mk zs bs = true) (hb : b = 24) :
    Calls Tryd.prog 12 #[.agg #[.int .i64 st, .bool mk, .slice A na ca, .slice P np cp], .int .i64 b] w (AnsVB w (vz, az)) := by
  have HW0 := Lib.hid (show Below w.heap.size w (((w.alloc (.cells #[.int .i64 st, .bool mk, .slice A na ca, .slice P np cp] 38)).alloc (.cells #[.int .i64 0, .bool false, .slice none 0 0, .slice none 0 0] 38)).alloc (.cells #[.int .i64 0, .int .i64 0, .bool false, .slice none 0 0] 53)) from (((Below.refl _ _).alloc (Nat.le_refl _) _).alloc (by simp) _).alloc (by simp; omega) _)
  have HV := Lib.hid (show BoxV (((w.alloc (.cells #[.int .i64 st, .bool mk, .slice A na ca, .slice P np cp] 38)).alloc (.cells #[.int .i64 0, .bool false, .slice none 0 0, .slice none 0 0] 38)).alloc (.cells #[.int .i64 0, .int .i64 0, .bool false, .slice none 0 0] 53)) w.heap.size #[.int .i64 st, .bool mk, .slice A na ca, .slice P np cp] from ((BoxV.new w _).below ((Below.refl _ _).alloc (Nat.le_refl _) _) (by simp)).below ((Below.refl _ _).alloc (Nat.le_refl _) _) (by simp; omega))
  have HV1 := Lib.hid (show BoxV (((w.alloc (.cells #[.int .i64 st, .bool mk, .slice A na ca, .slice P np cp] 38)).alloc (.cells #[.int .i64 0, .bool false, .slice none 0 0, .slice none 0 0] 38)).alloc (.cells #[.int .i64 0, .int .i64 0, .bool false, .slice none 0 0] 53)) (w.heap.size + 1) #[.int .i64 0, .bool false, .slice none 0 0, .slice none 0 0] from by have h := BoxV.new (w.alloc (.cells #[.int .i64 st, .bool mk, .slice A na ca, .slice P np cp] 38)) #[.int .i64 0, .bool false, .slice none 0 0, .slice none 0 0]; simp only [World.size_alloc] at h; exact h.below ((Below.refl _ _).alloc (Nat.le_refl _) _) (by simp))
  have HA2 := Lib.hid (show BoxA (((w.alloc (.cells #[.int .i64 st, .bool mk, .slice A na ca, .slice P np cp] 38)).alloc (.cells #[.int .i64 0, .bool false, .slice none 0 0, .slice none 0 0] 38)).alloc (.cells #[.int .i64 0, .int .i64 0, .bool false, .slice none 0 0] 53)) (w.heap.size + 1 + 1) #[.int .i64 0, .int .i64 0, .bool false, .slice none 0 0] from by have h := BoxA.new ((w.alloc (.cells #[.int .i64 st, .bool mk, .slice A na ca, .slice P np cp] 38)).alloc (.cells #[.int .i64 0, .bool false, .slice none 0 0, .slice none 0 0] 38)) #[.int .i64 0, .int .i64 0, .bool false, .slice none 0 0]; simp only [World.size_alloc] at h; exact h)
  have HC := spec_VpOk_any st mk A na ca zs P np cp bs (((w.alloc (.cells #[.int .i64 st, .bool mk, .slice A na ca, .slice P np cp] 38)).alloc (.cells #[.int .i64 0, .bool false, .slice none 0 0, .slice none 0 0] 38)).alloc (.cells #[.int .i64 0, .int .i64 0, .bool false, .slice none 0 0] 53)) ((hr.below (Nat.le_refl _) HW0.out).more HW0.out.size) hl (by omega) ((hp.below (Nat.le_refl _) HW0.out).more HW0.out.size) hg hpl hP (by omega) hpc
  rw [hok] at HC
  have HC := Lib.hid HC
  subst hb
  clear hr hA hl hn hp hP hg hpl hpn hpc hok 
  go_enter Tryd.func12, Tryd.ntmps12
  go_wp2_with fail
  refine HC.out.mono ?_
  rintro e w1 ⟨rfl, hb1⟩
  have HW1 := Lib.hid (HW0.out.trans (hb1.mono (by simp <;> omega)))
  have v1 := HV1.out.below hb1 (by simp <;> omega)
  have a2 := HA2.out.below hb1 (by simp <;> omega)
  have v0 := HV.out.below hb1 (by simp <;> omega)
  have hz1 : w.heap.size + 1 + 1 < w1.heap.size := by have := hb1.size; simp at this; omega
  have x0 : w1.cell? ⟨w.heap.size + 1, 0, none⟩ = some (.int .i64 0) := v1.cell 0
  have x1 : w1.cell? ⟨w.heap.size + 1, 1, none⟩ = some (.bool false) := v1.cell 1
  have x2 : w1.cell? ⟨w.heap.size + 1, 2, none⟩ = some (.slice none 0 0) := v1.cell 2
  have x3 : w1.cell? ⟨w.heap.size + 1, 3, none⟩ = some (.slice none 0 0) := v1.cell 3
  have f0 := v1.free 0
  have f1 := v1.free 1
  have f2 := v1.free 2
  have f3 := v1.free 3
  obtain ⟨⟨u0, u1, u2, u3⟩, g0, g1, g2, g3⟩ := a2.cells
  clear v0 v1 a2 hb1
  go_wp2_with fail
  refine bodyPost_ret (v := .tuple #[.agg #[.int .i64 0, .bool false, .slice none 0 0, .slice none 0 0], .agg #[.int .i64 0, .int .i64 0, .bool false, .slice none 0 0]]) (by simp [results, Tryd.results12, go_sem, x0, x1, x2, x3, u0, u1, u2, u3]) rfl ?_
  exact ⟨none, 0, 0, none, 0, 0, none, 0, 0, rfl, ownI_nil _ _, own_nil _ _, ownI_nil _ _, .inl rfl, below_put4 (below_put4 HW1.out (by omega) _ _ _ _) (by omega) _ _ _ _⟩
set_option maxRecDepth 100000 in
set_option maxHeartbeats 1600000 in
theorem spec_VpByte_26 (st : Int) (mk : Bool) (A : Option Addr) (na ca : Nat) (zs : List Int) (P : Option Addr) (np cp : Nat) (bs : List Int) (b : Int) (w : World) (hr : RdI w w.heap.size A zs) (hA : A = none → na = 0 ∧ ca = 0) (hl : zs.length = na) (hn : na ≤ 1048576) (hp : Rd w w.heap.size P bs) (hP : P = none → np = 0 ∧ cp = 0) (hg : Rng bs) (hpl : bs.length = np) (hpn : np ≤ 1048576) (hpc : np ≤ cp) (hok : okVp st mk zs bs = true) (hb : b = 26) :
    Calls Tryd.prog 12 #[.agg #[.int .i64 st, .bool mk, .slice A na ca, .slice P np cp], .int .i64 b] w (AnsVB w (vz, az)) := by
  have HW0 := Lib.hid (show Below w.heap.size w (((w.alloc (.cells #[.int .i64 st, .bool mk, .slice A na ca, .slice P np cp] 38)).alloc (.cells #[.int .i64 0, .bool false, .slice none 0 0, .slice none 0 0] 38)).alloc (.cells #[.int .i64 0, .int .i64 0, .bool false, .slice none 0 0] 53)) from (((Below.refl _ _).alloc (Nat.le_refl _) _).alloc (by simp) _).alloc (by simp; omega) _)
  have HV := Lib.hid (show BoxV (((w.alloc (.cells #[.int .i64 st, .bool mk, .slice A na ca, .slice P np cp] 38)).alloc (.cells #[.int .i64 0, .bool false, .slice none 0 0, .slice none 0 0] 38)).alloc (.cells #[.int .i64 0, .int .i64 0, .bool false, .slice none 0 0] 53)) w.heap.size #[.int .i64 st, .bool mk, .slice A na ca, .slice P np cp] from ((BoxV.new w _).below ((Below.refl _ _).alloc (Nat.le_refl _) _) (by simp)).below ((Below.refl _ _).alloc (Nat.le_refl _) _) (by simp; omega))
  have HV1 := Lib.hid (show BoxV (((w.alloc (.cells #[.int .i64 st, .bool mk, .slice A na ca, .slice P np cp] 38)).alloc (.cells #[.int .i64 0, .bool false, .slice none 0 0, .slice none 0 0] 38)).alloc (.cells #[.int .i64 0, .int .i64 0, .bool false, .slice none 0 0] 53)) (w.heap.size + 1) #[.int .i64 0, .bool false, .slice none 0 0, .slice none 0 0] from by have h := BoxV.new (w.alloc (.cells #[.int .i64 st, .bool mk, .slice A na ca, .slice P np cp] 38)) #[.int .i64 0, .bool false, .slice none 0 0, .slice none 0 0]; simp only [World.size_alloc] at h; exact h.below ((Below.refl _ _).alloc (Nat.le_refl _) _) (by simp))
  have HA2 := Lib.hid (show BoxA (((w.alloc (.cells #[.int .i64 st, .bool mk, .slice A na ca, .slice P np cp] 38)).alloc (.cells #[.int .i64 0, .bool false, .slice none 0 0, .slice none 0 0] 38)).alloc (.cells #[.int .i64 0, .int .i64 0, .bool false, .slice none 0 0] 53)) (w.heap.size + 1 + 1) #[.int .i64 0, .int .i64 0, .bool false, .slice none 0 0] from by have h := BoxA.new ((w.alloc (.cells #[.int .i64 st, .bool mk, .slice A na ca, .slice P np cp] 38)).alloc (.cells #[.int .i64 0, .bool false, .slice none 0 0, .slice none 0 0] 38)) #[.int .i64 0, .int .i64 0, .bool false, .slice none 0 0]; simp only [World.size_alloc] at h; exact h)
  have HC := spec_VpOk_any st mk A na ca zs P np cp bs (((w.alloc (.cells #[.int .i64 st, .bool mk, .slice A na ca, .slice P np cp] 38)).alloc (.cells #[.int .i64 0, .bool false, .slice none 0 0, .slice none 0 0] 38)).alloc (.cells #[.int .i64 0, .int .i64 0, .bool false, .slice none 0 0] 53)) ((hr.below (Nat.le_refl _) HW0.out).more HW0.out.size) hl (by omega) ((hp.below (Nat.le_refl _) HW0.out).more HW0.out.size) hg hpl hP (by omega) hpc
  rw [hok] at HC
  have HC := Lib.hid HC
  subst hb
  clear hr hA hl hn hp hP hg hpl hpn hpc hok 
  go_enter Tryd.func12, Tryd.ntmps12
  go_wp2_with fail
  refine HC.out.mono ?_
  rintro e w1 ⟨rfl, hb1⟩
  have HW1 := Lib.hid (HW0.out.trans (hb1.mono (by simp <;> omega)))
  have v1 := HV1.out.below hb1 (by simp <;> omega)
  have a2 := HA2.out.below hb1 (by simp <;> omega)
  have v0 := HV.out.below hb1 (by simp <;> omega)
  have hz1 : w.heap.size + 1 + 1 < w1.heap.size := by have := hb1.size; simp at this; omega
  have x0 : w1.cell? ⟨w.heap.size + 1, 0, none⟩ = some (.int .i64 0) := v1.cell 0
  have x1 : w1.cell? ⟨w.heap.size + 1, 1, none⟩ = some (.bool false) := v1.cell 1
  have x2 : w1.cell? ⟨w.heap.size + 1, 2, none⟩ = some (.slice none 0 0) := v1.cell 2
  have x3 : w1.cell? ⟨w.heap.size + 1, 3, none⟩ = some (.slice none 0 0) := v1.cell 3
  have f0 := v1.free 0
  have f1 := v1.free 1
  have f2 := v1.free 2
  have f3 := v1.free 3
  obtain ⟨⟨u0, u1, u2, u3⟩, g0, g1, g2, g3⟩ := a2.cells
  clear v0 v1 a2 hb1
  go_wp2_with fail
  refine bodyPost_ret (v := .tuple #[.agg #[.int .i64 0, .bool false, .slice none 0 0, .slice none 0 0], .agg #[.int .i64 0, .int .i64 0, .bool false, .slice none 0 0]]) (by simp [results, Tryd.results12, go_sem, x0, x1, x2, x3, u0, u1, u2, u3]) rfl ?_
  exact ⟨none, 0, 0, none, 0, 0, none, 0, 0, rfl, ownI_nil _ _, own_nil _ _, ownI_nil _ _, .inl rfl, below_put4 (below_put4 HW1.out (by omega) _ _ _ _) (by omega) _ _ _ _⟩
set_option maxRecDepth 100000 in
set_option maxHeartbeats 1600000 in
theorem spec_VpByte_1csi (mk : Bool) (A : Option Addr) (na ca : Nat) (zs : List Int) (P : Option Addr) (np cp : Nat) (bs : List Int) (b : Int) (w : World) (hr : RdI w w.heap.size A zs) (hA : A = none → na = 0 ∧ ca = 0) (hl : zs.length = na) (hn : na ≤ 1048576) (hp : Rd w w.heap.size P bs) (hP : P = none → np = 0 ∧ cp = 0) (hg : Rng bs) (hpl : bs.length = np) (hpn : np ≤ 1048576) (hpc : np ≤ cp) (hok : okVp 1 mk zs bs = true) (n27 : (b == 27) = false) (n24 : (b == 24) = false) (n26 : (b == 26) = false) (hb0 : 0 ≤ b) (hb1 : b ≤ 255) (hb : b = 91) :
    Calls Tryd.prog 12 #[.agg #[.int .i64 1, .bool mk, .slice A na ca, .slice P np cp], .int .i64 b] w (AnsVB w (⟨2, false, [], []⟩, az)) := by
  have HW0 := Lib.hid (show Below w.heap.size w (((w.alloc (.cells #[.int .i64 1, .bool mk, .slice A na ca, .slice P np cp] 38)).alloc (.cells #[.int .i64 0, .bool false, .slice none 0 0, .slice none 0 0] 38)).alloc (.cells #[.int .i64 0, .int .i64 0, .bool false, .slice none 0 0] 53)) from (((Below.refl _ _).alloc (Nat.le_refl _) _).alloc (by simp) _).alloc (by simp; omega) _)
  have HV := Lib.hid (show BoxV (((w.alloc (.cells #[.int .i64 1, .bool mk, .slice A na ca, .slice P np cp] 38)).alloc (.cells #[.int .i64 0, .bool false, .slice none 0 0, .slice none 0 0] 38)).alloc (.cells #[.int .i64 0, .int .i64 0, .bool false, .slice none 0 0] 53)) w.heap.size #[.int .i64 1, .bool mk, .slice A na ca, .slice P np cp] from ((BoxV.new w _).below ((Below.refl _ _).alloc (Nat.le_refl _) _) (by simp)).below ((Below.refl _ _).alloc (Nat.le_refl _) _) (by simp; omega))
  have HV1 := Lib.hid (show BoxV (((w.alloc (.cells #[.int .i64 1, .bool mk, .slice A na ca, .slice P np cp] 38)).alloc (.cells #[.int .i64 0, .bool false, .slice none 0 0, .slice none 0 0] 38)).alloc (.cells #[.int .i64 0, .int .i64 0, .bool false, .slice none 0 0] 53)) (w.heap.size + 1) #[.int .i64 0, .bool false, .slice none 0 0, .slice none 0 0] from by have h := BoxV.new (w.alloc (.cells #[.int .i64 1, .bool mk, .slice A na ca, .slice P np cp] 38)) #[.int .i64 0, .bool false, .slice none 0 0, .slice none 0 0]; simp only [World.size_alloc] at h; exact h.below ((Below.refl _ _).alloc (Nat.le_refl _) _) (by simp))
  have HA2 := Lib.hid (show BoxA (((w.alloc (.cells #[.int .i64 1, .bool mk, .slice A na ca, .slice P np cp] 38)).alloc (.cells #[.int .i64 0, .bool false, .slice none 0 0, .slice none 0 0] 38)).alloc (.cells #[.int .i64 0, .int .i64 0, .bool false, .slice none 0 0] 53)) (w.heap.size + 1 + 1) #[.int .i64 0, .int .i64 0, .bool false, .slice none 0 0] from by have h := BoxA.new ((w.alloc (.cells #[.int .i64 1, .bool mk, .slice A na ca, .slice P np cp] 38)).alloc (.cells #[.int .i64 0, .bool false, .slice none 0 0, .slice none 0 0] 38)) #[.int .i64 0, .int .i64 0, .bool false, .slice none 0 0]; simp only [World.size_alloc] at h; exact h)
  have HC := spec_VpOk_any 1 mk A na ca zs P np cp bs (((w.alloc (.cells #[.int .i64 1, .bool mk, .slice A na ca, .slice P np cp] 38)).alloc (.cells #[.int .i64 0, .bool false, .slice none 0 0, .slice none 0 0] 38)).alloc (.cells #[.int .i64 0, .int .i64 0, .bool false, .slice none 0 0] 53)) ((hr.below (Nat.le_refl _) HW0.out).more HW0.out.size) hl (by omega) ((hp.below (Nat.le_refl _) HW0.out).more HW0.out.size) hg hpl hP (by omega) hpc
  rw [hok] at HC
  have HC := Lib.hid HC
  have HCP := Lib.hid (fun W (h : Below w.heap.size w W) => copy_any 1 mk A na ca zs P np cp bs W ((hr.below (Nat.le_refl _) h).more h.size) hA hl hn ((hp.below (Nat.le_refl _) h).more h.size) hP hpl hpn)
  have hl0 : ¬ b < 0 := by omega
  have hl1 : ¬ 255 < b := by omega
  subst hb
  clear hr hA hl hn hp hP hg hpl hpn hpc hok 
  go_enter Tryd.func12, Tryd.ntmps12
  go_wp2_with fail
  refine HC.out.mono ?_
  rintro e w1 ⟨rfl, hb1⟩
  have HW1 := Lib.hid (HW0.out.trans (hb1.mono (by simp <;> omega)))
  have v1 := HV1.out.below hb1 (by simp <;> omega)
  have a2 := HA2.out.below hb1 (by simp <;> omega)
  have v0 := HV.out.below hb1 (by simp <;> omega)
  have hz1 : w.heap.size + 1 + 1 < w1.heap.size := by have := hb1.size; simp at this; omega
  have HV0 := Lib.hid v0
  have HV2 := Lib.hid v1
  have HA3 := Lib.hid a2
  have y0 : w1.cell? ⟨w.heap.size, 0, none⟩ = some (.int .i64 1) := v0.cell 0
  have y1 : w1.cell? ⟨w.heap.size, 1, none⟩ = some (.bool mk) := v0.cell 1
  have y2 : w1.cell? ⟨w.heap.size, 2, none⟩ = some (.slice A na ca) := v0.cell 2
  have y3 : w1.cell? ⟨w.heap.size, 3, none⟩ = some (.slice P np cp) := v0.cell 3
  clear v0 v1 a2 hb1
  go_wp2_with fail
  refine (HCP.out _ HW1.out).mono ?_
  rintro e w2 ⟨A1, c1, P1, d1, rfl, hi2, hq2, hb2⟩
  have HW2 := Lib.hid (HW1.out.trans (hb2.mono (by omega)))
  have HV3 := Lib.hid (HV2.out.below hb2 (by omega))
  have HA4 := Lib.hid (HA3.out.below hb2 hz1)
  have hv0 := HV0.out.below hb2 (by omega)
  have HI2 := Lib.hid hi2
  have HQ2 := Lib.hid hq2
  have hz2 : w1.heap.size ≤ w2.heap.size := hb2.size
  have hz3 : w.heap.size < w2.heap.size := by omega
  have hz4 : w.heap.size + 1 < w2.heap.size := by omega
  have hz5 : w.heap.size + 1 + 1 < w2.heap.size := by omega
  clear y0 y1 y2 y3
  have y0 : w2.cell? ⟨w.heap.size, 0, none⟩ = some (.int .i64 1) := hv0.cell 0
  have y1 : w2.cell? ⟨w.heap.size, 1, none⟩ = some (.bool mk) := hv0.cell 1
  have y2 : w2.cell? ⟨w.heap.size, 2, none⟩ = some (.slice A na ca) := hv0.cell 2
  have y3 : w2.cell? ⟨w.heap.size, 3, none⟩ = some (.slice P np cp) := hv0.cell 3
  clear hi2 hq2 hb2 hv0
  have v1 := HV3.out
  have a2 := HA4.out
  have x0 : w2.cell? ⟨w.heap.size + 1, 0, none⟩ = some (.int .i64 0) := v1.cell 0
  have x1 : w2.cell? ⟨w.heap.size + 1, 1, none⟩ = some (.bool false) := v1.cell 1
  have x2 : w2.cell? ⟨w.heap.size + 1, 2, none⟩ = some (.slice none 0 0) := v1.cell 2
  have x3 : w2.cell? ⟨w.heap.size + 1, 3, none⟩ = some (.slice none 0 0) := v1.cell 3
  have f0 := v1.free 0
  have f1 := v1.free 1
  have f2 := v1.free 2
  have f3 := v1.free 3
  obtain ⟨⟨u0, u1, u2, u3⟩, g0, g1, g2, g3⟩ := a2.cells
  clear v1 a2
  go_wp2_with fail
  refine bodyPost_ret (v := .tuple #[.agg #[.int .i64 2, .bool false, .slice none 0 0, .slice none 0 0], .agg #[.int .i64 0, .int .i64 0, .bool false, .slice none 0 0]]) (by simp [results, Tryd.results12, go_sem, x0, x1, x2, x3, u0, u1, u2, u3, hz4, hz5]) rfl ?_
  exact ⟨none, 0, 0, none, 0, 0, none, 0, 0, rfl, ownI_nil _ _, own_nil _ _, ownI_nil _ _, .inl rfl, (below_put4 (below_put4 HW2.out (by omega) _ _ _ _) (by omega) _ _ _ _).alloc (by simp; omega) _⟩
set_option maxRecDepth 100000 in
set_option maxHeartbeats 1600000 in
theorem spec_VpByte_1esc (mk : Bool) (A : Option Addr) (na ca : Nat) (zs : List Int) (P : Option Addr) (np cp : Nat) (bs : List Int) (b : Int) (w : World) (hr : RdI w w.heap.size A zs) (hA : A = none → na = 0 ∧ ca = 0) (hl : zs.length = na) (hn : na ≤ 1048576) (hp : Rd w w.heap.size P bs) (hP : P = none → np = 0 ∧ cp = 0) (hg : Rng bs) (hpl : bs.length = np) (hpn : np ≤ 1048576) (hpc : np ≤ cp) (hok : okVp 1 mk zs bs = true) (n27 : (b == 27) = false) (n24 : (b == 24) = false) (n26 : (b == 26) = false) (hb0 : 0 ≤ b) (hb1 : b ≤ 255) (hb : b ≠ 91) (hl48 : 48 ≤ b) (hu : b ≤ 126) :
    Calls Tryd.prog 12 #[.agg #[.int .i64 1, .bool mk, .slice A na ca, .slice P np cp], .int .i64 b] w (AnsVB w (vz, ⟨3, b, false, []⟩)) := by
  have HW0 := Lib.hid (show Below w.heap.size w (((w.alloc (.cells #[.int .i64 1, .bool mk, .slice A na ca, .slice P np cp] 38)).alloc (.cells #[.int .i64 0, .bool false, .slice none 0 0, .slice none 0 0] 38)).alloc (.cells #[.int .i64 0, .int .i64 0, .bool false, .slice none 0 0] 53)) from (((Below.refl _ _).alloc (Nat.le_refl _) _).alloc (by simp) _).alloc (by simp; omega) _)
  have HV := Lib.hid (show BoxV (((w.alloc (.cells #[.int .i64 1, .bool mk, .slice A na ca, .slice P np cp] 38)).alloc (.cells #[.int .i64 0, .bool false, .slice none 0 0, .slice none 0 0] 38)).alloc (.cells #[.int .i64 0, .int .i64 0, .bool false, .slice none 0 0] 53)) w.heap.size #[.int .i64 1, .bool mk, .slice A na ca, .slice P np cp] from ((BoxV.new w _).below ((Below.refl _ _).alloc (Nat.le_refl _) _) (by simp)).below ((Below.refl _ _).alloc (Nat.le_refl _) _) (by simp; omega))
  have HV1 := Lib.hid (show BoxV (((w.alloc (.cells #[.int .i64 1, .bool mk, .slice A na ca, .slice P np cp] 38)).alloc (.cells #[.int .i64 0, .bool false, .slice none 0 0, .slice none 0 0] 38)).alloc (.cells #[.int .i64 0, .int .i64 0, .bool false, .slice none 0 0] 53)) (w.heap.size + 1) #[.int .i64 0, .bool false, .slice none 0 0, .slice none 0 0] from by have h := BoxV.new (w.alloc (.cells #[.int .i64 1, .bool mk, .slice A na ca, .slice P np cp] 38)) #[.int .i64 0, .bool false, .slice none 0 0, .slice none 0 0]; simp only [World.size_alloc] at h; exact h.below ((Below.refl _ _).alloc (Nat.le_refl _) _) (by simp))
  have HA2 := Lib.hid (show BoxA (((w.alloc (.cells #[.int .i64 1, .bool mk, .slice A na ca, .slice P np cp] 38)).alloc (.cells #[.int .i64 0, .bool false, .slice none 0 0, .slice none 0 0] 38)).alloc (.cells #[.int .i64 0, .int .i64 0, .bool false, .slice none 0 0] 53)) (w.heap.size + 1 + 1) #[.int .i64 0, .int .i64 0, .bool false, .slice none 0 0] from by have h := BoxA.new ((w.alloc (.cells #[.int .i64 1, .bool mk, .slice A na ca, .slice P np cp] 38)).alloc (.cells #[.int .i64 0, .bool false, .slice none 0 0, .slice none 0 0] 38)) #[.int .i64 0, .int .i64 0, .bool false, .slice none 0 0]; simp only [World.size_alloc] at h; exact h)
  have HC := spec_VpOk_any 1 mk A na ca zs P np cp bs (((w.alloc (.cells #[.int .i64 1, .bool mk, .slice A na ca, .slice P np cp] 38)).alloc (.cells #[.int .i64 0, .bool false, .slice none 0 0, .slice none 0 0] 38)).alloc (.cells #[.int .i64 0, .int .i64 0, .bool false, .slice none 0 0] 53)) ((hr.below (Nat.le_refl _) HW0.out).more HW0.out.size) hl (by omega) ((hp.below (Nat.le_refl _) HW0.out).more HW0.out.size) hg hpl hP (by omega) hpc
  rw [hok] at HC
  have HC := Lib.hid HC
  have HCP := Lib.hid (fun W (h : Below w.heap.size w W) => copy_any 1 mk A na ca zs P np cp bs W ((hr.below (Nat.le_refl _) h).more h.size) hA hl hn ((hp.below (Nat.le_refl _) h).more h.size) hP hpl hpn)
  have hl0 : ¬ b < 0 := by omega
  have hl1 : ¬ 255 < b := by omega
  have n91 : (b == 91) = false := by simpa using hb
  clear hr hA hl hn hp hP hg hpl hpn hpc hok hb
  go_enter Tryd.func12, Tryd.ntmps12
  go_wp2_with fail
  refine HC.out.mono ?_
  rintro e w1 ⟨rfl, hb1⟩
  have HW1 := Lib.hid (HW0.out.trans (hb1.mono (by simp <;> omega)))
  have v1 := HV1.out.below hb1 (by simp <;> omega)
  have a2 := HA2.out.below hb1 (by simp <;> omega)
  have v0 := HV.out.below hb1 (by simp <;> omega)
  have hz1 : w.heap.size + 1 + 1 < w1.heap.size := by have := hb1.size; simp at this; omega
  have HV0 := Lib.hid v0
  have HV2 := Lib.hid v1
  have HA3 := Lib.hid a2
  have y0 : w1.cell? ⟨w.heap.size, 0, none⟩ = some (.int .i64 1) := v0.cell 0
  have y1 : w1.cell? ⟨w.heap.size, 1, none⟩ = some (.bool mk) := v0.cell 1
  have y2 : w1.cell? ⟨w.heap.size, 2, none⟩ = some (.slice A na ca) := v0.cell 2
  have y3 : w1.cell? ⟨w.heap.size, 3, none⟩ = some (.slice P np cp) := v0.cell 3
  clear v0 v1 a2 hb1
  go_wp2_with fail
  refine (HCP.out _ HW1.out).mono ?_
  rintro e w2 ⟨A1, c1, P1, d1, rfl, hi2, hq2, hb2⟩
  have HW2 := Lib.hid (HW1.out.trans (hb2.mono (by omega)))
  have HV3 := Lib.hid (HV2.out.below hb2 (by omega))
  have HA4 := Lib.hid (HA3.out.below hb2 hz1)
  have hv0 := HV0.out.below hb2 (by omega)
  have HI2 := Lib.hid hi2
  have HQ2 := Lib.hid hq2
  have hz2 : w1.heap.size ≤ w2.heap.size := hb2.size
  have hz3 : w.heap.size < w2.heap.size := by omega
  have hz4 : w.heap.size + 1 < w2.heap.size := by omega
  have hz5 : w.heap.size + 1 + 1 < w2.heap.size := by omega
  clear y0 y1 y2 y3
  have y0 : w2.cell? ⟨w.heap.size, 0, none⟩ = some (.int .i64 1) := hv0.cell 0
  have y1 : w2.cell? ⟨w.heap.size, 1, none⟩ = some (.bool mk) := hv0.cell 1
  have y2 : w2.cell? ⟨w.heap.size, 2, none⟩ = some (.slice A na ca) := hv0.cell 2
  have y3 : w2.cell? ⟨w.heap.size, 3, none⟩ = some (.slice P np cp) := hv0.cell 3
  clear hi2 hq2 hb2 hv0
  have v1 := HV3.out
  have a2 := HA4.out
  have x0 : w2.cell? ⟨w.heap.size + 1, 0, none⟩ = some (.int .i64 0) := v1.cell 0
  have x1 : w2.cell? ⟨w.heap.size + 1, 1, none⟩ = some (.bool false) := v1.cell 1
  have x2 : w2.cell? ⟨w.heap.size + 1, 2, none⟩ = some (.slice none 0 0) := v1.cell 2
  have x3 : w2.cell? ⟨w.heap.size + 1, 3, none⟩ = some (.slice none 0 0) := v1.cell 3
  have f0 := v1.free 0
  have f1 := v1.free 1
  have f2 := v1.free 2
  have f3 := v1.free 3
  obtain ⟨⟨u0, u1, u2, u3⟩, g0, g1, g2, g3⟩ := a2.cells
  clear v1 a2
  go_wp2_with fail
  refine bodyPost_ret (v := .tuple #[.agg #[.int .i64 0, .bool false, .slice none 0 0, .slice none 0 0], .agg #[.int .i64 3, .int .i64 b, .bool false, .slice none 0 0]]) (by simp [results, Tryd.results12, go_sem, x0, x1, x2, x3, u0, u1, u2, u3, hz4, hz5]) rfl ?_
  exact ⟨none, 0, 0, none, 0, 0, none, 0, 0, rfl, ownI_nil _ _, own_nil _ _, ownI_nil _ _, .inl rfl, (below_put4 (below_put4 HW2.out (by omega) _ _ _ _) (by omega) _ _ _ _).alloc (by simp; omega) _⟩
set_option maxRecDepth 100000 in
set_option maxHeartbeats 1600000 in
theorem spec_VpByte_1lo (mk : Bool) (A : Option Addr) (na ca : Nat) (zs : List Int) (P : Option Addr) (np cp : Nat) (bs : List Int) (b : Int) (w : World) (hr : RdI w w.heap.size A zs) (hA : A = none → na = 0 ∧ ca = 0) (hl : zs.length = na) (hn : na ≤ 1048576) (hp : Rd w w.heap.size P bs) (hP : P = none → np = 0 ∧ cp = 0) (hg : Rng bs) (hpl : bs.length = np) (hpn : np ≤ 1048576) (hpc : np ≤ cp) (hok : okVp 1 mk zs bs = true) (n27 : (b == 27) = false) (n24 : (b == 24) = false) (n26 : (b == 26) = false) (hb0 : 0 ≤ b) (hb1 : b ≤ 255) (hl48 : b < 48) :
    Calls Tryd.prog 12 #[.agg #[.int .i64 1, .bool mk, .slice A na ca, .slice P np cp], .int .i64 b] w (AnsVB w (vz, az)) := by
  have HW0 := Lib.hid (show Below w.heap.size w (((w.alloc (.cells #[.int .i64 1, .bool mk, .slice A na ca, .slice P np cp] 38)).alloc (.cells #[.int .i64 0, .bool false, .slice none 0 0, .slice none 0 0] 38)).alloc (.cells #[.int .i64 0, .int .i64 0, .bool false, .slice none 0 0] 53)) from (((Below.refl _ _).alloc (Nat.le_refl _) _).alloc (by simp) _).alloc (by simp; omega) _)
  have HV := Lib.hid (show BoxV (((w.alloc (.cells #[.int .i64 1, .bool mk, .slice A na ca, .slice P np cp] 38)).alloc (.cells #[.int .i64 0, .bool false, .slice none 0 0, .slice none 0 0] 38)).alloc (.cells #[.int .i64 0, .int .i64 0, .bool false, .slice none 0 0] 53)) w.heap.size #[.int .i64 1, .bool mk, .slice A na ca, .slice P np cp] from ((BoxV.new w _).below ((Below.refl _ _).alloc (Nat.le_refl _) _) (by simp)).below ((Below.refl _ _).alloc (Nat.le_refl _) _) (by simp; omega))
  have HV1 := Lib.hid (show BoxV (((w.alloc (.cells #[.int .i64 1, .bool mk, .slice A na ca, .slice P np cp] 38)).alloc (.cells #[.int .i64 0, .bool false, .slice none 0 0, .slice none 0 0] 38)).alloc (.cells #[.int .i64 0, .int .i64 0, .bool false, .slice none 0 0] 53)) (w.heap.size + 1) #[.int .i64 0, .bool false, .slice none 0 0, .slice none 0 0] from by have h := BoxV.new (w.alloc (.cells #[.int .i64 1, .bool mk, .slice A na ca, .slice P np cp] 38)) #[.int .i64 0, .bool false, .slice none 0 0, .slice none 0 0]; simp only [World.size_alloc] at h; exact h.below ((Below.refl _ _).alloc (Nat.le_refl _) _) (by simp))
  have HA2 := Lib.hid (show BoxA (((w.alloc (.cells #[.int .i64 1, .bool mk, .slice A na ca, .slice P np cp] 38)).alloc (.cells #[.int .i64 0, .bool false, .slice none 0 0, .slice none 0 0] 38)).alloc (.cells #[.int .i64 0, .int .i64 0, .bool false, .slice none 0 0] 53)) (w.heap.size + 1 + 1) #[.int .i64 0, .int .i64 0, .bool false, .slice none 0 0] from by have h := BoxA.new ((w.alloc (.cells #[.int .i64 1, .bool mk, .slice A na ca, .slice P np cp] 38)).alloc (.cells #[.int .i64 0, .bool false, .slice none 0 0, .slice none 0 0] 38)) #[.int .i64 0, .int .i64 0, .bool false, .slice none 0 0]; simp only [World.size_alloc] at h; exact h)
  have HC := spec_VpOk_any 1 mk A na ca zs P np cp bs (((w.alloc (.cells #[.int .i64 1, .bool mk, .slice A na ca, .slice P np cp] 38)).alloc (.cells #[.int .i64 0, .bool false, .slice none 0 0, .slice none 0 0] 38)).alloc (.cells #[.int .i64 0, .int .i64 0, .bool false, .slice none 0 0] 53)) ((hr.below (Nat.le_refl _) HW0.out).more HW0.out.size) hl (by omega) ((hp.below (Nat.le_refl _) HW0.out).more HW0.out.size) hg hpl hP (by omega) hpc
  rw [hok] at HC
  have HC := Lib.hid HC
  have HCP := Lib.hid (fun W (h : Below w.heap.size w W) => copy_any 1 mk A na ca zs P np cp bs W ((hr.below (Nat.le_refl _) h).more h.size) hA hl hn ((hp.below (Nat.le_refl _) h).more h.size) hP hpl hpn)
  have hl0 : ¬ b < 0 := by omega
  have hl1 : ¬ 255 < b := by omega
  have n91 : (b == 91) = false := by simp; omega
  have l48 : ¬ 48 ≤ b := by omega
  clear hr hA hl hn hp hP hg hpl hpn hpc hok 
  go_enter Tryd.func12, Tryd.ntmps12
  go_wp2_with fail
  refine HC.out.mono ?_
  rintro e w1 ⟨rfl, hb1⟩
  have HW1 := Lib.hid (HW0.out.trans (hb1.mono (by simp <;> omega)))
  have v1 := HV1.out.below hb1 (by simp <;> omega)
  have a2 := HA2.out.below hb1 (by simp <;> omega)
  have v0 := HV.out.below hb1 (by simp <;> omega)
  have hz1 : w.heap.size + 1 + 1 < w1.heap.size := by have := hb1.size; simp at this; omega
  have HV0 := Lib.hid v0
  have HV2 := Lib.hid v1
  have HA3 := Lib.hid a2
  have y0 : w1.cell? ⟨w.heap.size, 0, none⟩ = some (.int .i64 1) := v0.cell 0
  have y1 : w1.cell? ⟨w.heap.size, 1, none⟩ = some (.bool mk) := v0.cell 1
  have y2 : w1.cell? ⟨w.heap.size, 2, none⟩ = some (.slice A na ca) := v0.cell 2
  have y3 : w1.cell? ⟨w.heap.size, 3, none⟩ = some (.slice P np cp) := v0.cell 3
  clear v0 v1 a2 hb1
  go_wp2_with fail
  refine (HCP.out _ HW1.out).mono ?_
  rintro e w2 ⟨A1, c1, P1, d1, rfl, hi2, hq2, hb2⟩
  have HW2 := Lib.hid (HW1.out.trans (hb2.mono (by omega)))
  have HV3 := Lib.hid (HV2.out.below hb2 (by omega))
  have HA4 := Lib.hid (HA3.out.below hb2 hz1)
  have hv0 := HV0.out.below hb2 (by omega)
  have HI2 := Lib.hid hi2
  have HQ2 := Lib.hid hq2
  have hz2 : w1.heap.size ≤ w2.heap.size := hb2.size
  have hz3 : w.heap.size < w2.heap.size := by omega
  have hz4 : w.heap.size + 1 < w2.heap.size := by omega
  have hz5 : w.heap.size + 1 + 1 < w2.heap.size := by omega
  clear y0 y1 y2 y3
  have y0 : w2.cell? ⟨w.heap.size, 0, none⟩ = some (.int .i64 1) := hv0.cell 0
  have y1 : w2.cell? ⟨w.heap.size, 1, none⟩ = some (.bool mk) := hv0.cell 1
  have y2 : w2.cell? ⟨w.heap.size, 2, none⟩ = some (.slice A na ca) := hv0.cell 2
  have y3 : w2.cell? ⟨w.heap.size, 3, none⟩ = some (.slice P np cp) := hv0.cell 3
  clear hi2 hq2 hb2 hv0
  have v1 := HV3.out
  have a2 := HA4.out
  have x0 : w2.cell? ⟨w.heap.size + 1, 0, none⟩ = some (.int .i64 0) := v1.cell 0
  have x1 : w2.cell? ⟨w.heap.size + 1, 1, none⟩ = some (.bool false) := v1.cell 1
  have x2 : w2.cell? ⟨w.heap.size + 1, 2, none⟩ = some (.slice none 0 0) := v1.cell 2
  have x3 : w2.cell? ⟨w.heap.size + 1, 3, none⟩ = some (.slice none 0 0) := v1.cell 3
  have f0 := v1.free 0
  have f1 := v1.free 1
  have f2 := v1.free 2
  have f3 := v1.free 3
  obtain ⟨⟨u0, u1, u2, u3⟩, g0, g1, g2, g3⟩ := a2.cells
  clear v1 a2
  go_wp2_with fail
  refine bodyPost_ret (v := .tuple #[.agg #[.int .i64 0, .bool false, .slice none 0 0, .slice none 0 0], .agg #[.int .i64 0, .int .i64 0, .bool false, .slice none 0 0]]) (by simp [results, Tryd.results12, go_sem, x0, x1, x2, x3, u0, u1, u2, u3, hz4, hz5]) rfl ?_
  exact ⟨none, 0, 0, none, 0, 0, none, 0, 0, rfl, ownI_nil _ _, own_nil _ _, ownI_nil _ _, .inl rfl, (below_put4 (below_put4 HW2.out (by omega) _ _ _ _) (by omega) _ _ _ _).alloc (by simp; omega) _⟩
set_option maxRecDepth 100000 in
set_option maxHeartbeats 1600000 in
theorem spec_VpByte_1hi (mk : Bool) (A : Option Addr) (na ca : Nat) (zs : List Int) (P : Option Addr) (np cp : Nat) (bs : List Int) (b : Int) (w : World) (hr : RdI w w.heap.size A zs) (hA : A = none → na = 0 ∧ ca = 0) (hl : zs.length = na) (hn : na ≤ 1048576) (hp : Rd w w.heap.size P bs) (hP : P = none → np = 0 ∧ cp = 0) (hg : Rng bs) (hpl : bs.length = np) (hpn : np ≤ 1048576) (hpc : np ≤ cp) (hok : okVp 1 mk zs bs = true) (n27 : (b == 27) = false) (n24 : (b == 24) = false) (n26 : (b == 26) = false) (hb0 : 0 ≤ b) (hb1 : b ≤ 255) (hl48 : 126 < b) :
    Calls Tryd.prog 12 #[.agg #[.int .i64 1, .bool mk, .slice A na ca, .slice P np cp], .int .i64 b] w (AnsVB w (vz, az)) := by
  have HW0 := Lib.hid (show Below w.heap.size w (((w.alloc (.cells #[.int .i64 1, .bool mk, .slice A na ca, .slice P np cp] 38)).alloc (.cells #[.int .i64 0, .bool false, .slice none 0 0, .slice none 0 0] 38)).alloc (.cells #[.int .i64 0, .int .i64 0, .bool false, .slice none 0 0] 53)) from (((Below.refl _ _).alloc (Nat.le_refl _) _).alloc (by simp) _).alloc (by simp; omega) _)
  have HV := Lib.hid (show BoxV (((w.alloc (.cells #[.int .i64 1, .bool mk, .slice A na ca, .slice P np cp] 38)).alloc (.cells #[.int .i64 0, .bool false, .slice none 0 0, .slice none 0 0] 38)).alloc (.cells #[.int .i64 0, .int .i64 0, .bool false, .slice none 0 0] 53)) w.heap.size #[.int .i64 1, .bool mk, .slice A na ca, .slice P np cp] from ((BoxV.new w _).below ((Below.refl _ _).alloc (Nat.le_refl _) _) (by simp)).below ((Below.refl _ _).alloc (Nat.le_refl _) _) (by simp; omega))
  have HV1 := Lib.hid (show BoxV (((w.alloc (.cells #[.int .i64 1, .bool mk, .slice A na ca, .slice P np cp] 38)).alloc (.cells #[.int .i64 0, .bool false, .slice none 0 0, .slice none 0 0] 38)).alloc (.cells #[.int .i64 0, .int .i64 0, .bool false, .slice none 0 0] 53)) (w.heap.size + 1) #[.int .i64 0, .bool false, .slice none 0 0, .slice none 0 0] from by have h := BoxV.new (w.alloc (.cells #[.int .i64 1, .bool mk, .slice A na ca, .slice P np cp] 38)) #[.int .i64 0, .bool false, .slice none 0 0, .slice none 0 0]; simp only [World.size_alloc] at h; exact h.below ((Below.refl _ _).alloc (Nat.le_refl _) _) (by simp))
  have HA2 := Lib.hid (show BoxA (((w.alloc (.cells #[.int .i64 1, .bool mk, .slice A na ca, .slice P np cp] 38)).alloc (.cells #[.int .i64 0, .bool false, .slice none 0 0, .slice none 0 0] 38)).alloc (.cells #[.int .i64 0, .int .i64 0, .bool false, .slice none 0 0] 53)) (w.heap.size + 1 + 1) #[.int .i64 0, .int .i64 0, .bool false, .slice none 0 0] from by have h := BoxA.new ((w.alloc (.cells #[.int .i64 1, .bool mk, .slice A na ca, .slice P np cp] 38)).alloc (.cells #[.int .i64 0, .bool false, .slice none 0 0, .slice none 0 0] 38)) #[.int .i64 0, .int .i64 0, .bool false, .slice none 0 0]; simp only [World.size_alloc] at h; exact h)
  have HC := spec_VpOk_any 1 mk A na ca zs P np cp bs (((w.alloc (.cells #[.int .i64 1, .bool mk, .slice A na ca, .slice P np cp] 38)).alloc (.cells #[.int .i64 0, .bool false, .slice none 0 0, .slice none 0 0] 38)).alloc (.cells #[.int .i64 0, .int .i64 0, .bool false, .slice none 0 0] 53)) ((hr.below (Nat.le_refl _) HW0.out).more HW0.out.size) hl (by omega) ((hp.below (Nat.le_refl _) HW0.out).more HW0.out.size) hg hpl hP (by omega) hpc
  rw [hok] at HC
  have HC := Lib.hid HC
  have HCP := Lib.hid (fun W (h : Below w.heap.size w W) => copy_any 1 mk A na ca zs P np cp bs W ((hr.below (Nat.le_refl _) h).more h.size) hA hl hn ((hp.below (Nat.le_refl _) h).more h.size) hP hpl hpn)
  have hl0 : ¬ b < 0 := by omega
  have hl1 : ¬ 255 < b := by omega
  have n91 : (b == 91) = false := by simp; omega
  have g48 : 48 ≤ b := by omega
  have l126 : decide (b ≤ 126) = false := by simp; omega
  clear hr hA hl hn hp hP hg hpl hpn hpc hok 
  go_enter Tryd.func12, Tryd.ntmps12
  go_wp2_with fail
  refine HC.out.mono ?_
  rintro e w1 ⟨rfl, hb1⟩
  have HW1 := Lib.hid (HW0.out.trans (hb1.mono (by simp <;> omega)))
  have v1 := HV1.out.below hb1 (by simp <;> omega)
  have a2 := HA2.out.below hb1 (by simp <;> omega)
  have v0 := HV.out.below hb1 (by simp <;> omega)
  have hz1 : w.heap.size + 1 + 1 < w1.heap.size := by have := hb1.size; simp at this; omega
  have HV0 := Lib.hid v0
  have HV2 := Lib.hid v1
  have HA3 := Lib.hid a2
  have y0 : w1.cell? ⟨w.heap.size, 0, none⟩ = some (.int .i64 1) := v0.cell 0
  have y1 : w1.cell? ⟨w.heap.size, 1, none⟩ = some (.bool mk) := v0.cell 1
  have y2 : w1.cell? ⟨w.heap.size, 2, none⟩ = some (.slice A na ca) := v0.cell 2
  have y3 : w1.cell? ⟨w.heap.size, 3, none⟩ = some (.slice P np cp) := v0.cell 3
  clear v0 v1 a2 hb1
  go_wp2_with fail
  refine (HCP.out _ HW1.out).mono ?_
  rintro e w2 ⟨A1, c1, P1, d1, rfl, hi2, hq2, hb2⟩
  have HW2 := Lib.hid (HW1.out.trans (hb2.mono (by omega)))
  have HV3 := Lib.hid (HV2.out.below hb2 (by omega))
  have HA4 := Lib.hid (HA3.out.below hb2 hz1)
  have hv0 := HV0.out.below hb2 (by omega)
  have HI2 := Lib.hid hi2
  have HQ2 := Lib.hid hq2
  have hz2 : w1.heap.size ≤ w2.heap.size := hb2.size
  have hz3 : w.heap.size < w2.heap.size := by omega
  have hz4 : w.heap.size + 1 < w2.heap.size := by omega
  have hz5 : w.heap.size + 1 + 1 < w2.heap.size := by omega
  clear y0 y1 y2 y3
  have y0 : w2.cell? ⟨w.heap.size, 0, none⟩ = some (.int .i64 1) := hv0.cell 0
  have y1 : w2.cell? ⟨w.heap.size, 1, none⟩ = some (.bool mk) := hv0.cell 1
  have y2 : w2.cell? ⟨w.heap.size, 2, none⟩ = some (.slice A na ca) := hv0.cell 2
  have y3 : w2.cell? ⟨w.heap.size, 3, none⟩ = some (.slice P np cp) := hv0.cell 3
  clear hi2 hq2 hb2 hv0
  have v1 := HV3.out
  have a2 := HA4.out
  have x0 : w2.cell? ⟨w.heap.size + 1, 0, none⟩ = some (.int .i64 0) := v1.cell 0
  have x1 : w2.cell? ⟨w.heap.size + 1, 1, none⟩ = some (.bool false) := v1.cell 1
  have x2 : w2.cell? ⟨w.heap.size + 1, 2, none⟩ = some (.slice none 0 0) := v1.cell 2
  have x3 : w2.cell? ⟨w.heap.size + 1, 3, none⟩ = some (.slice none 0 0) := v1.cell 3
  have f0 := v1.free 0
  have f1 := v1.free 1
  have f2 := v1.free 2
  have f3 := v1.free 3
  obtain ⟨⟨u0, u1, u2, u3⟩, g0, g1, g2, g3⟩ := a2.cells
  clear v1 a2
  go_wp2_with fail
  refine bodyPost_ret (v := .tuple #[.agg #[.int .i64 0, .bool false, .slice none 0 0, .slice none 0 0], .agg #[.int .i64 0, .int .i64 0, .bool false, .slice none 0 0]]) (by simp [results, Tryd.results12, go_sem, x0, x1, x2, x3, u0, u1, u2, u3, hz4, hz5]) rfl ?_
  exact ⟨none, 0, 0, none, 0, 0, none, 0, 0, rfl, ownI_nil _ _, own_nil _ _, ownI_nil _ _, .inl rfl, (below_put4 (below_put4 HW2.out (by omega) _ _ _ _) (by omega) _ _ _ _).alloc (by simp; omega) _⟩
set_option maxRecDepth 100000 in
set_option maxHeartbeats 1600000 in
theorem spec_VpByte_3end (mk : Bool) (A : Option Addr) (na ca : Nat) (zs : List Int) (P : Option Addr) (np cp : Nat) (bs : List Int) (b : Int) (w : World) (hr : RdI w w.heap.size A zs) (hA : A = none → na = 0 ∧ ca = 0) (hl : zs.length = na) (hn : na ≤ 1048576) (hp : Rd w w.heap.size P bs) (hP : P = none → np = 0 ∧ cp = 0) (hg : Rng bs) (hpl : bs.length = np) (hpn : np ≤ 1048576) (hpc : np ≤ cp) (hok : okVp 3 mk zs bs = true) (n27 : (b == 27) = false) (n24 : (b == 24) = false) (n26 : (b == 26) = false) (hb0 : 0 ≤ b) (hb1 : b ≤ 255) (hl64 : 64 ≤ b) (hu : b ≤ 126) :
    Calls Tryd.prog 12 #[.agg #[.int .i64 3, .bool mk, .slice A na ca, .slice P np cp], .int .i64 b] w (AnsVB w (vz, az)) := by
  have HW0 := Lib.hid (show Below w.heap.size w (((w.alloc (.cells #[.int .i64 3, .bool mk, .slice A na ca, .slice P np cp] 38)).alloc (.cells #[.int .i64 0, .bool false, .slice none 0 0, .slice none 0 0] 38)).alloc (.cells #[.int .i64 0, .int .i64 0, .bool false, .slice none 0 0] 53)) from (((Below.refl _ _).alloc (Nat.le_refl _) _).alloc (by simp) _).alloc (by simp; omega) _)
  have HV := Lib.hid (show BoxV (((w.alloc (.cells #[.int .i64 3, .bool mk, .slice A na ca, .slice P np cp] 38)).alloc (.cells #[.int .i64 0, .bool false, .slice none 0 0, .slice none 0 0] 38)).alloc (.cells #[.int .i64 0, .int .i64 0, .bool false, .slice none 0 0] 53)) w.heap.size #[.int .i64 3, .bool mk, .slice A na ca, .slice P np cp] from ((BoxV.new w _).below ((Below.refl _ _).alloc (Nat.le_refl _) _) (by simp)).below ((Below.refl _ _).alloc (Nat.le_refl _) _) (by simp; omega))
  have HV1 := Lib.hid (show BoxV (((w.alloc (.cells #[.int .i64 3, .bool mk, .slice A na ca, .slice P np cp] 38)).alloc (.cells #[.int .i64 0, .bool false, .slice none 0 0, .slice none 0 0] 38)).alloc (.cells #[.int .i64 0, .int .i64 0, .bool false, .slice none 0 0] 53)) (w.heap.size + 1) #[.int .i64 0, .bool false, .slice none 0 0, .slice none 0 0] from by have h := BoxV.new (w.alloc (.cells #[.int .i64 3, .bool mk, .slice A na ca, .slice P np cp] 38)) #[.int .i64 0, .bool false, .slice none 0 0, .slice none 0 0]; simp only [World.size_alloc] at h; exact h.below ((Below.refl _ _).alloc (Nat.le_refl _) _) (by simp))
  have HA2 := Lib.hid (show BoxA (((w.alloc (.cells #[.int .i64 3, .bool mk, .slice A na ca, .slice P np cp] 38)).alloc (.cells #[.int .i64 0, .bool false, .slice none 0 0, .slice none 0 0] 38)).alloc (.cells #[.int .i64 0, .int .i64 0, .bool false, .slice none 0 0] 53)) (w.heap.size + 1 + 1) #[.int .i64 0, .int .i64 0, .bool false, .slice none 0 0] from by have h := BoxA.new ((w.alloc (.cells #[.int .i64 3, .bool mk, .slice A na ca, .slice P np cp] 38)).alloc (.cells #[.int .i64 0, .bool false, .slice none 0 0, .slice none 0 0] 38)) #[.int .i64 0, .int .i64 0, .bool false, .slice none 0 0]; simp only [World.size_alloc] at h; exact h)
  have HC := spec_VpOk_any 3 mk A na ca zs P np cp bs (((w.alloc (.cells #[.int .i64 3, .bool mk, .slice A na ca, .slice P np cp] 38)).alloc (.cells #[.int .i64 0, .bool false, .slice none 0 0, .slice none 0 0] 38)).alloc (.cells #[.int .i64 0, .int .i64 0, .bool false, .slice none 0 0] 53)) ((hr.below (Nat.le_refl _) HW0.out).more HW0.out.size) hl (by omega) ((hp.below (Nat.le_refl _) HW0.out).more HW0.out.size) hg hpl hP (by omega) hpc
  rw [hok] at HC
  have HC := Lib.hid HC
  have HCP := Lib.hid (fun W (h : Below w.heap.size w W) => copy_any 3 mk A na ca zs P np cp bs W ((hr.below (Nat.le_refl _) h).more h.size) hA hl hn ((hp.below (Nat.le_refl _) h).more h.size) hP hpl hpn)
  have hl0 : ¬ b < 0 := by omega
  have hl1 : ¬ 255 < b := by omega
  clear hr hA hl hn hp hP hg hpl hpn hpc hok 
  go_enter Tryd.func12, Tryd.ntmps12
  go_wp2_with fail
  refine HC.out.mono ?_
  rintro e w1 ⟨rfl, hb1⟩
  have HW1 := Lib.hid (HW0.out.trans (hb1.mono (by simp <;> omega)))
  have v1 := HV1.out.below hb1 (by simp <;> omega)
  have a2 := HA2.out.below hb1 (by simp <;> omega)
  have v0 := HV.out.below hb1 (by simp <;> omega)
  have hz1 : w.heap.size + 1 + 1 < w1.heap.size := by have := hb1.size; simp at this; omega
  have HV0 := Lib.hid v0
  have HV2 := Lib.hid v1
  have HA3 := Lib.hid a2
  have y0 : w1.cell? ⟨w.heap.size, 0, none⟩ = some (.int .i64 3) := v0.cell 0
  have y1 : w1.cell? ⟨w.heap.size, 1, none⟩ = some (.bool mk) := v0.cell 1
  have y2 : w1.cell? ⟨w.heap.size, 2, none⟩ = some (.slice A na ca) := v0.cell 2
  have y3 : w1.cell? ⟨w.heap.size, 3, none⟩ = some (.slice P np cp) := v0.cell 3
  clear v0 v1 a2 hb1
  go_wp2_with fail
  refine (HCP.out _ HW1.out).mono ?_
  rintro e w2 ⟨A1, c1, P1, d1, rfl, hi2, hq2, hb2⟩
  have HW2 := Lib.hid (HW1.out.trans (hb2.mono (by omega)))
  have HV3 := Lib.hid (HV2.out.below hb2 (by omega))
  have HA4 := Lib.hid (HA3.out.below hb2 hz1)
  have hv0 := HV0.out.below hb2 (by omega)
  have HI2 := Lib.hid hi2
  have HQ2 := Lib.hid hq2
  have hz2 : w1.heap.size ≤ w2.heap.size := hb2.size
  have hz3 : w.heap.size < w2.heap.size := by omega
  have hz4 : w.heap.size + 1 < w2.heap.size := by omega
  have hz5 : w.heap.size + 1 + 1 < w2.heap.size := by omega
  clear y0 y1 y2 y3
  have y0 : w2.cell? ⟨w.heap.size, 0, none⟩ = some (.int .i64 3) := hv0.cell 0
  have y1 : w2.cell? ⟨w.heap.size, 1, none⟩ = some (.bool mk) := hv0.cell 1
  have y2 : w2.cell? ⟨w.heap.size, 2, none⟩ = some (.slice A na ca) := hv0.cell 2
  have y3 : w2.cell? ⟨w.heap.size, 3, none⟩ = some (.slice P np cp) := hv0.cell 3
  clear hi2 hq2 hb2 hv0
  have v1 := HV3.out
  have a2 := HA4.out
  have x0 : w2.cell? ⟨w.heap.size + 1, 0, none⟩ = some (.int .i64 0) := v1.cell 0
  have x1 : w2.cell? ⟨w.heap.size + 1, 1, none⟩ = some (.bool false) := v1.cell 1
  have x2 : w2.cell? ⟨w.heap.size + 1, 2, none⟩ = some (.slice none 0 0) := v1.cell 2
  have x3 : w2.cell? ⟨w.heap.size + 1, 3, none⟩ = some (.slice none 0 0) := v1.cell 3
  have f0 := v1.free 0
  have f1 := v1.free 1
  have f2 := v1.free 2
  have f3 := v1.free 3
  obtain ⟨⟨u0, u1, u2, u3⟩, g0, g1, g2, g3⟩ := a2.cells
  clear v1 a2
  go_wp2_with fail
  refine bodyPost_ret (v := .tuple #[.agg #[.int .i64 0, .bool false, .slice none 0 0, .slice none 0 0], .agg #[.int .i64 0, .int .i64 0, .bool false, .slice none 0 0]]) (by simp [results, Tryd.results12, go_sem, x0, x1, x2, x3, u0, u1, u2, u3, hz4, hz5]) rfl ?_
  exact ⟨none, 0, 0, none, 0, 0, none, 0, 0, rfl, ownI_nil _ _, own_nil _ _, ownI_nil _ _, .inl rfl, (below_put4 (below_put4 HW2.out (by omega) _ _ _ _) (by omega) _ _ _ _).alloc (by simp; omega) _⟩
set_option maxRecDepth 100000 in
set_option maxHeartbeats 1600000 in
theorem spec_VpByte_3lo (mk : Bool) (A : Option Addr) (na ca : Nat) (zs : List Int) (P : Option Addr) (np cp : Nat) (bs : List Int) (b : Int) (w : World) (hr : RdI w w.heap.size A zs) (hA : A = none → na = 0 ∧ ca = 0) (hl : zs.length = na) (hn : na ≤ 1048576) (hp : Rd w w.heap.size P bs) (hP : P = none → np = 0 ∧ cp = 0) (hg : Rng bs) (hpl : bs.length = np) (hpn : np ≤ 1048576) (hpc : np ≤ cp) (hok : okVp 3 mk zs bs = true) (n27 : (b == 27) = false) (n24 : (b == 24) = false) (n26 : (b == 26) = false) (hb0 : 0 ≤ b) (hb1 : b ≤ 255) (hl64 : b < 64) :
    Calls Tryd.prog 12 #[.agg #[.int .i64 3, .bool mk, .slice A na ca, .slice P np cp], .int .i64 b] w (AnsVB w (⟨3, mk, zs, bs⟩, az)) := by
  have HW0 := Lib.hid (show Below w.heap.size w (((w.alloc (.cells #[.int .i64 3, .bool mk, .slice A na ca, .slice P np cp] 38)).alloc (.cells #[.int .i64 0, .bool false, .slice none 0 0, .slice none 0 0] 38)).alloc (.cells #[.int .i64 0, .int .i64 0, .bool false, .slice none 0 0] 53)) from (((Below.refl _ _).alloc (Nat.le_refl _) _).alloc (by simp) _).alloc (by simp; omega) _)
  have HV := Lib.hid (show BoxV (((w.alloc (.cells #[.int .i64 3, .bool mk, .slice A na ca, .slice P np cp] 38)).alloc (.cells #[.int .i64 0, .bool false, .slice none 0 0, .slice none 0 0] 38)).alloc (.cells #[.int .i64 0, .int .i64 0, .bool false, .slice none 0 0] 53)) w.heap.size #[.int .i64 3, .bool mk, .slice A na ca, .slice P np cp] from ((BoxV.new w _).below ((Below.refl _ _).alloc (Nat.le_refl _) _) (by simp)).below ((Below.refl _ _).alloc (Nat.le_refl _) _) (by simp; omega))
  have HV1 := Lib.hid (show BoxV (((w.alloc (.cells #[.int .i64 3, .bool mk, .slice A na ca, .slice P np cp] 38)).alloc (.cells #[.int .i64 0, .bool false, .slice none 0 0, .slice none 0 0] 38)).alloc (.cells #[.int .i64 0, .int .i64 0, .bool false, .slice none 0 0] 53)) (w.heap.size + 1) #[.int .i64 0, .bool false, .slice none 0 0, .slice none 0 0] from by have h := BoxV.new (w.alloc (.cells #[.int .i64 3, .bool mk, .slice A na ca, .slice P np cp] 38)) #[.int .i64 0, .bool false, .slice none 0 0, .slice none 0 0]; simp only [World.size_alloc] at h; exact h.below ((Below.refl _ _).alloc (Nat.le_refl _) _) (by simp))
  have HA2 := Lib.hid (show BoxA (((w.alloc (.cells #[.int .i64 3, .bool mk, .slice A na ca, .slice P np cp] 38)).alloc (.cells #[.int .i64 0, .bool false, .slice none 0 0, .slice none 0 0] 38)).alloc (.cells #[.int .i64 0, .int .i64 0, .bool false, .slice none 0 0] 53)) (w.heap.size + 1 + 1) #[.int .i64 0, .int .i64 0, .bool false, .slice none 0 0] from by have h := BoxA.new ((w.alloc (.cells #[.int .i64 3, .bool mk, .slice A na ca, .slice P np cp] 38)).alloc (.cells #[.int .i64 0, .bool false, .slice none 0 0, .slice none 0 0] 38)) #[.int .i64 0, .int .i64 0, .bool false, .slice none 0 0]; simp only [World.size_alloc] at h; exact h)
  have HC := spec_VpOk_any 3 mk A na ca zs P np cp bs (((w.alloc (.cells #[.int .i64 3, .bool mk, .slice A na ca, .slice P np cp] 38)).alloc (.cells #[.int .i64 0, .bool false, .slice none 0 0, .slice none 0 0] 38)).alloc (.cells #[.int .i64 0, .int .i64 0, .bool false, .slice none 0 0] 53)) ((hr.below (Nat.le_refl _) HW0.out).more HW0.out.size) hl (by omega) ((hp.below (Nat.le_refl _) HW0.out).more HW0.out.size) hg hpl hP (by omega) hpc
  rw [hok] at HC
  have HC := Lib.hid HC
  have HCP := Lib.hid (fun W (h : Below w.heap.size w W) => copy_any 3 mk A na ca zs P np cp bs W ((hr.below (Nat.le_refl _) h).more h.size) hA hl hn ((hp.below (Nat.le_refl _) h).more h.size) hP hpl hpn)
  have hl0 : ¬ b < 0 := by omega
  have hl1 : ¬ 255 < b := by omega
  have l64 : ¬ 64 ≤ b := by omega
  clear hr hA hl hn hp hP hg hpl hpn hpc hok 
  go_enter Tryd.func12, Tryd.ntmps12
  go_wp2_with fail
  refine HC.out.mono ?_
  rintro e w1 ⟨rfl, hb1⟩
  have HW1 := Lib.hid (HW0.out.trans (hb1.mono (by simp <;> omega)))
  have v1 := HV1.out.below hb1 (by simp <;> omega)
  have a2 := HA2.out.below hb1 (by simp <;> omega)
  have v0 := HV.out.below hb1 (by simp <;> omega)
  have hz1 : w.heap.size + 1 + 1 < w1.heap.size := by have := hb1.size; simp at this; omega
  have HV0 := Lib.hid v0
  have HV2 := Lib.hid v1
  have HA3 := Lib.hid a2
  have y0 : w1.cell? ⟨w.heap.size, 0, none⟩ = some (.int .i64 3) := v0.cell 0
  have y1 : w1.cell? ⟨w.heap.size, 1, none⟩ = some (.bool mk) := v0.cell 1
  have y2 : w1.cell? ⟨w.heap.size, 2, none⟩ = some (.slice A na ca) := v0.cell 2
  have y3 : w1.cell? ⟨w.heap.size, 3, none⟩ = some (.slice P np cp) := v0.cell 3
  clear v0 v1 a2 hb1
  go_wp2_with fail
  refine (HCP.out _ HW1.out).mono ?_
  rintro e w2 ⟨A1, c1, P1, d1, rfl, hi2, hq2, hb2⟩
  have HW2 := Lib.hid (HW1.out.trans (hb2.mono (by omega)))
  have HV3 := Lib.hid (HV2.out.below hb2 (by omega))
  have HA4 := Lib.hid (HA3.out.below hb2 hz1)
  have hv0 := HV0.out.below hb2 (by omega)
  have HI2 := Lib.hid hi2
  have HQ2 := Lib.hid hq2
  have hz2 : w1.heap.size ≤ w2.heap.size := hb2.size
  have hz3 : w.heap.size < w2.heap.size := by omega
  have hz4 : w.heap.size + 1 < w2.heap.size := by omega
  have hz5 : w.heap.size + 1 + 1 < w2.heap.size := by omega
  clear y0 y1 y2 y3
  have y0 : w2.cell? ⟨w.heap.size, 0, none⟩ = some (.int .i64 3) := hv0.cell 0
  have y1 : w2.cell? ⟨w.heap.size, 1, none⟩ = some (.bool mk) := hv0.cell 1
  have y2 : w2.cell? ⟨w.heap.size, 2, none⟩ = some (.slice A na ca) := hv0.cell 2
  have y3 : w2.cell? ⟨w.heap.size, 3, none⟩ = some (.slice P np cp) := hv0.cell 3
  clear hi2 hq2 hb2 hv0
  have v1 := HV3.out
  have a2 := HA4.out
  have x0 : w2.cell? ⟨w.heap.size + 1, 0, none⟩ = some (.int .i64 0) := v1.cell 0
  have x1 : w2.cell? ⟨w.heap.size + 1, 1, none⟩ = some (.bool false) := v1.cell 1
  have x2 : w2.cell? ⟨w.heap.size + 1, 2, none⟩ = some (.slice none 0 0) := v1.cell 2
  have x3 : w2.cell? ⟨w.heap.size + 1, 3, none⟩ = some (.slice none 0 0) := v1.cell 3
  have f0 := v1.free 0
  have f1 := v1.free 1
  have f2 := v1.free 2
  have f3 := v1.free 3
  obtain ⟨⟨u0, u1, u2, u3⟩, g0, g1, g2, g3⟩ := a2.cells
  clear v1 a2
  go_wp2_with fail
  refine bodyPost_ret (v := .tuple #[.agg #[.int .i64 3, .bool mk, .slice A1 na c1, .slice P1 np d1], .agg #[.int .i64 0, .int .i64 0, .bool false, .slice none 0 0]]) (by simp [results, Tryd.results12, go_sem, x0, x1, x2, x3, u0, u1, u2, u3, hz4, hz5]) rfl ?_
  exact ⟨A1, na, c1, P1, np, d1, none, 0, 0, rfl, own_moreK (World.ownsRow.alloc (own_put4 (own_put4 HI2.out (by omega) _ _ _ _) (by omega) _ _ _ _) _) (by omega), own_moreK (World.ownsRow.alloc (own_put4 (own_put4 HQ2.out (by omega) _ _ _ _) (by omega) _ _ _ _) _) (by omega), ownI_nil _ _, .inl rfl, (below_put4 (below_put4 HW2.out (by omega) _ _ _ _) (by omega) _ _ _ _).alloc (by simp; omega) _⟩
set_option maxRecDepth 100000 in
set_option maxHeartbeats 1600000 in
theorem spec_VpByte_3hi (mk : Bool) (A : Option Addr) (na ca : Nat) (zs : List Int) (P : Option Addr) (np cp : Nat) (bs : List Int) (b : Int) (w : World) (hr : RdI w w.heap.size A zs) (hA : A = none → na = 0 ∧ ca = 0) (hl : zs.length = na) (hn : na ≤ 1048576) (hp : Rd w w.heap.size P bs) (hP : P = none → np = 0 ∧ cp = 0) (hg : Rng bs) (hpl : bs.length = np) (hpn : np ≤ 1048576) (hpc : np ≤ cp) (hok : okVp 3 mk zs bs = true) (n27 : (b == 27) = false) (n24 : (b == 24) = false) (n26 : (b == 26) = false) (hb0 : 0 ≤ b) (hb1 : b ≤ 255) (hl64 : 126 < b) :
    Calls Tryd.prog 12 #[.agg #[.int .i64 3, .bool mk, .slice A na ca, .slice P np cp], .int .i64 b] w (AnsVB w (⟨3, mk, zs, bs⟩, az)) := by
  have HW0 := Lib.hid (show Below w.heap.size w (((w.alloc (.cells #[.int .i64 3, .bool mk, .slice A na ca, .slice P np cp] 38)).alloc (.cells #[.int .i64 0, .bool false, .slice none 0 0, .slice none 0 0] 38)).alloc (.cells #[.int .i64 0, .int .i64 0, .bool false, .slice none 0 0] 53)) from (((Below.refl _ _).alloc (Nat.le_refl _) _).alloc (by simp) _).alloc (by simp; omega) _)
  have HV := Lib.hid (show BoxV (((w.alloc (.cells #[.int .i64 3, .bool mk, .slice A na ca, .slice P np cp] 38)).alloc (.cells #[.int .i64 0, .bool false, .slice none 0 0, .slice none 0 0] 38)).alloc (.cells #[.int .i64 0, .int .i64 0, .bool false, .slice none 0 0] 53)) w.heap.size #[.int .i64 3, .bool mk, .slice A na ca, .slice P np cp] from ((BoxV.new w _).below ((Below.refl _ _).alloc (Nat.le_refl _) _) (by simp)).below ((Below.refl _ _).alloc (Nat.le_refl _) _) (by simp; omega))
  have HV1 := Lib.hid (show BoxV (((w.alloc (.cells #[.int .i64 3, .bool mk, .slice A na ca, .slice P np cp] 38)).alloc (.cells #[.int .i64 0, .bool false, .slice none 0 0, .slice none 0 0] 38)).alloc (.cells #[.int .i64 0, .int .i64 0, .bool false, .slice none 0 0] 53)) (w.heap.size + 1) #[.int .i64 0, .bool false, .slice none 0 0, .slice none 0 0] from by have h := BoxV.new (w.alloc (.cells #[.int .i64 3, .bool mk, .slice A na ca, .slice P np cp] 38)) #[.int .i64 0, .bool false, .slice none 0 0, .slice none 0 0]; simp only [World.size_alloc] at h; exact h.below ((Below.refl _ _).alloc (Nat.le_refl _) _) (by simp))
  have HA2 := Lib.hid (show BoxA (((w.alloc (.cells #[.int .i64 3, .bool mk, .slice A na ca, .slice P np cp] 38)).alloc (.cells #[.int .i64 0, .bool false, .slice none 0 0, .slice none 0 0] 38)).alloc (.cells #[.int .i64 0, .int .i64 0, .bool false, .slice none 0 0] 53)) (w.heap.size + 1 + 1) #[.int .i64 0, .int .i64 0, .bool false, .slice none 0 0] from by have h := BoxA.new ((w.alloc (.cells #[.int .i64 3, .bool mk, .slice A na ca, .slice P np cp] 38)).alloc (.cells #[.int .i64 0, .bool false, .slice none 0 0, .slice none 0 0] 38)) #[.int .i64 0, .int .i64 0, .bool false, .slice none 0 0]; simp only [World.size_alloc] at h; exact h)
  have HC := spec_VpOk_any 3 mk A na ca zs P np cp bs (((w.alloc (.cells #[.int .i64 3, .bool mk, .slice A na ca, .slice P np cp] 38)).alloc (.cells #[.int .i64 0, .bool false, .slice none 0 0, .slice none 0 0] 38)).alloc (.cells #[.int .i64 0, .int .i64 0, .bool false, .slice none 0 0] 53)) ((hr.below (Nat.le_refl _) HW0.out).more HW0.out.size) hl (by omega) ((hp.below (Nat.le_refl _) HW0.out).more HW0.out.size) hg hpl hP (by omega) hpc
  rw [hok] at HC
  have HC := Lib.hid HC
  have HCP := Lib.hid (fun W (h : Below w.heap.size w W) => copy_any 3 mk A na ca zs P np cp bs W ((hr.below (Nat.le_refl _) h).more h.size) hA hl hn ((hp.below (Nat.le_refl _) h).more h.size) hP hpl hpn)
  have hl0 : ¬ b < 0 := by omega
  have hl1 : ¬ 255 < b := by omega
  have g64 : 64 ≤ b := by omega
  have l126 : decide (b ≤ 126) = false := by simp; omega
  clear hr hA hl hn hp hP hg hpl hpn hpc hok 
  go_enter Tryd.func12, Tryd.ntmps12
  go_wp2_with fail
  refine HC.out.mono ?_
  rintro e w1 ⟨rfl, hb1⟩
  have HW1 := Lib.hid (HW0.out.trans (hb1.mono (by simp <;> omega)))
  have v1 := HV1.out.below hb1 (by simp <;> omega)
  have a2 := HA2.out.below hb1 (by simp <;> omega)
  have v0 := HV.out.below hb1 (by simp <;> omega)
  have hz1 : w.heap.size + 1 + 1 < w1.heap.size := by have := hb1.size; simp at this; omega
  have HV0 := Lib.hid v0
  have HV2 := Lib.hid v1
  have HA3 := Lib.hid a2
  have y0 : w1.cell? ⟨w.heap.size, 0, none⟩ = some (.int .i64 3) := v0.cell 0
  have y1 : w1.cell? ⟨w.heap.size, 1, none⟩ = some (.bool mk) := v0.cell 1
  have y2 : w1.cell? ⟨w.heap.size, 2, none⟩ = some (.slice A na ca) := v0.cell 2
  have y3 : w1.cell? ⟨w.heap.size, 3, none⟩ = some (.slice P np cp) := v0.cell 3
  clear v0 v1 a2 hb1
  go_wp2_with fail
  refine (HCP.out _ HW1.out).mono ?_
  rintro e w2 ⟨A1, c1, P1, d1, rfl, hi2, hq2, hb2⟩
  have HW2 := Lib.hid (HW1.out.trans (hb2.mono (by omega)))
  have HV3 := Lib.hid (HV2.out.below hb2 (by omega))
  have HA4 := Lib.hid (HA3.out.below hb2 hz1)
  have hv0 := HV0.out.below hb2 (by omega)
  have HI2 := Lib.hid hi2
  have HQ2 := Lib.hid hq2
  have hz2 : w1.heap.size ≤ w2.heap.size := hb2.size
  have hz3 : w.heap.size < w2.heap.size := by omega
  have hz4 : w.heap.size + 1 < w2.heap.size := by omega
  have hz5 : w.heap.size + 1 + 1 < w2.heap.size := by omega
  clear y0 y1 y2 y3
  have y0 : w2.cell? ⟨w.heap.size, 0, none⟩ = some (.int .i64 3) := hv0.cell 0
  have y1 : w2.cell? ⟨w.heap.size, 1, none⟩ = some (.bool mk) := hv0.cell 1
  have y2 : w2.cell? ⟨w.heap.size, 2, none⟩ = some (.slice A na ca) := hv0.cell 2
  have y3 : w2.cell? ⟨w.heap.size, 3, none⟩ = some (.slice P np cp) := hv0.cell 3
  clear hi2 hq2 hb2 hv0
  have v1 := HV3.out
  have a2 := HA4.out
  have x0 : w2.cell? ⟨w.heap.size + 1, 0, none⟩ = some (.int .i64 0) := v1.cell 0
  have x1 : w2.cell? ⟨w.heap.size + 1, 1, none⟩ = some (.bool false) := v1.cell 1
  have x2 : w2.cell? ⟨w.heap.size + 1, 2, none⟩ = some (.slice none 0 0) := v1.cell 2
  have x3 : w2.cell? ⟨w.heap.size + 1, 3, none⟩ = some (.slice none 0 0) := v1.cell 3
  have f0 := v1.free 0
  have f1 := v1.free 1
  have f2 := v1.free 2
  have f3 := v1.free 3
  obtain ⟨⟨u0, u1, u2, u3⟩, g0, g1, g2, g3⟩ := a2.cells
  clear v1 a2
  go_wp2_with fail
  refine bodyPost_ret (v := .tuple #[.agg #[.int .i64 3, .bool mk, .slice A1 na c1, .slice P1 np d1], .agg #[.int .i64 0, .int .i64 0, .bool false, .slice none 0 0]]) (by simp [results, Tryd.results12, go_sem, x0, x1, x2, x3, u0, u1, u2, u3, hz4, hz5]) rfl ?_
  exact ⟨A1, na, c1, P1, np, d1, none, 0, 0, rfl, own_moreK (World.ownsRow.alloc (own_put4 (own_put4 HI2.out (by omega) _ _ _ _) (by omega) _ _ _ _) _) (by omega), own_moreK (World.ownsRow.alloc (own_put4 (own_put4 HQ2.out (by omega) _ _ _ _) (by omega) _ _ _ _) _) (by omega), ownI_nil _ _, .inl rfl, (below_put4 (below_put4 HW2.out (by omega) _ _ _ _) (by omega) _ _ _ _).alloc (by simp; omega) _⟩
set_option maxRecDepth 100000 in
set_option maxHeartbeats 1600000 in
theorem spec_VpByte_0 (mk : Bool) (A : Option Addr) (na ca : Nat) (zs : List Int) (P : Option Addr) (np cp : Nat) (bs : List Int) (b : Int) (w : World) (hr : RdI w w.heap.size A zs) (hA : A = none → na = 0 ∧ ca = 0) (hl : zs.length = na) (hn : na ≤ 1048576) (hp : Rd w w.heap.size P bs) (hP : P = none → np = 0 ∧ cp = 0) (hg : Rng bs) (hpl : bs.length = np) (hpn : np ≤ 1048576) (hpc : np ≤ cp) (hok : okVp 0 mk zs bs = true) (n27 : (b == 27) = false) (n24 : (b == 24) = false) (n26 : (b == 26) = false) (hb0 : 0 ≤ b) (hb1 : b ≤ 255) (hnp : np ≤ 100) :
    Calls Tryd.prog 12 #[.agg #[.int .i64 0, .bool mk, .slice A na ca, .slice P np cp], .int .i64 b] w (AnsVB w (plainV bs b)) := by
  have HW0 := Lib.hid (show Below w.heap.size w (((w.alloc (.cells #[.int .i64 0, .bool mk, .slice A na ca, .slice P np cp] 38)).alloc (.cells #[.int .i64 0, .bool false, .slice none 0 0, .slice none 0 0] 38)).alloc (.cells #[.int .i64 0, .int .i64 0, .bool false, .slice none 0 0] 53)) from (((Below.refl _ _).alloc (Nat.le_refl _) _).alloc (by simp) _).alloc (by simp; omega) _)
  have HV := Lib.hid (show BoxV (((w.alloc (.cells #[.int .i64 0, .bool mk, .slice A na ca, .slice P np cp] 38)).alloc (.cells #[.int .i64 0, .bool false, .slice none 0 0, .slice none 0 0] 38)).alloc (.cells #[.int .i64 0, .int .i64 0, .bool false, .slice none 0 0] 53)) w.heap.size #[.int .i64 0, .bool mk, .slice A na ca, .slice P np cp] from ((BoxV.new w _).below ((Below.refl _ _).alloc (Nat.le_refl _) _) (by simp)).below ((Below.refl _ _).alloc (Nat.le_refl _) _) (by simp; omega))
  have HV1 := Lib.hid (show BoxV (((w.alloc (.cells #[.int .i64 0, .bool mk, .slice A na ca, .slice P np cp] 38)).alloc (.cells #[.int .i64 0, .bool false, .slice none 0 0, .slice none 0 0] 38)).alloc (.cells #[.int .i64 0, .int .i64 0, .bool false, .slice none 0 0] 53)) (w.heap.size + 1) #[.int .i64 0, .bool false, .slice none 0 0, .slice none 0 0] from by have h := BoxV.new (w.alloc (.cells #[.int .i64 0, .bool mk, .slice A na ca, .slice P np cp] 38)) #[.int .i64 0, .bool false, .slice none 0 0, .slice none 0 0]; simp only [World.size_alloc] at h; exact h.below ((Below.refl _ _).alloc (Nat.le_refl _) _) (by simp))
  have HA2 := Lib.hid (show BoxA (((w.alloc (.cells #[.int .i64 0, .bool mk, .slice A na ca, .slice P np cp] 38)).alloc (.cells #[.int .i64 0, .bool false, .slice none 0 0, .slice none 0 0] 38)).alloc (.cells #[.int .i64 0, .int .i64 0, .bool false, .slice none 0 0] 53)) (w.heap.size + 1 + 1) #[.int .i64 0, .int .i64 0, .bool false, .slice none 0 0] from by have h := BoxA.new ((w.alloc (.cells #[.int .i64 0, .bool mk, .slice A na ca, .slice P np cp] 38)).alloc (.cells #[.int .i64 0, .bool false, .slice none 0 0, .slice none 0 0] 38)) #[.int .i64 0, .int .i64 0, .bool false, .slice none 0 0]; simp only [World.size_alloc] at h; exact h)
  have HC := spec_VpOk_any 0 mk A na ca zs P np cp bs (((w.alloc (.cells #[.int .i64 0, .bool mk, .slice A na ca, .slice P np cp] 38)).alloc (.cells #[.int .i64 0, .bool false, .slice none 0 0, .slice none 0 0] 38)).alloc (.cells #[.int .i64 0, .int .i64 0, .bool false, .slice none 0 0] 53)) ((hr.below (Nat.le_refl _) HW0.out).more HW0.out.size) hl (by omega) ((hp.below (Nat.le_refl _) HW0.out).more HW0.out.size) hg hpl hP (by omega) hpc
  rw [hok] at HC
  have HC := Lib.hid HC
  have HCP := Lib.hid (fun W (h : Below w.heap.size w W) => copy_any 0 mk A na ca zs P np cp bs W ((hr.below (Nat.le_refl _) h).more h.size) hA hl hn ((hp.below (Nat.le_refl _) h).more h.size) hP hpl hpn)
  have hl0 : ¬ b < 0 := by omega
  have hl1 : ¬ 255 < b := by omega
  have HPL := Lib.hid (fun W (h : Below w.heap.size w W) => plain_any P np cp bs b W ((hp.below (Nat.le_refl _) h).more h.size) hP hg hpl hnp hb0 hb1)
  obtain ⟨r, hr9⟩ : ∃ r, r = plainV bs b := ⟨_, rfl⟩
  rw [← hr9]
  have HR := Lib.hid hr9.symm
  clear hr hA hl hn hp hP hg hpl hpn hpc hok hr9
  go_enter Tryd.func12, Tryd.ntmps12
  go_wp2_with fail
  refine HC.out.mono ?_
  rintro e w1 ⟨rfl, hb1⟩
  have HW1 := Lib.hid (HW0.out.trans (hb1.mono (by simp <;> omega)))
  have v1 := HV1.out.below hb1 (by simp <;> omega)
  have a2 := HA2.out.below hb1 (by simp <;> omega)
  have v0 := HV.out.below hb1 (by simp <;> omega)
  have hz1 : w.heap.size + 1 + 1 < w1.heap.size := by have := hb1.size; simp at this; omega
  have HV0 := Lib.hid v0
  have HV2 := Lib.hid v1
  have HA3 := Lib.hid a2
  have y0 : w1.cell? ⟨w.heap.size, 0, none⟩ = some (.int .i64 0) := v0.cell 0
  have y1 : w1.cell? ⟨w.heap.size, 1, none⟩ = some (.bool mk) := v0.cell 1
  have y2 : w1.cell? ⟨w.heap.size, 2, none⟩ = some (.slice A na ca) := v0.cell 2
  have y3 : w1.cell? ⟨w.heap.size, 3, none⟩ = some (.slice P np cp) := v0.cell 3
  clear v0 v1 a2 hb1
  go_wp2_with fail
  refine (HCP.out _ HW1.out).mono ?_
  rintro e w2 ⟨A1, c1, P1, d1, rfl, hi2, hq2, hb2⟩
  have HW2 := Lib.hid (HW1.out.trans (hb2.mono (by omega)))
  have HV3 := Lib.hid (HV2.out.below hb2 (by omega))
  have HA4 := Lib.hid (HA3.out.below hb2 hz1)
  have hv0 := HV0.out.below hb2 (by omega)
  have HI2 := Lib.hid hi2
  have HQ2 := Lib.hid hq2
  have hz2 : w1.heap.size ≤ w2.heap.size := hb2.size
  have hz3 : w.heap.size < w2.heap.size := by omega
  have hz4 : w.heap.size + 1 < w2.heap.size := by omega
  have hz5 : w.heap.size + 1 + 1 < w2.heap.size := by omega
  clear y0 y1 y2 y3
  have y0 : w2.cell? ⟨w.heap.size, 0, none⟩ = some (.int .i64 0) := hv0.cell 0
  have y1 : w2.cell? ⟨w.heap.size, 1, none⟩ = some (.bool mk) := hv0.cell 1
  have y2 : w2.cell? ⟨w.heap.size, 2, none⟩ = some (.slice A na ca) := hv0.cell 2
  have y3 : w2.cell? ⟨w.heap.size, 3, none⟩ = some (.slice P np cp) := hv0.cell 3
  clear hi2 hq2 hb2 hv0
  have HW3 := Lib.hid (show Below w.heap.size w (w2.alloc (.cells #[.int .i64 0, .bool mk, .slice A1 na c1, .slice P1 np d1] 38)) from HW2.out.alloc (by omega) _)
  go_wp2_with fail
  refine (HPL.out _ HW3.out).mono ?_
  rw [HR.out]
  rintro e w4 ⟨A9, n9, c9, P9, p9, d9, A8, n8, c8, rfl, hi4, hq4, ha4, hap, hb4⟩
  have v1 := (HV3.out.below ((Below.refl _ _).alloc (Nat.le_refl _) _) hz4).below hb4 (by simp; omega)
  have a2 := (HA4.out.below ((Below.refl _ _).alloc (Nat.le_refl _) _) hz5).below hb4 (by simp; omega)
  have HW4 := Lib.hid (HW3.out.trans (hb4.mono (by simp; omega)))
  have H1 := Lib.hid (hi4.more (base' := w2.heap.size) (by simp))
  have H2 := Lib.hid (hq4.more (base' := w2.heap.size) (by simp))
  have H3 := Lib.hid (ha4.more (base' := w2.heap.size) (by simp))
  have H4 := Lib.hid hap
  have x0 : w4.cell? ⟨w.heap.size + 1, 0, none⟩ = some (.int .i64 0) := v1.cell 0
  have x1 : w4.cell? ⟨w.heap.size + 1, 1, none⟩ = some (.bool false) := v1.cell 1
  have x2 : w4.cell? ⟨w.heap.size + 1, 2, none⟩ = some (.slice none 0 0) := v1.cell 2
  have x3 : w4.cell? ⟨w.heap.size + 1, 3, none⟩ = some (.slice none 0 0) := v1.cell 3
  have f0 := v1.free 0
  have f1 := v1.free 1
  have f2 := v1.free 2
  have f3 := v1.free 3
  obtain ⟨⟨u0, u1, u2, u3⟩, g0, g1, g2, g3⟩ := a2.cells
  clear v1 a2 hi4 hq4 ha4 hap hb4 y0 y1 y2 y3
  go_wp2_with fail
  refine bodyPost_ret (v := .tuple #[.agg #[.int .i64 r.1.st, .bool r.1.q, .slice A9 n9 c9, .slice P9 p9 d9], .agg #[.int .i64 r.2.k, .int .i64 r.2.r, .bool r.2.q, .slice A8 n8 c8]]) (by simp [results, Tryd.results12, go_sem, x0, x1, x2, x3, u0, u1, u2, u3]) rfl ?_
  exact ⟨A9, n9, c9, P9, p9, d9, A8, n8, c8, rfl, own_moreK (own_put4 (own_put4 H1.out (by omega) _ _ _ _) (by omega) _ _ _ _) (by omega), own_moreK (own_put4 (own_put4 H2.out (by omega) _ _ _ _) (by omega) _ _ _ _) (by omega), own_moreK (own_put4 (own_put4 H3.out (by omega) _ _ _ _) (by omega) _ _ _ _) (by omega), H4.out, below_put4 (below_put4 HW4.out (by omega) _ _ _ _) (by omega) _ _ _ _⟩
set_option maxRecDepth 100000 in
set_option maxHeartbeats 1600000 in
theorem spec_VpByte_2 (mk : Bool) (A : Option Addr) (na ca : Nat) (zs : List Int) (P : Option Addr) (np cp : Nat) (bs : List Int) (b : Int) (w : World) (hr : RdI w w.heap.size A zs) (hA : A = none → na = 0 ∧ ca = 0) (hl : zs.length = na) (hn : na ≤ 1048576) (hp : Rd w w.heap.size P bs) (hP : P = none → np = 0 ∧ cp = 0) (hg : Rng bs) (hpl : bs.length = np) (hpn : np ≤ 1048576) (hpc : np ≤ cp) (hok : okVp 2 mk zs bs = true) (n27 : (b == 27) = false) (n24 : (b == 24) = false) (n26 : (b == 26) = false) (hb0 : 0 ≤ b) (hb1 : b ≤ 255) (hna8 : na ≤ 8) (hbs : bs = []) (hzb : ∀ z ∈ zs, 0 ≤ z ∧ z ≤ 9999) :
    Calls Tryd.prog 12 #[.agg #[.int .i64 2, .bool mk, .slice A na ca, .slice P np cp], .int .i64 b] w (AnsVB w (csiV mk zs b)) := by
  have HW0 := Lib.hid (show Below w.heap.size w (((w.alloc (.cells #[.int .i64 2, .bool mk, .slice A na ca, .slice P np cp] 38)).alloc (.cells #[.int .i64 0, .bool false, .slice none 0 0, .slice none 0 0] 38)).alloc (.cells #[.int .i64 0, .int .i64 0, .bool false, .slice none 0 0] 53)) from (((Below.refl _ _).alloc (Nat.le_refl _) _).alloc (by simp) _).alloc (by simp; omega) _)
  have HV := Lib.hid (show BoxV (((w.alloc (.cells #[.int .i64 2, .bool mk, .slice A na ca, .slice P np cp] 38)).alloc (.cells #[.int .i64 0, .bool false, .slice none 0 0, .slice none 0 0] 38)).alloc (.cells #[.int .i64 0, .int .i64 0, .bool false, .slice none 0 0] 53)) w.heap.size #[.int .i64 2, .bool mk, .slice A na ca, .slice P np cp] from ((BoxV.new w _).below ((Below.refl _ _).alloc (Nat.le_refl _) _) (by simp)).below ((Below.refl _ _).alloc (Nat.le_refl _) _) (by simp; omega))
  have HV1 := Lib.hid (show BoxV (((w.alloc (.cells #[.int .i64 2, .bool mk, .slice A na ca, .slice P np cp] 38)).alloc (.cells #[.int .i64 0, .bool false, .slice none 0 0, .slice none 0 0] 38)).alloc (.cells #[.int .i64 0, .int .i64 0, .bool false, .slice none 0 0] 53)) (w.heap.size + 1) #[.int .i64 0, .bool false, .slice none 0 0, .slice none 0 0] from by have h := BoxV.new (w.alloc (.cells #[.int .i64 2, .bool mk, .slice A na ca, .slice P np cp] 38)) #[.int .i64 0, .bool false, .slice none 0 0, .slice none 0 0]; simp only [World.size_alloc] at h; exact h.below ((Below.refl _ _).alloc (Nat.le_refl _) _) (by simp))
  have HA2 := Lib.hid (show BoxA (((w.alloc (.cells #[.int .i64 2, .bool mk, .slice A na ca, .slice P np cp] 38)).alloc (.cells #[.int .i64 0, .bool false, .slice none 0 0, .slice none 0 0] 38)).alloc (.cells #[.int .i64 0, .int .i64 0, .bool false, .slice none 0 0] 53)) (w.heap.size + 1 + 1) #[.int .i64 0, .int .i64 0, .bool false, .slice none 0 0] from by have h := BoxA.new ((w.alloc (.cells #[.int .i64 2, .bool mk, .slice A na ca, .slice P np cp] 38)).alloc (.cells #[.int .i64 0, .bool false, .slice none 0 0, .slice none 0 0] 38)) #[.int .i64 0, .int .i64 0, .bool false, .slice none 0 0]; simp only [World.size_alloc] at h; exact h)
  have HC := spec_VpOk_any 2 mk A na ca zs P np cp bs (((w.alloc (.cells #[.int .i64 2, .bool mk, .slice A na ca, .slice P np cp] 38)).alloc (.cells #[.int .i64 0, .bool false, .slice none 0 0, .slice none 0 0] 38)).alloc (.cells #[.int .i64 0, .int .i64 0, .bool false, .slice none 0 0] 53)) ((hr.below (Nat.le_refl _) HW0.out).more HW0.out.size) hl (by omega) ((hp.below (Nat.le_refl _) HW0.out).more HW0.out.size) hg hpl hP (by omega) hpc
  rw [hok] at HC
  have HC := Lib.hid HC
  have HCP := Lib.hid (fun W (h : Below w.heap.size w W) => copy_any 2 mk A na ca zs P np cp bs W ((hr.below (Nat.le_refl _) h).more h.size) hA hl hn ((hp.below (Nat.le_refl _) h).more h.size) hP hpl hpn)
  have hl0 : ¬ b < 0 := by omega
  have hl1 : ¬ 255 < b := by omega
  obtain ⟨r, hr9⟩ : ∃ r, r = csiV mk zs b := ⟨_, rfl⟩
  rw [← hr9]
  have HCS := Lib.hid (fun (base : Nat) (A : Option Addr) (ca : Nat) (Q : Option Addr) (cp : Nat) (W : World) (h1 : OwnI W base A na ca zs) (h2 : Own W base Q np cp []) (h3 : base ≤ W.heap.size) => csi_any base mk A na ca zs Q np cp b W h1 h2 h3 hna8 hzb hb0 hb1)
  rw [← hr9] at HCS
  have HR := Lib.hid hr9.symm
  have HBS := Lib.hid hbs
  clear hr hA hl hn hp hP hg hpl hpn hpc hok hr9 hbs hzb
  go_enter Tryd.func12, Tryd.ntmps12
  go_wp2_with fail
  refine HC.out.mono ?_
  rintro e w1 ⟨rfl, hb1⟩
  have HW1 := Lib.hid (HW0.out.trans (hb1.mono (by simp <;> omega)))
  have v1 := HV1.out.below hb1 (by simp <;> omega)
  have a2 := HA2.out.below hb1 (by simp <;> omega)
  have v0 := HV.out.below hb1 (by simp <;> omega)
  have hz1 : w.heap.size + 1 + 1 < w1.heap.size := by have := hb1.size; simp at this; omega
  have HV0 := Lib.hid v0
  have HV2 := Lib.hid v1
  have HA3 := Lib.hid a2
  have y0 : w1.cell? ⟨w.heap.size, 0, none⟩ = some (.int .i64 2) := v0.cell 0
  have y1 : w1.cell? ⟨w.heap.size, 1, none⟩ = some (.bool mk) := v0.cell 1
  have y2 : w1.cell? ⟨w.heap.size, 2, none⟩ = some (.slice A na ca) := v0.cell 2
  have y3 : w1.cell? ⟨w.heap.size, 3, none⟩ = some (.slice P np cp) := v0.cell 3
  clear v0 v1 a2 hb1
  go_wp2_with fail
  refine (HCP.out _ HW1.out).mono ?_
  rintro e w2 ⟨A1, c1, P1, d1, rfl, hi2, hq2, hb2⟩
  have HW2 := Lib.hid (HW1.out.trans (hb2.mono (by omega)))
  have HV3 := Lib.hid (HV2.out.below hb2 (by omega))
  have HA4 := Lib.hid (HA3.out.below hb2 hz1)
  have hv0 := HV0.out.below hb2 (by omega)
  have HI2 := Lib.hid hi2
  have HQ2 := Lib.hid hq2
  have hz2 : w1.heap.size ≤ w2.heap.size := hb2.size
  have hz3 : w.heap.size < w2.heap.size := by omega
  have hz4 : w.heap.size + 1 < w2.heap.size := by omega
  have hz5 : w.heap.size + 1 + 1 < w2.heap.size := by omega
  clear y0 y1 y2 y3
  have y0 : w2.cell? ⟨w.heap.size, 0, none⟩ = some (.int .i64 2) := hv0.cell 0
  have y1 : w2.cell? ⟨w.heap.size, 1, none⟩ = some (.bool mk) := hv0.cell 1
  have y2 : w2.cell? ⟨w.heap.size, 2, none⟩ = some (.slice A na ca) := hv0.cell 2
  have y3 : w2.cell? ⟨w.heap.size, 3, none⟩ = some (.slice P np cp) := hv0.cell 3
  clear hi2 hq2 hb2 hv0
  have HW3 := Lib.hid (show Below w.heap.size w (w2.alloc (.cells #[.int .i64 2, .bool mk, .slice A1 na c1, .slice P1 np d1] 38)) from HW2.out.alloc (by omega) _)
  have HI3 := Lib.hid (show OwnI (w2.alloc (.cells #[.int .i64 2, .bool mk, .slice A1 na c1, .slice P1 np d1] 38)) w1.heap.size A1 na c1 zs from HI2.out.alloc _)
  have HQ3 := Lib.hid (show Own (w2.alloc (.cells #[.int .i64 2, .bool mk, .slice A1 na c1, .slice P1 np d1] 38)) w1.heap.size P1 np d1 [] from by rw [← HBS.out]; exact World.ownsRow.alloc HQ2.out _)
  go_wp2_with fail
  refine (HCS.out _ _ _ _ _ _ HI3.out HQ3.out (by simp; omega)).mono ?_
  rintro e w4 ⟨A9, n9, c9, P9, p9, d9, A8, n8, c8, rfl, hi4, hq4, ha4, hap, on4⟩
  have hlow : ∀ i, Blk A1 na c1 i → w1.heap.size ≤ i := fun i hi => (HI2.out.blk i hi).1
  have v1 := (HV3.out.below ((Below.refl _ _).alloc (Nat.le_refl _) _) hz4).only on4 (fun h => by have := hlow _ h; omega)
  have a2 := (HA4.out.below ((Below.refl _ _).alloc (Nat.le_refl _) _) hz5).only on4 (fun h => by have := hlow _ h; omega)
  have HW4 := Lib.hid (on4.below_ HW3.out (by simp; omega) (fun i hi => by have := hlow i hi; omega))
  have H1 := Lib.hid hi4
  have H2 := Lib.hid hq4
  have H3 := Lib.hid ha4
  have H4 := Lib.hid hap
  have x0 : w4.cell? ⟨w.heap.size + 1, 0, none⟩ = some (.int .i64 0) := v1.cell 0
  have x1 : w4.cell? ⟨w.heap.size + 1, 1, none⟩ = some (.bool false) := v1.cell 1
  have x2 : w4.cell? ⟨w.heap.size + 1, 2, none⟩ = some (.slice none 0 0) := v1.cell 2
  have x3 : w4.cell? ⟨w.heap.size + 1, 3, none⟩ = some (.slice none 0 0) := v1.cell 3
  have f0 := v1.free 0
  have f1 := v1.free 1
  have f2 := v1.free 2
  have f3 := v1.free 3
  obtain ⟨⟨u0, u1, u2, u3⟩, g0, g1, g2, g3⟩ := a2.cells
  clear v1 a2 hi4 hq4 ha4 hap on4 hlow y0 y1 y2 y3
  go_wp2_with fail
  refine bodyPost_ret (v := .tuple #[.agg #[.int .i64 r.1.st, .bool r.1.q, .slice A9 n9 c9, .slice P9 p9 d9], .agg #[.int .i64 r.2.k, .int .i64 r.2.r, .bool r.2.q, .slice A8 n8 c8]]) (by simp [results, Tryd.results12, go_sem, x0, x1, x2, x3, u0, u1, u2, u3]) rfl ?_
  exact ⟨A9, n9, c9, P9, p9, d9, A8, n8, c8, rfl, own_moreK (own_put4 (own_put4 H1.out (by omega) _ _ _ _) (by omega) _ _ _ _) (by omega), own_moreK (own_put4 (own_put4 H2.out (by omega) _ _ _ _) (by omega) _ _ _ _) (by omega), own_moreK (own_put4 (own_put4 H3.out (by omega) _ _ _ _) (by omega) _ _ _ _) (by omega), H4.out, below_put4 (below_put4 HW4.out (by omega) _ _ _ _) (by omega) _ _ _ _⟩
end Go.Proofs.YtfdbmhelcmifoaaDoor.Vp
