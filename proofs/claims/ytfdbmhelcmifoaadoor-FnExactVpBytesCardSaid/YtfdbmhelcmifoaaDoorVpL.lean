/- The program's parser: the model's step within a sequence, where the arguments grow. -/
import Derived.Test.YtfdbmhelcmifoaaDoorVpK
import Derived.Deep.RegionWith
import Derived.Deep.DrawnRows
namespace Go.Proofs.YtfdbmhelcmifoaaDoor.Vp
open Go.RowKit Go.Proofs.YtfdbmhelcmifoaaDoor.Bytes Go.Proofs.YtfdbmhelcmifoaaDoor.DOk Go.Proofs.YtfdbmhelcmifoaaDoor.Rune Go.Proofs.YtfdbmhelcmifoaaDoor.RowK Go.Proofs.YtfdbmhelcmifoaaDoor.Gr
set_option linter.unusedVariables false
attribute [local go_sem ↓] Go.wp_at_zero Go.wp_at_succ
theorem csi_fin {w w1 W' : World} {base H : Nat} {A : Option Addr} {na ca : Nat} {Q : Option Addr} {np cp : Nat} {bs zs' : List Int} {A' : Option Addr} {n' c' : Nat} (hQ : Own w base Q np cp bs) (hH : w.heap.size ≤ H) (o1 : OwnI w1 base A' n' c' zs') (hf : ∀ i, Blk A' n' c' i → Blk A na ca i ∨ H ≤ i) (hAl : ∀ i, Blk A na ca i → i < w.heap.size) (hAQ : ∀ i, Blk Q np cp i → ¬ Blk A na ca i)
    (on1 : Only (fun i => Blk A na ca i ∨ w.heap.size ≤ i) w w1) (onF : Only (fun i => w.heap.size ≤ i ∧ i < H) w1 W') (st : Int) (q : Bool) :
    AnsC w base A na ca (⟨st, q, zs', bs⟩, az) (.returned (.tuple #[.agg #[.int .i64 st, .bool q, .slice A' n' c', .slice Q np cp], .agg #[.int .i64 0, .int .i64 0, .bool false, .slice none 0 0]])) W' := by
  have on2 : Only (fun i => Blk A na ca i) w w1 := only_then (Only.refl _ _) on1 fun i hi h => h.elim id fun h => by omega
  refine ⟨A', n', c', Q, np, cp, none, 0, 0, rfl, Only.own o1 onF (fun i hi h => ?_), Only.own (Only.own hQ on2 hAQ) onF (fun i hi h => ?_), ownI_nil _ _, .inl rfl, only_then on2 onF fun i hi h => by omega⟩
  · rcases hf i hi with h' | h'
    · have := hAl i h'; omega
    · omega
  · have := (hQ.blk i hi).2; omega
theorem AnsC.pre {w w1 w' : World} {base : Nat} {A : Option Addr} {na ca : Nat} {r : VS × AS} {e : Ending} (on : Only (fun i => Blk A na ca i) w w1) (h : AnsC w1 base A na ca r e w') : AnsC w base A na ca r e w' := by
  obtain ⟨A', na', ca', P', np', cp', A2, n2, c2, he, h2, h3, h4, h5, h6⟩ := h
  exact ⟨A', na', ca', P', np', cp', A2, n2, c2, he, h2, h3, h4, h5, on.trans h6⟩
theorem put_T {T : Nat → Prop} (w : World) {b : Nat} (hb : T b) (x0 x1 x2 x3 : Value) : Only T w ((((w.setCell ⟨b, 0, none⟩ x0).setCell ⟨b, 1, none⟩ x1).setCell ⟨b, 2, none⟩ x2).setCell ⟨b, 3, none⟩ x3) := (put4 w b x0 x1 x2 x3).mono fun i hi => by subst hi; exact hb
set_option maxRecDepth 100000 in
set_option maxHeartbeats 1600000 in
theorem csi_digit_small (base : Nat) (q : Bool) (ga m ca : Nat) (zs bs : List Int) (Q : Option Addr) (np cp : Nat) (b : Int) (w : World) (hI : OwnI w base (some ⟨ga, 0, none⟩) (m + 1) ca zs) (hQ : Own w base Q np cp bs) (hb : base ≤ w.heap.size) (hm8 : m ≤ 8) (hl : 48 ≤ b) (hu : b ≤ 57) (z : Int) (hz0 : 0 ≤ z) (hz1 : z ≤ 9999) (hz : zs.getD m 0 = z) (hs : ¬ 9999 < z * 10 + b - 48) :
    Calls Tryd.prog 40 #[.agg #[.int .i64 2, .bool q, .slice (some ⟨ga, 0, none⟩) (m + 1) ca, .slice Q np cp], .int .i64 b] w (AnsC w base (some ⟨ga, 0, none⟩) (m + 1) ca (⟨2, q, zs.set m (z * 10 + b - 48), bs⟩, az)) := by
  have ci : w.cell? ⟨ga, m, none⟩ = some (.int .i64 z) := by
    have hl : zs.length = m + 1 := hI.len
    rw [World.ownsRow.cellAt (h := hI) m (by omega)]
    simp [iv, List.getElem?_eq_getElem (show m < zs.length by omega)]
    rw [← hz]; simp [List.getD, List.getElem?_eq_getElem (show m < zs.length by omega)]
  have fi := World.ownsRow.frozenAt (h := hI) m
  have hga : ga < w.heap.size := (hI.blk ga rfl).2
  have hga1 : ga < w.heap.size + 1 := by omega
  have hga2 : ga < w.heap.size + 1 + 1 := by omega
  have n63 : (b == 63) = false := by simp; omega
  have hla : 0 < m + 1 := by omega
  have hlb : ((m : Int) + 1 == 0) = false := by simp; omega
  have hqg : (Value.slice Q np cp).ownBlock ≠ some ga := fun e => own_ne hQ hI (by decide) ga e rfl
  have HI := Lib.hid hI
  have HQ := Lib.hid hQ
  clear hI hQ hz
  go_enter Tryd.func40, Tryd.ntmps40
  go_wp2_with fail
  refine bodyPost_ret (v := .tuple #[.agg #[.int .i64 2, .bool q, .slice (some ⟨ga, 0, none⟩) (m + 1) ca, .slice Q np cp], .agg #[.int .i64 0, .int .i64 0, .bool false, .slice none 0 0]]) (by simp [results, Tryd.results40, go_sem]) rfl ?_
  exact AnsC.pre (Only.cell_ w ga m _ rfl) (ansC_same (HI.out.stored m _).1 (own_setNe HQ.out ga m _ hqg) _ _ _ 2 0 0 q false)
set_option maxRecDepth 100000 in
set_option maxHeartbeats 1600000 in
theorem csi_digit_big (base : Nat) (q : Bool) (ga m ca : Nat) (zs bs : List Int) (Q : Option Addr) (np cp : Nat) (b : Int) (w : World) (hI : OwnI w base (some ⟨ga, 0, none⟩) (m + 1) ca zs) (hQ : Own w base Q np cp bs) (hb : base ≤ w.heap.size) (hm8 : m ≤ 8) (hl : 48 ≤ b) (hu : b ≤ 57) (z : Int) (hz0 : 0 ≤ z) (hz1 : z ≤ 9999) (hz : zs.getD m 0 = z) (hs : 9999 < z * 10 + b - 48) :
    Calls Tryd.prog 40 #[.agg #[.int .i64 2, .bool q, .slice (some ⟨ga, 0, none⟩) (m + 1) ca, .slice Q np cp], .int .i64 b] w (AnsC w base (some ⟨ga, 0, none⟩) (m + 1) ca (⟨2, q, zs.set m (9999), bs⟩, az)) := by
  have ci : w.cell? ⟨ga, m, none⟩ = some (.int .i64 z) := by
    have hl : zs.length = m + 1 := hI.len
    rw [World.ownsRow.cellAt (h := hI) m (by omega)]
    simp [iv, List.getElem?_eq_getElem (show m < zs.length by omega)]
    rw [← hz]; simp [List.getD, List.getElem?_eq_getElem (show m < zs.length by omega)]
  have fi := World.ownsRow.frozenAt (h := hI) m
  have hga : ga < w.heap.size := (hI.blk ga rfl).2
  have hga1 : ga < w.heap.size + 1 := by omega
  have hga2 : ga < w.heap.size + 1 + 1 := by omega
  have n63 : (b == 63) = false := by simp; omega
  have hla : 0 < m + 1 := by omega
  have hlb : ((m : Int) + 1 == 0) = false := by simp; omega
  have hqg : (Value.slice Q np cp).ownBlock ≠ some ga := fun e => own_ne hQ hI (by decide) ga e rfl
  have HI := Lib.hid hI
  have HQ := Lib.hid hQ
  clear hI hQ hz
  go_enter Tryd.func40, Tryd.ntmps40
  go_wp2_with fail
  refine bodyPost_ret (v := .tuple #[.agg #[.int .i64 2, .bool q, .slice (some ⟨ga, 0, none⟩) (m + 1) ca, .slice Q np cp], .agg #[.int .i64 0, .int .i64 0, .bool false, .slice none 0 0]]) (by simp [results, Tryd.results40, go_sem]) rfl ?_
  exact AnsC.pre (Only.cell_ w ga m _ rfl) (ansC_same (HI.out.stored m _).1 (own_setNe HQ.out ga m _ hqg) _ _ _ 2 0 0 q false)
set_option maxRecDepth 100000 in
set_option maxHeartbeats 1600000 in
theorem csi_sep_n (base : Nat) (q : Bool) (A : Option Addr) (na ca : Nat) (zs bs : List Int) (Q : Option Addr) (np cp : Nat) (b : Int) (w : World) (hI : OwnI w base A na ca zs) (hQ : Own w base Q np cp bs) (hb : base ≤ w.heap.size) (h59 : b = 59) (h0 : 0 < na) (h8 : na < 8) :
    Calls Tryd.prog 40 #[.agg #[.int .i64 2, .bool q, .slice A na ca, .slice Q np cp], .int .i64 b] w (AnsC w base A na ca (⟨2, q, zs ++ [0], bs⟩, az)) := by
  subst h59
  have hn0 : ((na : Int) == 0) = false := by simp; omega
  have hn8 : ((na : Int) == 8) = false := by simp; omega
  have HW3 := Lib.hid (show Below w.heap.size w (((w.alloc (.cells #[.int .i64 2, .bool q, .slice A na ca, .slice Q np cp] 38)).alloc (.cells #[.int .i64 0, .bool false, .slice none 0 0, .slice none 0 0] 38)).alloc (.cells #[.int .i64 0, .int .i64 0, .bool false, .slice none 0 0] 53)) from (((Below.refl _ _).alloc (Nat.le_refl _) _).alloc (by simp) _).alloc (by simp; omega) _)
  have HV0 := Lib.hid (show BoxV (((w.alloc (.cells #[.int .i64 2, .bool q, .slice A na ca, .slice Q np cp] 38)).alloc (.cells #[.int .i64 0, .bool false, .slice none 0 0, .slice none 0 0] 38)).alloc (.cells #[.int .i64 0, .int .i64 0, .bool false, .slice none 0 0] 53)) w.heap.size #[.int .i64 2, .bool q, .slice A na ca, .slice Q np cp] from ((BoxV.new w _).below ((Below.refl _ _).alloc (Nat.le_refl _) _) (by simp)).below ((Below.refl _ _).alloc (Nat.le_refl _) _) (by simp; omega))
  have HV1 := Lib.hid (show BoxV (((w.alloc (.cells #[.int .i64 2, .bool q, .slice A na ca, .slice Q np cp] 38)).alloc (.cells #[.int .i64 0, .bool false, .slice none 0 0, .slice none 0 0] 38)).alloc (.cells #[.int .i64 0, .int .i64 0, .bool false, .slice none 0 0] 53)) (w.heap.size + 1) #[.int .i64 0, .bool false, .slice none 0 0, .slice none 0 0] from by have h := BoxV.new (w.alloc (.cells #[.int .i64 2, .bool q, .slice A na ca, .slice Q np cp] 38)) #[.int .i64 0, .bool false, .slice none 0 0, .slice none 0 0]; simp only [World.size_alloc] at h; exact h.below ((Below.refl _ _).alloc (Nat.le_refl _) _) (by simp))
  have HA2 := Lib.hid (show BoxA (((w.alloc (.cells #[.int .i64 2, .bool q, .slice A na ca, .slice Q np cp] 38)).alloc (.cells #[.int .i64 0, .bool false, .slice none 0 0, .slice none 0 0] 38)).alloc (.cells #[.int .i64 0, .int .i64 0, .bool false, .slice none 0 0] 53)) (w.heap.size + 1 + 1) #[.int .i64 0, .int .i64 0, .bool false, .slice none 0 0] from by have h := BoxA.new ((w.alloc (.cells #[.int .i64 2, .bool q, .slice A na ca, .slice Q np cp] 38)).alloc (.cells #[.int .i64 0, .bool false, .slice none 0 0, .slice none 0 0] 38)) #[.int .i64 0, .int .i64 0, .bool false, .slice none 0 0]; simp only [World.size_alloc] at h; exact h)
  have HI3 := Lib.hid (show OwnI (((w.alloc (.cells #[.int .i64 2, .bool q, .slice A na ca, .slice Q np cp] 38)).alloc (.cells #[.int .i64 0, .bool false, .slice none 0 0, .slice none 0 0] 38)).alloc (.cells #[.int .i64 0, .int .i64 0, .bool false, .slice none 0 0] 53)) base A na ca zs from ((hI.alloc _).alloc _).alloc _)
  have HAl := Lib.hid (show ∀ i, Blk A na ca i → i < w.heap.size from fun i hi => (hI.blk i hi).2)
  have HAQ := Lib.hid (show ∀ i, Blk Q np cp i → ¬ Blk A na ca i from fun i hi h => own_ne hQ hI (by decide) i hi h)
  obtain ⟨i0, hi, hz0, hz1, hz2⟩ := info_parts intInfo
  have HI0 := Lib.hid hi
  have HI1 := Lib.hid hz0
  have HI2 := Lib.hid hz1
  have HI4 := Lib.hid hz2
  have HQ := Lib.hid hQ
  clear hI hQ hi hz0 hz1 hz2
  go_enter Tryd.func40, Tryd.ntmps40
  go_wp2_with (at_builtin; refine append_one Tryd.underlying22 HI0.out HI1.out HI2.out HI4.out rfl (by decide) rfl _ _ rfl rfl (w.heap.size + 1 + 1 + 1) (by simp) rfl HI3.out rfl (by omega) (by simp <;> omega) ?_)
  intro A1 c1 w1 ho1 hg1 hf1
  have on1 : Only (fun i => Blk A na ca i) _ w1 := Only.grown hg1 fun i hi => hi
  have v0 := HV0.out.only on1 (fun h => by have := HAl.out _ h; omega)
  have v1 := HV1.out.only on1 (fun h => by have := HAl.out _ h; omega)
  have a2 := HA2.out.only on1 (fun h => by have := HAl.out _ h; omega)
  have HO1 := Lib.hid (only_then (Only.below HW3.out (Nat.le_refl _)) on1 (S := fun i => Blk A na ca i ∨ w.heap.size ≤ i) fun i hi h => .inl h)
  have HF1 := Lib.hid hf1
  have HOW := Lib.hid (show OwnI w1 base A1 (na + 1) c1 (zs ++ [0]) from by unfold OwnI; rw [iv_app]; exact ho1)
  have x0 : w1.cell? ⟨w.heap.size, 0, none⟩ = some (.int .i64 2) := v0.cell 0
  have x1 : w1.cell? ⟨w.heap.size, 1, none⟩ = some (.bool q) := v0.cell 1
  have x2 : w1.cell? ⟨w.heap.size, 2, none⟩ = some (.slice A na ca) := v0.cell 2
  have x3 : w1.cell? ⟨w.heap.size, 3, none⟩ = some (.slice Q np cp) := v0.cell 3
  have e2 := v0.free 2
  have y0 : w1.cell? ⟨w.heap.size + 1, 0, none⟩ = some (.int .i64 0) := v1.cell 0
  have y1 : w1.cell? ⟨w.heap.size + 1, 1, none⟩ = some (.bool false) := v1.cell 1
  have y2 : w1.cell? ⟨w.heap.size + 1, 2, none⟩ = some (.slice none 0 0) := v1.cell 2
  have y3 : w1.cell? ⟨w.heap.size + 1, 3, none⟩ = some (.slice none 0 0) := v1.cell 3
  have f0 := v1.free 0
  have f1 := v1.free 1
  have f2 := v1.free 2
  have f3 := v1.free 3
  obtain ⟨⟨u0, u1, u2, u3⟩, g0, g1, g2, g3⟩ := a2.cells
  clear v0 v1 a2 on1 ho1 hg1 hf1
  go_wp2_with fail
  refine bodyPost_ret (v := .tuple #[.agg #[.int .i64 2, .bool q, .slice A1 (na + 1) c1, .slice Q np cp], .agg #[.int .i64 0, .int .i64 0, .bool false, .slice none 0 0]]) (by simp [results, Tryd.results40, go_sem, y0, y1, y2, y3, u0, u1, u2, u3]) rfl ?_
  refine csi_fin HQ.out (H := w.heap.size + 1 + 1 + 1) (by omega) HOW.out (fun i hi => (HF1.out i hi).imp id fun h => by simpa using h) HAl.out HAQ.out HO1.out ?_ 2 q
  exact ((Only.cell_ w1 w.heap.size 2 _ ⟨by omega, by omega⟩).trans (put_T _ ⟨by omega, by omega⟩ _ _ _ _)).trans (put_T _ ⟨by omega, by omega⟩ _ _ _ _)
set_option maxRecDepth 100000 in
set_option maxHeartbeats 1600000 in
theorem csi_digit_0 (base : Nat) (q : Bool) (A : Option Addr) (ca : Nat) (zs bs : List Int) (Q : Option Addr) (np cp : Nat) (b : Int) (w : World) (hI : OwnI w base A 0 ca zs) (hQ : Own w base Q np cp bs) (hb : base ≤ w.heap.size) (hl : 48 ≤ b) (hu : b ≤ 57) :
    Calls Tryd.prog 40 #[.agg #[.int .i64 2, .bool q, .slice A 0 ca, .slice Q np cp], .int .i64 b] w (AnsC w base A 0 ca (⟨2, q, [b - 48], bs⟩, az)) := by
  have hz9 : zs = [] := List.eq_nil_of_length_eq_zero hI.len
  subst hz9
  have n63 : (b == 63) = false := by simp; omega
  have HW3 := Lib.hid (show Below w.heap.size w (((w.alloc (.cells #[.int .i64 2, .bool q, .slice A 0 ca, .slice Q np cp] 38)).alloc (.cells #[.int .i64 0, .bool false, .slice none 0 0, .slice none 0 0] 38)).alloc (.cells #[.int .i64 0, .int .i64 0, .bool false, .slice none 0 0] 53)) from (((Below.refl _ _).alloc (Nat.le_refl _) _).alloc (by simp) _).alloc (by simp; omega) _)
  have HV0 := Lib.hid (show BoxV (((w.alloc (.cells #[.int .i64 2, .bool q, .slice A 0 ca, .slice Q np cp] 38)).alloc (.cells #[.int .i64 0, .bool false, .slice none 0 0, .slice none 0 0] 38)).alloc (.cells #[.int .i64 0, .int .i64 0, .bool false, .slice none 0 0] 53)) w.heap.size #[.int .i64 2, .bool q, .slice A 0 ca, .slice Q np cp] from ((BoxV.new w _).below ((Below.refl _ _).alloc (Nat.le_refl _) _) (by simp)).below ((Below.refl _ _).alloc (Nat.le_refl _) _) (by simp; omega))
  have HV1 := Lib.hid (show BoxV (((w.alloc (.cells #[.int .i64 2, .bool q, .slice A 0 ca, .slice Q np cp] 38)).alloc (.cells #[.int .i64 0, .bool false, .slice none 0 0, .slice none 0 0] 38)).alloc (.cells #[.int .i64 0, .int .i64 0, .bool false, .slice none 0 0] 53)) (w.heap.size + 1) #[.int .i64 0, .bool false, .slice none 0 0, .slice none 0 0] from by have h := BoxV.new (w.alloc (.cells #[.int .i64 2, .bool q, .slice A 0 ca, .slice Q np cp] 38)) #[.int .i64 0, .bool false, .slice none 0 0, .slice none 0 0]; simp only [World.size_alloc] at h; exact h.below ((Below.refl _ _).alloc (Nat.le_refl _) _) (by simp))
  have HA2 := Lib.hid (show BoxA (((w.alloc (.cells #[.int .i64 2, .bool q, .slice A 0 ca, .slice Q np cp] 38)).alloc (.cells #[.int .i64 0, .bool false, .slice none 0 0, .slice none 0 0] 38)).alloc (.cells #[.int .i64 0, .int .i64 0, .bool false, .slice none 0 0] 53)) (w.heap.size + 1 + 1) #[.int .i64 0, .int .i64 0, .bool false, .slice none 0 0] from by have h := BoxA.new ((w.alloc (.cells #[.int .i64 2, .bool q, .slice A 0 ca, .slice Q np cp] 38)).alloc (.cells #[.int .i64 0, .bool false, .slice none 0 0, .slice none 0 0] 38)) #[.int .i64 0, .int .i64 0, .bool false, .slice none 0 0]; simp only [World.size_alloc] at h; exact h)
  have HI3 := Lib.hid (show OwnI (((w.alloc (.cells #[.int .i64 2, .bool q, .slice A 0 ca, .slice Q np cp] 38)).alloc (.cells #[.int .i64 0, .bool false, .slice none 0 0, .slice none 0 0] 38)).alloc (.cells #[.int .i64 0, .int .i64 0, .bool false, .slice none 0 0] 53)) base A 0 ca [] from ((hI.alloc _).alloc _).alloc _)
  have HAl := Lib.hid (show ∀ i, Blk A 0 ca i → i < w.heap.size from fun i hi => (hI.blk i hi).2)
  have HAQ := Lib.hid (show ∀ i, Blk Q np cp i → ¬ Blk A 0 ca i from fun i hi h => own_ne hQ hI (by decide) i hi h)
  obtain ⟨i0, hi, hz0, hz1, hz2⟩ := info_parts intInfo
  have HI0 := Lib.hid hi
  have HI1 := Lib.hid hz0
  have HI2 := Lib.hid hz1
  have HI4 := Lib.hid hz2
  have HQ := Lib.hid hQ
  clear hI hQ hi hz0 hz1 hz2
  go_enter Tryd.func40, Tryd.ntmps40
  go_wp2_with (at_builtin; refine append_one Tryd.underlying22 HI0.out HI1.out HI2.out HI4.out rfl (by decide) rfl _ _ rfl rfl (w.heap.size + 1 + 1 + 1) (by simp) rfl HI3.out rfl (by omega) (by simp <;> omega) ?_)
  intro A1 c1 w1 ho1 hg1 hf1
  have on1 : Only (fun i => Blk A 0 ca i) _ w1 := Only.grown hg1 fun i hi => hi
  have v0 := HV0.out.only on1 (fun h => by have := HAl.out _ h; omega)
  have v1 := HV1.out.only on1 (fun h => by have := HAl.out _ h; omega)
  have a2 := HA2.out.only on1 (fun h => by have := HAl.out _ h; omega)
  have HO1 := Lib.hid (only_then (Only.below HW3.out (Nat.le_refl _)) on1 (S := fun i => Blk A 0 ca i ∨ w.heap.size ≤ i) fun i hi h => .inl h)
  have HF1 := Lib.hid hf1
  have HOW := Lib.hid (show OwnI w1 base A1 1 c1 [0] from ho1)
  obtain ⟨ga, rfl⟩ := own_addr HOW.out (by omega)
  have ci : w1.cell? ⟨ga, 0, none⟩ = some (.int .i64 0) := by rw [World.ownsRow.cellAt (h := HOW.out) 0 (by omega)]; rfl
  have fi := World.ownsRow.frozenAt (h := HOW.out) 0
  have hne0 : ga < w.heap.size ∨ w.heap.size + 1 + 1 + 1 ≤ ga := (hf1 ga rfl).imp (fun h => HAl.out _ h) (fun h => by first | exact h | simpa using h)
  have hne : ¬ ga = w.heap.size := by omega
  have hne1 : ¬ ga = w.heap.size + 1 := by omega
  have hne2 : ¬ ga = w.heap.size + 1 + 1 := by omega
  have hme : ¬ w.heap.size = ga := by omega
  have hme1 : ¬ w.heap.size + 1 = ga := by omega
  have hme2 : ¬ w.heap.size + 1 + 1 = ga := by omega
  have x0 : w1.cell? ⟨w.heap.size, 0, none⟩ = some (.int .i64 2) := v0.cell 0
  have x1 : w1.cell? ⟨w.heap.size, 1, none⟩ = some (.bool q) := v0.cell 1
  have x2 : w1.cell? ⟨w.heap.size, 2, none⟩ = some (.slice A 0 ca) := v0.cell 2
  have x3 : w1.cell? ⟨w.heap.size, 3, none⟩ = some (.slice Q np cp) := v0.cell 3
  have e2 := v0.free 2
  have y0 : w1.cell? ⟨w.heap.size + 1, 0, none⟩ = some (.int .i64 0) := v1.cell 0
  have y1 : w1.cell? ⟨w.heap.size + 1, 1, none⟩ = some (.bool false) := v1.cell 1
  have y2 : w1.cell? ⟨w.heap.size + 1, 2, none⟩ = some (.slice none 0 0) := v1.cell 2
  have y3 : w1.cell? ⟨w.heap.size + 1, 3, none⟩ = some (.slice none 0 0) := v1.cell 3
  have f0 := v1.free 0
  have f1 := v1.free 1
  have f2 := v1.free 2
  have f3 := v1.free 3
  obtain ⟨⟨u0, u1, u2, u3⟩, g0, g1, g2, g3⟩ := a2.cells
  clear v0 v1 a2 on1 ho1 hg1 hf1
  go_wp2_with fail
  refine bodyPost_ret (v := .tuple #[.agg #[.int .i64 2, .bool q, .slice (some ⟨ga, 0, none⟩) 1 c1, .slice Q np cp], .agg #[.int .i64 0, .int .i64 0, .bool false, .slice none 0 0]]) (by simp [results, Tryd.results40, go_sem, y0, y1, y2, y3, u0, u1, u2, u3]) rfl ?_
  have ho5 := (OwnI.stored (own_setNe (v := .slice (some ⟨ga, 0, none⟩) 1 c1) HOW.out w.heap.size 2 (.slice (some ⟨ga, 0, none⟩) 1 c1) (fun e => hne (by injection e))) 0 (b - 48)).1
  have on5 := (HO1.out.trans (Only.cell_ w1 w.heap.size 2 (.slice (some ⟨ga, 0, none⟩) 1 c1) (.inr (Nat.le_refl _)))).trans (Only.cell_ _ ga 0 (.int .i64 (b - 48)) (by
    rcases HF1.out ga rfl with h | h
    · exact .inl h
    · exact .inr (by first | omega | (simp at h; omega))))
  refine csi_fin HQ.out (H := w.heap.size + 1 + 1 + 1) (by omega) ho5 (fun i hi => (HF1.out i hi).imp id fun h => by simpa using h) HAl.out HAQ.out on5 ?_ 2 q
  exact (put_T _ ⟨by omega, by omega⟩ _ _ _ _).trans (put_T _ ⟨by omega, by omega⟩ _ _ _ _)
set_option maxRecDepth 100000 in
set_option maxHeartbeats 1600000 in
theorem csi_sep_0 (base : Nat) (q : Bool) (A : Option Addr) (ca : Nat) (zs bs : List Int) (Q : Option Addr) (np cp : Nat) (b : Int) (w : World) (hI : OwnI w base A 0 ca zs) (hQ : Own w base Q np cp bs) (hb : base ≤ w.heap.size) (h59 : b = 59) :
    Calls Tryd.prog 40 #[.agg #[.int .i64 2, .bool q, .slice A 0 ca, .slice Q np cp], .int .i64 b] w (AnsC w base A 0 ca (⟨2, q, [0] ++ [0], bs⟩, az)) := by
  have hz9 : zs = [] := List.eq_nil_of_length_eq_zero hI.len
  subst hz9
  subst h59
  have HW3 := Lib.hid (show Below w.heap.size w (((w.alloc (.cells #[.int .i64 2, .bool q, .slice A 0 ca, .slice Q np cp] 38)).alloc (.cells #[.int .i64 0, .bool false, .slice none 0 0, .slice none 0 0] 38)).alloc (.cells #[.int .i64 0, .int .i64 0, .bool false, .slice none 0 0] 53)) from (((Below.refl _ _).alloc (Nat.le_refl _) _).alloc (by simp) _).alloc (by simp; omega) _)
  have HV0 := Lib.hid (show BoxV (((w.alloc (.cells #[.int .i64 2, .bool q, .slice A 0 ca, .slice Q np cp] 38)).alloc (.cells #[.int .i64 0, .bool false, .slice none 0 0, .slice none 0 0] 38)).alloc (.cells #[.int .i64 0, .int .i64 0, .bool false, .slice none 0 0] 53)) w.heap.size #[.int .i64 2, .bool q, .slice A 0 ca, .slice Q np cp] from ((BoxV.new w _).below ((Below.refl _ _).alloc (Nat.le_refl _) _) (by simp)).below ((Below.refl _ _).alloc (Nat.le_refl _) _) (by simp; omega))
  have HV1 := Lib.hid (show BoxV (((w.alloc (.cells #[.int .i64 2, .bool q, .slice A 0 ca, .slice Q np cp] 38)).alloc (.cells #[.int .i64 0, .bool false, .slice none 0 0, .slice none 0 0] 38)).alloc (.cells #[.int .i64 0, .int .i64 0, .bool false, .slice none 0 0] 53)) (w.heap.size + 1) #[.int .i64 0, .bool false, .slice none 0 0, .slice none 0 0] from by have h := BoxV.new (w.alloc (.cells #[.int .i64 2, .bool q, .slice A 0 ca, .slice Q np cp] 38)) #[.int .i64 0, .bool false, .slice none 0 0, .slice none 0 0]; simp only [World.size_alloc] at h; exact h.below ((Below.refl _ _).alloc (Nat.le_refl _) _) (by simp))
  have HA2 := Lib.hid (show BoxA (((w.alloc (.cells #[.int .i64 2, .bool q, .slice A 0 ca, .slice Q np cp] 38)).alloc (.cells #[.int .i64 0, .bool false, .slice none 0 0, .slice none 0 0] 38)).alloc (.cells #[.int .i64 0, .int .i64 0, .bool false, .slice none 0 0] 53)) (w.heap.size + 1 + 1) #[.int .i64 0, .int .i64 0, .bool false, .slice none 0 0] from by have h := BoxA.new ((w.alloc (.cells #[.int .i64 2, .bool q, .slice A 0 ca, .slice Q np cp] 38)).alloc (.cells #[.int .i64 0, .bool false, .slice none 0 0, .slice none 0 0] 38)) #[.int .i64 0, .int .i64 0, .bool false, .slice none 0 0]; simp only [World.size_alloc] at h; exact h)
  have HI3 := Lib.hid (show OwnI (((w.alloc (.cells #[.int .i64 2, .bool q, .slice A 0 ca, .slice Q np cp] 38)).alloc (.cells #[.int .i64 0, .bool false, .slice none 0 0, .slice none 0 0] 38)).alloc (.cells #[.int .i64 0, .int .i64 0, .bool false, .slice none 0 0] 53)) base A 0 ca [] from ((hI.alloc _).alloc _).alloc _)
  have HAl := Lib.hid (show ∀ i, Blk A 0 ca i → i < w.heap.size from fun i hi => (hI.blk i hi).2)
  have HAQ := Lib.hid (show ∀ i, Blk Q np cp i → ¬ Blk A 0 ca i from fun i hi h => own_ne hQ hI (by decide) i hi h)
  obtain ⟨i0, hi, hz0, hz1, hz2⟩ := info_parts intInfo
  have HI0 := Lib.hid hi
  have HI1 := Lib.hid hz0
  have HI2 := Lib.hid hz1
  have HI4 := Lib.hid hz2
  have HQ := Lib.hid hQ
  clear hI hQ hi hz0 hz1 hz2
  go_enter Tryd.func40, Tryd.ntmps40
  go_wp2_with (at_builtin; refine append_one Tryd.underlying22 HI0.out HI1.out HI2.out HI4.out rfl (by decide) rfl _ _ rfl rfl (w.heap.size + 1 + 1 + 1) (by simp) rfl HI3.out rfl (by omega) (by simp <;> omega) ?_)
  intro A1 c1 w1 ho1 hg1 hf1
  have on1 : Only (fun i => Blk A 0 ca i) _ w1 := Only.grown hg1 fun i hi => hi
  have v0 := HV0.out.only on1 (fun h => by have := HAl.out _ h; omega)
  have v1 := HV1.out.only on1 (fun h => by have := HAl.out _ h; omega)
  have a2 := HA2.out.only on1 (fun h => by have := HAl.out _ h; omega)
  have HO1 := Lib.hid (only_then (Only.below HW3.out (Nat.le_refl _)) on1 (S := fun i => Blk A 0 ca i ∨ w.heap.size ≤ i) fun i hi h => .inl h)
  have HF1 := Lib.hid hf1
  have HOW := Lib.hid (show OwnI w1 base A1 1 c1 [0] from ho1)
  have hn1 : ∀ i, Blk A1 1 c1 i → i < w.heap.size ∨ w.heap.size + 1 + 1 + 1 ≤ i := fun i hi => (hf1 i hi).imp (fun h => HAl.out _ h) (fun h => by first | exact h | simpa using h)
  have HN1 := Lib.hid hn1
  have HX0 := Lib.hid (v0.set2 (.slice A1 1 c1))
  have HX1 := Lib.hid (v1.other (b' := w.heap.size) (j := 2) (v := .slice A1 1 c1) (by omega))
  have HX2 := Lib.hid (a2.other (b' := w.heap.size) (j := 2) (v := .slice A1 1 c1) (by omega))
  have HI5 := Lib.hid (show OwnI (w1.setCell ⟨w.heap.size, 2, none⟩ (.slice A1 1 c1)) base A1 1 c1 [0] from own_setNe HOW.out _ 2 _ (fun e => by have := HN1.out _ e; omega))
  have HO2 := Lib.hid (HO1.out.trans (Only.cell_ w1 w.heap.size 2 (.slice A1 1 c1) (.inr (Nat.le_refl _))))
  have hz1 : w.heap.size + 1 + 1 < w1.heap.size := a2.lt
  have hz2 := HX2.out.lt
  have x0 : w1.cell? ⟨w.heap.size, 0, none⟩ = some (.int .i64 2) := v0.cell 0
  have x1 : w1.cell? ⟨w.heap.size, 1, none⟩ = some (.bool q) := v0.cell 1
  have x2 : w1.cell? ⟨w.heap.size, 2, none⟩ = some (.slice A 0 ca) := v0.cell 2
  have x3 : w1.cell? ⟨w.heap.size, 3, none⟩ = some (.slice Q np cp) := v0.cell 3
  have e2 := v0.free 2
  have y0 : w1.cell? ⟨w.heap.size + 1, 0, none⟩ = some (.int .i64 0) := v1.cell 0
  have y1 : w1.cell? ⟨w.heap.size + 1, 1, none⟩ = some (.bool false) := v1.cell 1
  have y2 : w1.cell? ⟨w.heap.size + 1, 2, none⟩ = some (.slice none 0 0) := v1.cell 2
  have y3 : w1.cell? ⟨w.heap.size + 1, 3, none⟩ = some (.slice none 0 0) := v1.cell 3
  have f0 := v1.free 0
  have f1 := v1.free 1
  have f2 := v1.free 2
  have f3 := v1.free 3
  obtain ⟨⟨u0, u1, u2, u3⟩, g0, g1, g2, g3⟩ := a2.cells
  clear v0 v1 a2 on1 ho1 hg1 hf1 hn1 y0 y1 y2 y3 u0 u1 u2 u3 f0 f1 f2 f3 g0 g1 g2 g3
  go_wp2_with (at_builtin; refine append_one Tryd.underlying22 HI0.out HI1.out HI2.out HI4.out rfl (by decide) rfl _ _ rfl rfl (w1.heap.size) (by simp) rfl HI5.out rfl (by omega) (by simp <;> omega) ?_)
  intro A2 c2 w2 ho2 hg2 hf2
  have on2 : Only (fun i => Blk A1 1 c1 i) _ w2 := Only.grown hg2 fun i hi => hi
  have v0 := HX0.out.only on2 (fun h => by have := HN1.out _ h; omega)
  have v1 := HX1.out.only on2 (fun h => by have := HN1.out _ h; omega)
  have a2 := HX2.out.only on2 (fun h => by have := HN1.out _ h; omega)
  have HOE := Lib.hid (show OwnI w2 base A2 2 c2 ([0] ++ [0]) from by unfold OwnI; rw [iv_app]; exact ho2)
  have HF2 := Lib.hid hf2
  have HO3 := Lib.hid (only_then HO2.out on2 (S := fun i => Blk A 0 ca i ∨ w.heap.size ≤ i) fun i hi h => by
    rcases HF1.out i h with h | h
    · exact .inl h
    · exact .inr (by first | omega | (simp at h; omega)))
  have HFF := Lib.hid (show ∀ i, Blk A2 2 c2 i → Blk A 0 ca i ∨ w.heap.size + 1 + 1 + 1 ≤ i from fun i hi => by
    rcases hf2 i hi with h | h
    · exact (HF1.out i h).imp id fun h => by simpa using h
    · exact .inr (by first | omega | (simp at h; omega)))
  clear x0 x1 x2 x3 e2
  have x0 : w2.cell? ⟨w.heap.size, 0, none⟩ = some (.int .i64 2) := v0.cell 0
  have x1 : w2.cell? ⟨w.heap.size, 1, none⟩ = some (.bool q) := v0.cell 1
  have x2 : w2.cell? ⟨w.heap.size, 2, none⟩ = some (.slice A1 1 c1) := v0.cell 2
  have x3 : w2.cell? ⟨w.heap.size, 3, none⟩ = some (.slice Q np cp) := v0.cell 3
  have e2 := v0.free 2
  have y0 : w2.cell? ⟨w.heap.size + 1, 0, none⟩ = some (.int .i64 0) := v1.cell 0
  have y1 : w2.cell? ⟨w.heap.size + 1, 1, none⟩ = some (.bool false) := v1.cell 1
  have y2 : w2.cell? ⟨w.heap.size + 1, 2, none⟩ = some (.slice none 0 0) := v1.cell 2
  have y3 : w2.cell? ⟨w.heap.size + 1, 3, none⟩ = some (.slice none 0 0) := v1.cell 3
  have f0 := v1.free 0
  have f1 := v1.free 1
  have f2 := v1.free 2
  have f3 := v1.free 3
  obtain ⟨⟨u0, u1, u2, u3⟩, g0, g1, g2, g3⟩ := a2.cells
  clear v0 v1 a2 on2 ho2 hg2 hf2
  go_wp2_with fail
  refine bodyPost_ret (v := .tuple #[.agg #[.int .i64 2, .bool q, .slice A2 2 c2, .slice Q np cp], .agg #[.int .i64 0, .int .i64 0, .bool false, .slice none 0 0]]) (by simp [results, Tryd.results40, go_sem, y0, y1, y2, y3, u0, u1, u2, u3]) rfl ?_
  refine csi_fin HQ.out (H := w.heap.size + 1 + 1 + 1) (by omega) HOE.out HFF.out HAl.out HAQ.out HO3.out ?_ 2 q
  exact ((Only.cell_ w2 w.heap.size 2 _ ⟨by omega, by omega⟩).trans (put_T _ ⟨by omega, by omega⟩ _ _ _ _)).trans (put_T _ ⟨by omega, by omega⟩ _ _ _ _)
end Go.Proofs.YtfdbmhelcmifoaaDoor.Vp
