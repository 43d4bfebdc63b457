/- The program's parser: VpByte in the program. -/
import Derived.Test.YtfdbmhelcmifoaaDoorVpN
import Derived.Deep.RegionWith
import Derived.Deep.DrawnRows
namespace Go.Proofs.YtfdbmhelcmifoaaDoor.Vp
open Go.RowKit Go.Proofs.YtfdbmhelcmifoaaDoor.Bytes Go.Proofs.YtfdbmhelcmifoaaDoor.DOk Go.Proofs.YtfdbmhelcmifoaaDoor.Rune Go.Proofs.YtfdbmhelcmifoaaDoor.RowK Go.Proofs.YtfdbmhelcmifoaaDoor.Gr
set_option linter.unusedVariables false
attribute [local go_sem ↓] Go.wp_at_zero Go.wp_at_succ
theorem put4v (w : World) (b : Nat) (x0 x1 x2 x3 : Value) : Only (· = b) w ((((w.setCell ⟨b, 0, none⟩ x0).setCell ⟨b, 1, none⟩ x1).setCell ⟨b, 2, none⟩ x2).setCell ⟨b, 3, none⟩ x3) := put4 w b x0 x1 x2 x3
theorem own_drew_ {w : World} {base K n : Nat} {E : TypeId} {v : Value} {xs : List Value} (h : w.ownsRow base E K v n xs) : w.drew.ownsRow base E K v n xs := h
theorem own_fin {w : World} {base B K n b1 b2 : Nat} {E : TypeId} {v : Value} {xs : List Value} (h : w.ownsRow base E K v n xs) (h1 : b1 < base) (h2 : b2 < base) (hB : B ≤ base) (x0 x1 x2 x3 y0 y1 y2 y3 : Value) (o : Obj) :
    (((((((((w.setCell ⟨b1, 0, none⟩ x0).setCell ⟨b1, 1, none⟩ x1).setCell ⟨b1, 2, none⟩ x2).setCell ⟨b1, 3, none⟩ x3).setCell ⟨b2, 0, none⟩ y0).setCell ⟨b2, 1, none⟩ y1).setCell ⟨b2, 2, none⟩ y2).setCell ⟨b2, 3, none⟩ y3).alloc o).drew.ownsRow B E K v n xs :=
  own_drew_ (own_moreK (World.ownsRow.alloc (own_put4 (own_put4 h h1 x0 x1 x2 x3) h2 y0 y1 y2 y3) o) hB)
theorem below_fin {w a : World} {B b1 b2 : Nat} (h : Below B a w) (h1 : B ≤ b1) (h2 : B ≤ b2) (hw : B ≤ w.heap.size) (x0 x1 x2 x3 y0 y1 y2 y3 : Value) (o : Obj) :
    Below B a (((((((((w.setCell ⟨b1, 0, none⟩ x0).setCell ⟨b1, 1, none⟩ x1).setCell ⟨b1, 2, none⟩ x2).setCell ⟨b1, 3, none⟩ x3).setCell ⟨b2, 0, none⟩ y0).setCell ⟨b2, 1, none⟩ y1).setCell ⟨b2, 2, none⟩ y2).setCell ⟨b2, 3, none⟩ y3).alloc o).drew :=
  ((below_put4 (below_put4 h h1 x0 x1 x2 x3) h2 y0 y1 y2 y3).alloc (by simpa using hw) o).drew
set_option maxRecDepth 100000 in
set_option maxHeartbeats 1600000 in
theorem impl_VpByte_bad (st : Int) (mk : Bool) (A : Option Addr) (na ca : Nat) (zs : List Int) (P : Option Addr) (np cp : Nat) (bs : List Int) (b : Int) (w : World) (hT : Dec.Tabs8 w) (hr : RdI w w.heap.size A zs) (hA : A = none → na = 0 ∧ ca = 0) (hl : zs.length = na) (hn : na ≤ 1048576) (hp : Rd w w.heap.size P bs) (hP : P = none → np = 0 ∧ cp = 0) (hg : Rng bs) (hpl : bs.length = np) (hpn : np ≤ 1048576) (hok : okVp st mk zs bs = false) :
    Calls Tryd.prog 14 #[.agg #[.int .i64 st, .bool mk, .slice A na ca, .slice P np cp], .int .i64 b] w (AnsVB w (vz, az)) := by
  have HW0 := Lib.hid (show Below w.heap.size w (((w.alloc (.cells #[.int .i64 st, .bool mk, .slice A na ca, .slice P np cp] 38)).alloc (.cells #[.int .i64 0, .bool false, .slice none 0 0, .slice none 0 0] 38)).alloc (.cells #[.int .i64 0, .int .i64 0, .bool false, .slice none 0 0] 53)) from (((Below.refl _ _).alloc (Nat.le_refl _) _).alloc (by simp) _).alloc (by simp; omega) _)
  have HV := Lib.hid (show BoxV (((w.alloc (.cells #[.int .i64 st, .bool mk, .slice A na ca, .slice P np cp] 38)).alloc (.cells #[.int .i64 0, .bool false, .slice none 0 0, .slice none 0 0] 38)).alloc (.cells #[.int .i64 0, .int .i64 0, .bool false, .slice none 0 0] 53)) w.heap.size #[.int .i64 st, .bool mk, .slice A na ca, .slice P np cp] from ((BoxV.new w _).below ((Below.refl _ _).alloc (Nat.le_refl _) _) (by simp)).below ((Below.refl _ _).alloc (Nat.le_refl _) _) (by simp; omega))
  have HV1 := Lib.hid (show BoxV (((w.alloc (.cells #[.int .i64 st, .bool mk, .slice A na ca, .slice P np cp] 38)).alloc (.cells #[.int .i64 0, .bool false, .slice none 0 0, .slice none 0 0] 38)).alloc (.cells #[.int .i64 0, .int .i64 0, .bool false, .slice none 0 0] 53)) (w.heap.size + 1) #[.int .i64 0, .bool false, .slice none 0 0, .slice none 0 0] from by have h := BoxV.new (w.alloc (.cells #[.int .i64 st, .bool mk, .slice A na ca, .slice P np cp] 38)) #[.int .i64 0, .bool false, .slice none 0 0, .slice none 0 0]; simp only [World.size_alloc] at h; exact h.below ((Below.refl _ _).alloc (Nat.le_refl _) _) (by simp))
  have HA2 := Lib.hid (show BoxA (((w.alloc (.cells #[.int .i64 st, .bool mk, .slice A na ca, .slice P np cp] 38)).alloc (.cells #[.int .i64 0, .bool false, .slice none 0 0, .slice none 0 0] 38)).alloc (.cells #[.int .i64 0, .int .i64 0, .bool false, .slice none 0 0] 53)) (w.heap.size + 1 + 1) #[.int .i64 0, .int .i64 0, .bool false, .slice none 0 0] from by have h := BoxA.new ((w.alloc (.cells #[.int .i64 st, .bool mk, .slice A na ca, .slice P np cp] 38)).alloc (.cells #[.int .i64 0, .bool false, .slice none 0 0, .slice none 0 0] 38)) #[.int .i64 0, .int .i64 0, .bool false, .slice none 0 0]; simp only [World.size_alloc] at h; exact h)
  have HC := impl_VpOk_any st mk A na ca zs P np cp bs (((w.alloc (.cells #[.int .i64 st, .bool mk, .slice A na ca, .slice P np cp] 38)).alloc (.cells #[.int .i64 0, .bool false, .slice none 0 0, .slice none 0 0] 38)).alloc (.cells #[.int .i64 0, .int .i64 0, .bool false, .slice none 0 0] 53)) (tabs_below hT HW0.out) ((hr.below (Nat.le_refl _) HW0.out).more HW0.out.size) hl (by omega) ((hp.below (Nat.le_refl _) HW0.out).more HW0.out.size) hg hpl (by omega)
  rw [hok] at HC
  have HC := Lib.hid HC
  clear hT hr hA hl hn hp hP hg hpl hpn hok
  go_enter Tryd.func14, Tryd.ntmps14
  go_wp2_with fail
  refine HC.out.mono ?_
  rintro e w1 ⟨rfl, hb1⟩
  have HW1 := Lib.hid (HW0.out.trans (hb1.mono (by simp <;> omega)))
  have v1 := HV1.out.below hb1 (by simp <;> omega)
  have a2 := HA2.out.below hb1 (by simp <;> omega)
  have v0 := HV.out.below hb1 (by simp <;> omega)
  have hz1 : w.heap.size + 1 + 1 < w1.heap.size := by have := hb1.size; simp at this; omega
  have x0 : w1.cell? ⟨w.heap.size + 1, 0, none⟩ = some (.int .i64 0) := v1.cell 0
  have x1 : w1.cell? ⟨w.heap.size + 1, 1, none⟩ = some (.bool false) := v1.cell 1
  have x2 : w1.cell? ⟨w.heap.size + 1, 2, none⟩ = some (.slice none 0 0) := v1.cell 2
  have x3 : w1.cell? ⟨w.heap.size + 1, 3, none⟩ = some (.slice none 0 0) := v1.cell 3
  have f0 := v1.free 0
  have f1 := v1.free 1
  have f2 := v1.free 2
  have f3 := v1.free 3
  obtain ⟨⟨u0, u1, u2, u3⟩, g0, g1, g2, g3⟩ := a2.cells
  clear v0 v1 a2 hb1
  go_wp2_with fail
  refine bodyPost_ret (v := .tuple #[.agg #[.int .i64 0, .bool false, .slice none 0 0, .slice none 0 0], .agg #[.int .i64 0, .int .i64 0, .bool false, .slice none 0 0]]) (by simp [results, Tryd.results14, go_sem, x0, x1, x2, x3, u0, u1, u2, u3]) rfl ?_
  exact ⟨none, 0, 0, none, 0, 0, none, 0, 0, rfl, ownI_nil _ _, own_nil _ _, ownI_nil _ _, .inl rfl, below_put4 (below_put4 HW1.out (by omega) _ _ _ _) (by omega) _ _ _ _⟩
set_option maxRecDepth 100000 in
set_option maxHeartbeats 1600000 in
theorem impl_VpByte_out (st : Int) (mk : Bool) (A : Option Addr) (na ca : Nat) (zs : List Int) (P : Option Addr) (np cp : Nat) (bs : List Int) (b : Int) (w : World) (hT : Dec.Tabs8 w) (hr : RdI w w.heap.size A zs) (hA : A = none → na = 0 ∧ ca = 0) (hl : zs.length = na) (hn : na ≤ 1048576) (hp : Rd w w.heap.size P bs) (hP : P = none → np = 0 ∧ cp = 0) (hg : Rng bs) (hpl : bs.length = np) (hpn : np ≤ 1048576) (hok : okVp st mk zs bs = true) (hb : ¬ (0 ≤ b ∧ b ≤ 255)) :
    Calls Tryd.prog 14 #[.agg #[.int .i64 st, .bool mk, .slice A na ca, .slice P np cp], .int .i64 b] w (AnsVB w (vz, az)) := by
  have HW0 := Lib.hid (show Below w.heap.size w (((w.alloc (.cells #[.int .i64 st, .bool mk, .slice A na ca, .slice P np cp] 38)).alloc (.cells #[.int .i64 0, .bool false, .slice none 0 0, .slice none 0 0] 38)).alloc (.cells #[.int .i64 0, .int .i64 0, .bool false, .slice none 0 0] 53)) from (((Below.refl _ _).alloc (Nat.le_refl _) _).alloc (by simp) _).alloc (by simp; omega) _)
  have HV := Lib.hid (show BoxV (((w.alloc (.cells #[.int .i64 st, .bool mk, .slice A na ca, .slice P np cp] 38)).alloc (.cells #[.int .i64 0, .bool false, .slice none 0 0, .slice none 0 0] 38)).alloc (.cells #[.int .i64 0, .int .i64 0, .bool false, .slice none 0 0] 53)) w.heap.size #[.int .i64 st, .bool mk, .slice A na ca, .slice P np cp] from ((BoxV.new w _).below ((Below.refl _ _).alloc (Nat.le_refl _) _) (by simp)).below ((Below.refl _ _).alloc (Nat.le_refl _) _) (by simp; omega))
  have HV1 := Lib.hid (show BoxV (((w.alloc (.cells #[.int .i64 st, .bool mk, .slice A na ca, .slice P np cp] 38)).alloc (.cells #[.int .i64 0, .bool false, .slice none 0 0, .slice none 0 0] 38)).alloc (.cells #[.int .i64 0, .int .i64 0, .bool false, .slice none 0 0] 53)) (w.heap.size + 1) #[.int .i64 0, .bool false, .slice none 0 0, .slice none 0 0] from by have h := BoxV.new (w.alloc (.cells #[.int .i64 st, .bool mk, .slice A na ca, .slice P np cp] 38)) #[.int .i64 0, .bool false, .slice none 0 0, .slice none 0 0]; simp only [World.size_alloc] at h; exact h.below ((Below.refl _ _).alloc (Nat.le_refl _) _) (by simp))
  have HA2 := Lib.hid (show BoxA (((w.alloc (.cells #[.int .i64 st, .bool mk, .slice A na ca, .slice P np cp] 38)).alloc (.cells #[.int .i64 0, .bool false, .slice none 0 0, .slice none 0 0] 38)).alloc (.cells #[.int .i64 0, .int .i64 0, .bool false, .slice none 0 0] 53)) (w.heap.size + 1 + 1) #[.int .i64 0, .int .i64 0, .bool false, .slice none 0 0] from by have h := BoxA.new ((w.alloc (.cells #[.int .i64 st, .bool mk, .slice A na ca, .slice P np cp] 38)).alloc (.cells #[.int .i64 0, .bool false, .slice none 0 0, .slice none 0 0] 38)) #[.int .i64 0, .int .i64 0, .bool false, .slice none 0 0]; simp only [World.size_alloc] at h; exact h)
  have HC := impl_VpOk_any st mk A na ca zs P np cp bs (((w.alloc (.cells #[.int .i64 st, .bool mk, .slice A na ca, .slice P np cp] 38)).alloc (.cells #[.int .i64 0, .bool false, .slice none 0 0, .slice none 0 0] 38)).alloc (.cells #[.int .i64 0, .int .i64 0, .bool false, .slice none 0 0] 53)) (tabs_below hT HW0.out) ((hr.below (Nat.le_refl _) HW0.out).more HW0.out.size) hl (by omega) ((hp.below (Nat.le_refl _) HW0.out).more HW0.out.size) hg hpl (by omega)
  rw [hok] at HC
  have HI := Lib.hid (fun W : World => isByte_no b W hb)
  have HC := Lib.hid HC
  clear hT hr hA hl hn hp hP hg hpl hpn hok hb
  go_enter Tryd.func14, Tryd.ntmps14
  go_wp2_with fail
  refine HC.out.mono ?_
  rintro e w1 ⟨rfl, hb1⟩
  have HW1 := Lib.hid (HW0.out.trans (hb1.mono (by simp <;> omega)))
  have v1 := HV1.out.below hb1 (by simp <;> omega)
  have a2 := HA2.out.below hb1 (by simp <;> omega)
  have v0 := HV.out.below hb1 (by simp <;> omega)
  have hz1 : w.heap.size + 1 + 1 < w1.heap.size := by have := hb1.size; simp at this; omega
  have x0 : w1.cell? ⟨w.heap.size + 1, 0, none⟩ = some (.int .i64 0) := v1.cell 0
  have x1 : w1.cell? ⟨w.heap.size + 1, 1, none⟩ = some (.bool false) := v1.cell 1
  have x2 : w1.cell? ⟨w.heap.size + 1, 2, none⟩ = some (.slice none 0 0) := v1.cell 2
  have x3 : w1.cell? ⟨w.heap.size + 1, 3, none⟩ = some (.slice none 0 0) := v1.cell 3
  have f0 := v1.free 0
  have f1 := v1.free 1
  have f2 := v1.free 2
  have f3 := v1.free 3
  obtain ⟨⟨u0, u1, u2, u3⟩, g0, g1, g2, g3⟩ := a2.cells
  clear v0 v1 a2 hb1
  go_wp2_with fail
  refine (HI.out _).mono ?_
  rintro e w9 ⟨rfl, rfl⟩
  go_wp2_with fail
  refine bodyPost_ret (v := .tuple #[.agg #[.int .i64 0, .bool false, .slice none 0 0, .slice none 0 0], .agg #[.int .i64 0, .int .i64 0, .bool false, .slice none 0 0]]) (by simp [results, Tryd.results14, go_sem, x0, x1, x2, x3, u0, u1, u2, u3]) rfl ?_
  exact ⟨none, 0, 0, none, 0, 0, none, 0, 0, rfl, ownI_nil _ _, own_nil _ _, ownI_nil _ _, .inl rfl, below_put4 (below_put4 HW1.out (by omega) _ _ _ _) (by omega) _ _ _ _⟩
set_option maxRecDepth 100000 in
set_option maxHeartbeats 1600000 in
theorem impl_VpByte_ok (st : Int) (mk : Bool) (A : Option Addr) (na ca : Nat) (zs : List Int) (P : Option Addr) (np cp : Nat) (bs : List Int) (b : Int) (w : World) (hT : Dec.Tabs8 w) (hr : RdI w w.heap.size A zs) (hA : A = none → na = 0 ∧ ca = 0) (hl : zs.length = na) (hn : na ≤ 1048576) (hp : Rd w w.heap.size P bs) (hP : P = none → np = 0 ∧ cp = 0) (hg : Rng bs) (hpl : bs.length = np) (hpn : np ≤ 1048576) (hok : okVp st mk zs bs = true) (hb0 : 0 ≤ b) (hb1 : b ≤ 255) :
    Calls Tryd.prog 14 #[.agg #[.int .i64 st, .bool mk, .slice A na ca, .slice P np cp], .int .i64 b] w (AnsVB w (stepV ⟨st, mk, zs, bs⟩ b)) := by
  have HW0 := Lib.hid (show Below w.heap.size w (((w.alloc (.cells #[.int .i64 st, .bool mk, .slice A na ca, .slice P np cp] 38)).alloc (.cells #[.int .i64 0, .bool false, .slice none 0 0, .slice none 0 0] 38)).alloc (.cells #[.int .i64 0, .int .i64 0, .bool false, .slice none 0 0] 53)) from (((Below.refl _ _).alloc (Nat.le_refl _) _).alloc (by simp) _).alloc (by simp; omega) _)
  have HV := Lib.hid (show BoxV (((w.alloc (.cells #[.int .i64 st, .bool mk, .slice A na ca, .slice P np cp] 38)).alloc (.cells #[.int .i64 0, .bool false, .slice none 0 0, .slice none 0 0] 38)).alloc (.cells #[.int .i64 0, .int .i64 0, .bool false, .slice none 0 0] 53)) w.heap.size #[.int .i64 st, .bool mk, .slice A na ca, .slice P np cp] from ((BoxV.new w _).below ((Below.refl _ _).alloc (Nat.le_refl _) _) (by simp)).below ((Below.refl _ _).alloc (Nat.le_refl _) _) (by simp; omega))
  have HV1 := Lib.hid (show BoxV (((w.alloc (.cells #[.int .i64 st, .bool mk, .slice A na ca, .slice P np cp] 38)).alloc (.cells #[.int .i64 0, .bool false, .slice none 0 0, .slice none 0 0] 38)).alloc (.cells #[.int .i64 0, .int .i64 0, .bool false, .slice none 0 0] 53)) (w.heap.size + 1) #[.int .i64 0, .bool false, .slice none 0 0, .slice none 0 0] from by have h := BoxV.new (w.alloc (.cells #[.int .i64 st, .bool mk, .slice A na ca, .slice P np cp] 38)) #[.int .i64 0, .bool false, .slice none 0 0, .slice none 0 0]; simp only [World.size_alloc] at h; exact h.below ((Below.refl _ _).alloc (Nat.le_refl _) _) (by simp))
  have HA2 := Lib.hid (show BoxA (((w.alloc (.cells #[.int .i64 st, .bool mk, .slice A na ca, .slice P np cp] 38)).alloc (.cells #[.int .i64 0, .bool false, .slice none 0 0, .slice none 0 0] 38)).alloc (.cells #[.int .i64 0, .int .i64 0, .bool false, .slice none 0 0] 53)) (w.heap.size + 1 + 1) #[.int .i64 0, .int .i64 0, .bool false, .slice none 0 0] from by have h := BoxA.new ((w.alloc (.cells #[.int .i64 st, .bool mk, .slice A na ca, .slice P np cp] 38)).alloc (.cells #[.int .i64 0, .bool false, .slice none 0 0, .slice none 0 0] 38)) #[.int .i64 0, .int .i64 0, .bool false, .slice none 0 0]; simp only [World.size_alloc] at h; exact h)
  have HC := impl_VpOk_any st mk A na ca zs P np cp bs (((w.alloc (.cells #[.int .i64 st, .bool mk, .slice A na ca, .slice P np cp] 38)).alloc (.cells #[.int .i64 0, .bool false, .slice none 0 0, .slice none 0 0] 38)).alloc (.cells #[.int .i64 0, .int .i64 0, .bool false, .slice none 0 0] 53)) (tabs_below hT HW0.out) ((hr.below (Nat.le_refl _) HW0.out).more HW0.out.size) hl (by omega) ((hp.below (Nat.le_refl _) HW0.out).more HW0.out.size) hg hpl (by omega)
  rw [hok] at HC
  have HC := Lib.hid HC
  have HI := Lib.hid (fun W : World => isByte_yes b W hb0 hb1)
  have HOK := Lib.hid (show VS.ok ⟨st, mk, zs, bs⟩ from ⟨hok, hg⟩)
  have hst : 0 ≤ st ∧ st ≤ 3 := by rcases ok_parts HOK.out with ⟨h, _⟩ | ⟨h, _⟩ | ⟨h, _⟩ <;> simp only at h <;> omega
  have HP := Lib.hid (fun W (h : Below w.heap.size w W) => newParser_any st hst mk A na ca zs P np cp bs W ((hr.below (Nat.le_refl _) h).more h.size) hA hl (by omega) ((hp.below (Nat.le_refl _) h).more h.size) hP hpl (by omega))
  have HT := Lib.hid (fun W (h : Below w.heap.size w W) => tabs_below hT h)
  obtain ⟨r, hrr⟩ : ∃ r, r = stepV ⟨st, mk, zs, bs⟩ b := ⟨_, rfl⟩
  rw [← hrr]
  have HR := Lib.hid hrr.symm
  clear hT hr hA hl hn hp hP hg hpl hpn hok hst hrr
  go_enter Tryd.func14, Tryd.ntmps14
  go_wp2_with fail
  refine HC.out.mono ?_
  rintro e w1 ⟨rfl, hb1⟩
  have HW1 := Lib.hid (HW0.out.trans (hb1.mono (by simp <;> omega)))
  have v1 := HV1.out.below hb1 (by simp <;> omega)
  have a2 := HA2.out.below hb1 (by simp <;> omega)
  have v0 := HV.out.below hb1 (by simp <;> omega)
  have hz1 : w.heap.size + 1 + 1 < w1.heap.size := by have := hb1.size; simp at this; omega
  have HV0 := Lib.hid v0
  have HV2 := Lib.hid v1
  have HA3 := Lib.hid a2
  have y0 : w1.cell? ⟨w.heap.size, 0, none⟩ = some (.int .i64 st) := v0.cell 0
  have y1 : w1.cell? ⟨w.heap.size, 1, none⟩ = some (.bool mk) := v0.cell 1
  have y2 : w1.cell? ⟨w.heap.size, 2, none⟩ = some (.slice A na ca) := v0.cell 2
  have y3 : w1.cell? ⟨w.heap.size, 3, none⟩ = some (.slice P np cp) := v0.cell 3
  clear v0 v1 a2 hb1
  go_wp2_with fail
  refine (HI.out _).mono ?_
  rintro e w9 ⟨rfl, rfl⟩
  go_wp2_with fail
  refine (HP.out _ HW1.out).mono ?_
  rintro e w2 ⟨g, A1, c1, P1, d1, rfl, hp2, hg2, hb2⟩
  have HP2 := Lib.hid hp2
  have HW2 := Lib.hid (HW1.out.trans (hb2.mono (by omega)))
  have HV3 := Lib.hid (HV2.out.below hb2 (by omega))
  have HA4 := Lib.hid (HA3.out.below hb2 hz1)
  have HT2 := Lib.hid (show TabsB w1.heap.size w2 from ⟨w1, HT.out _ HW1.out, Nat.le_refl _, hb2⟩)
  have hz2 : w1.heap.size ≤ w2.heap.size := hb2.size
  have HRD := Lib.hid (read_any g w1.heap.size _ A1 na c1 P1 np d1 b w2 hp2 HT2.out HOK.out hz2 hg2 hb0 hb1)
  rw [HR.out] at HRD
  clear hp2 hb2 y0 y1 y2 y3
  go_wp2_with fail
  refine HRD.out.mono ?_
  rintro e w3 ⟨A9, n9, c9, P9, p9, d9, A8, n8, c8, rfl, hp3, hi3, hfa, hfp, hf8, hap, hon⟩
  have hsp := HP2.out.sp hg2
  have nb : ∀ i, i < w1.heap.size → ¬ SP g A1 na c1 P1 np d1 i := fun i hi h' => by have := hsp i h'; omega
  have v1 := HV3.out.only hon (nb _ (by omega))
  have a2 := HA4.out.only hon (nb _ hz1)
  have HW3 := Lib.hid (hon.below_ HW2.out HW2.out.size (fun i hi => by have := hsp i hi; omega))
  have HP3 := Lib.hid hp3
  have HI3 := Lib.hid hi3
  have HAP := Lib.hid hap
  have HO3 := hon.size
  have x0 : w3.cell? ⟨w.heap.size + 1, 0, none⟩ = some (.int .i64 0) := v1.cell 0
  have x1 : w3.cell? ⟨w.heap.size + 1, 1, none⟩ = some (.bool false) := v1.cell 1
  have x2 : w3.cell? ⟨w.heap.size + 1, 2, none⟩ = some (.slice none 0 0) := v1.cell 2
  have x3 : w3.cell? ⟨w.heap.size + 1, 3, none⟩ = some (.slice none 0 0) := v1.cell 3
  have f0 := v1.free 0
  have f1 := v1.free 1
  have f2 := v1.free 2
  have f3 := v1.free 3
  obtain ⟨⟨u0, u1, u2, u3⟩, g0, g1, g2, g3⟩ := a2.cells
  obtain ⟨⟨y0, y1, y2, y3, y4⟩, _⟩ := hp3.cells
  have hg3 := hp3.bx.lt
  have hq1 : w.heap.size + 1 < w3.heap.size := by omega
  have hq2 : w.heap.size + 1 + 1 < w3.heap.size := by omega
  clear v1 a2 hp3 hi3 hfa hfp hf8 hap hon hsp nb
  go_wp2_with fail
  go_region
  all_goals
    go_wp2_with fail
    refine bodyPost_ret (v := .tuple #[.agg #[.int .i64 r.1.st, .bool r.1.q, .slice A9 n9 c9, .slice P9 p9 d9], .agg #[.int .i64 r.2.k, .int .i64 r.2.r, .bool r.2.q, .slice A8 n8 c8]]) (by simp [results, Tryd.results14, go_sem, x0, x1, x2, x3, u0, u1, u2, u3, hq1, hq2]) rfl ?_
    have hB : w.heap.size ≤ w1.heap.size := by omega
    exact ⟨A9, n9, c9, P9, p9, d9, A8, n8, c8, rfl, own_fin HP3.out.i (by omega) hz1 hB _ _ _ _ _ _ _ _ _, own_fin HP3.out.b (by omega) hz1 hB _ _ _ _ _ _ _ _ _, own_fin HI3.out (by omega) hz1 hB _ _ _ _ _ _ _ _ _, HAP.out, below_fin HW3.out (by omega) (by omega) (by omega) _ _ _ _ _ _ _ _ _⟩
theorem impl_VpByte_any (st : Int) (mk : Bool) (A : Option Addr) (na ca : Nat) (zs : List Int) (P : Option Addr) (np cp : Nat) (bs : List Int) (b : Int) (w : World) (hT : Dec.Tabs8 w) (hr : RdI w w.heap.size A zs) (hA : A = none → na = 0 ∧ ca = 0) (hl : zs.length = na) (hn : na ≤ 1048576) (hp : Rd w w.heap.size P bs) (hP : P = none → np = 0 ∧ cp = 0) (hg : Rng bs) (hpl : bs.length = np) (hpn : np ≤ 1048576) :
    Calls Tryd.prog 14 #[.agg #[.int .i64 st, .bool mk, .slice A na ca, .slice P np cp], .int .i64 b] w (AnsVB w (vbV ⟨st, mk, zs, bs⟩ b)) := by
  cases hok : okVp st mk zs bs with
  | false =>
    have e : vbV ⟨st, mk, zs, bs⟩ b = (vz, az) := by unfold vbV isB; simp [hok]
    rw [e]; exact impl_VpByte_bad st mk A na ca zs P np cp bs b w hT hr hA hl hn hp hP hg hpl hpn hok
  | true =>
    by_cases hb : 0 ≤ b ∧ b ≤ 255
    · have e : vbV ⟨st, mk, zs, bs⟩ b = stepV ⟨st, mk, zs, bs⟩ b := by unfold vbV isB; simp [hok, hb]
      rw [e]; exact impl_VpByte_ok st mk A na ca zs P np cp bs b w hT hr hA hl hn hp hP hg hpl hpn hok hb.1 hb.2
    · have e : vbV ⟨st, mk, zs, bs⟩ b = (vz, az) := by unfold vbV isB; rw [if_neg (by simp [hok]; omega)]
      rw [e]; exact impl_VpByte_out st mk A na ca zs P np cp bs b w hT hr hA hl hn hp hP hg hpl hpn hok hb
end Go.Proofs.YtfdbmhelcmifoaaDoor.Vp
