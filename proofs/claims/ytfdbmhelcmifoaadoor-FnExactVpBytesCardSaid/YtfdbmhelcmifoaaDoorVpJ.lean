/- The program's parser: the model's copy of a state, its step outside of sequences. -/
import Derived.Test.YtfdbmhelcmifoaaDoorVpI
import Derived.Deep.RegionWith
import Derived.Deep.DrawnRows
namespace Go.Proofs.YtfdbmhelcmifoaaDoor.Vp
open Go.RowKit Go.Proofs.YtfdbmhelcmifoaaDoor.Bytes Go.Proofs.YtfdbmhelcmifoaaDoor.DOk Go.Proofs.YtfdbmhelcmifoaaDoor.Rune Go.Proofs.YtfdbmhelcmifoaaDoor.RowK Go.Proofs.YtfdbmhelcmifoaaDoor.Gr
set_option linter.unusedVariables false
attribute [local go_sem ↓] Go.wp_at_zero Go.wp_at_succ
theorem own_low {w w' : World} {base B K n : Nat} {E : TypeId} {v : Value} {xs : List Value} (h : w.ownsRow base E K v n xs) (hb : Below B w w') (hlt : ∀ i, v.ownBlock = some i → i < B) : w'.ownsRow base E K v n xs :=
  Only.own h (⟨hb.os, hb.tape, hb.output, hb.size, fun i _ hn => hb.block i (by omega)⟩ : Only (fun i => B ≤ i) w w') fun i hi => by have := hlt i hi; omega
set_option maxRecDepth 100000 in
set_option maxHeartbeats 1600000 in
theorem copy_any (st : Int) (mk : Bool) (A : Option Addr) (na ca : Nat) (zs : List Int) (P : Option Addr) (np cp : Nat) (bs : List Int) (w : World) (hr : RdI w w.heap.size A zs) (hA : A = none → na = 0 ∧ ca = 0) (hl : zs.length = na) (hn : na ≤ 1048576) (hp : Rd w w.heap.size P bs) (hP : P = none → np = 0 ∧ cp = 0) (hpl : bs.length = np) (hpn : np ≤ 1048576) :
    Calls Tryd.prog 38 #[.agg #[.int .i64 st, .bool mk, .slice A na ca, .slice P np cp]] w (AnsVp w st mk na zs np bs) := by
  have HW0 := Lib.hid (show Below w.heap.size w (((w.alloc (.cells #[.int .i64 st, .bool mk, .slice A na ca, .slice P np cp] 38)).alloc (.cells #[.int .i64 0, .bool false, .slice none 0 0, .slice none 0 0] 38)).alloc (.cells #[] 3)) from (((Below.refl _ _).alloc (Nat.le_refl _) _).alloc (by simp) _).alloc (by simp; omega) _)
  have HB := Lib.hid (fun W (h : Below w.heap.size w W) => (hp.below (Nat.le_refl _) h).more h.size)
  have HR0 := Lib.hid ((hr.below (Nat.le_refl _) HW0.out).more HW0.out.size)
  have hown0 : OwnI (((w.alloc (.cells #[.int .i64 st, .bool mk, .slice A na ca, .slice P np cp] 38)).alloc (.cells #[.int .i64 0, .bool false, .slice none 0 0, .slice none 0 0] 38)).alloc (.cells #[] 3)) (w.heap.size + 1 + 1) (some ⟨w.heap.size + 1 + 1, 0, none⟩) 0 0 [] := by
    have h := World.ownsRow_lit ((w.alloc (.cells #[.int .i64 st, .bool mk, .slice A na ca, .slice P np cp] 38)).alloc (.cells #[.int .i64 0, .bool false, .slice none 0 0, .slice none 0 0] 38)) (base := w.heap.size + 1 + 1) (e := 3) (size := 1) #[] 0 (by simp) (by decide) rfl
    simp only [World.size_alloc] at h; exact h
  have HO0 := Lib.hid hown0
  have HV := Lib.hid (show BoxV (((w.alloc (.cells #[.int .i64 st, .bool mk, .slice A na ca, .slice P np cp] 38)).alloc (.cells #[.int .i64 0, .bool false, .slice none 0 0, .slice none 0 0] 38)).alloc (.cells #[] 3)) w.heap.size #[.int .i64 st, .bool mk, .slice A na ca, .slice P np cp] from ((BoxV.new w _).below ((Below.refl _ _).alloc (Nat.le_refl _) _) (by simp)).below ((Below.refl _ _).alloc (Nat.le_refl _) _) (by simp; omega))
  have HZ := Lib.hid (show BoxV (((w.alloc (.cells #[.int .i64 st, .bool mk, .slice A na ca, .slice P np cp] 38)).alloc (.cells #[.int .i64 0, .bool false, .slice none 0 0, .slice none 0 0] 38)).alloc (.cells #[] 3)) (w.heap.size + 1) #[.int .i64 0, .bool false, .slice none 0 0, .slice none 0 0] from by have h := BoxV.new (w.alloc (.cells #[.int .i64 st, .bool mk, .slice A na ca, .slice P np cp] 38)) #[.int .i64 0, .bool false, .slice none 0 0, .slice none 0 0]; simp only [World.size_alloc] at h; exact h.below ((Below.refl _ _).alloc (Nat.le_refl _) _) (by simp))
  have HA := Lib.hid hA
  have HPN := Lib.hid hP
  have HL := Lib.hid hl
  have HPL := Lib.hid hpl
  clear hr hA hl hp hP hpl hown0
  go_enter Tryd.func38, Tryd.ntmps38
  go_wp2_with (at_builtin; refine appendI_src rfl _ _ rfl rfl rfl HO0.out HR0.out HA.out HL.out (by omega) (by omega) (by simp <;> omega) ?_)
  intro A1 c1 w1 ho1 hb1
  have HW1 := Lib.hid (HW0.out.trans (hb1.mono (by omega)))
  have v0 := HV.out.below hb1 (by omega)
  have v1 := HZ.out.below hb1 (by omega)
  have HX := Lib.hid v0
  have HY := Lib.hid v1
  have HI := Lib.hid ho1
  have x0 : w1.cell? ⟨w.heap.size, 0, none⟩ = some (.int .i64 st) := v0.cell 0
  have x1 : w1.cell? ⟨w.heap.size, 1, none⟩ = some (.bool mk) := v0.cell 1
  have x2 : w1.cell? ⟨w.heap.size, 2, none⟩ = some (.slice A na ca) := v0.cell 2
  have x3 : w1.cell? ⟨w.heap.size, 3, none⟩ = some (.slice P np cp) := v0.cell 3
  have f2 := v0.free 2
  have hz1 : w.heap.size + 1 < w1.heap.size := by have := hb1.size; simp at this; omega
  have hz0 : w.heap.size < w1.heap.size := by omega
  clear ho1 hb1 v0 v1
  have HS1 := Lib.hid (show BoxV ((w1.setCell ⟨w.heap.size, 2, none⟩ (.slice A1 na c1)).alloc (.cells #[] 5)) w.heap.size #[.int .i64 st, .bool mk, .slice A1 na c1, .slice P np cp] from (HX.out.set2 _).below ((Below.refl _ _).alloc (Nat.le_refl _) _) (by simp; omega))
  have HS2 := Lib.hid (show BoxV ((w1.setCell ⟨w.heap.size, 2, none⟩ (.slice A1 na c1)).alloc (.cells #[] 5)) (w.heap.size + 1) #[.int .i64 0, .bool false, .slice none 0 0, .slice none 0 0] from (HY.out.other (by omega)).below ((Below.refl _ _).alloc (Nat.le_refl _) _) (by simp; omega))
  have HS3 := Lib.hid (show OwnI ((w1.setCell ⟨w.heap.size, 2, none⟩ (.slice A1 na c1)).alloc (.cells #[] 5)) (w.heap.size + 1 + 1) A1 na c1 zs from World.ownsRow.alloc (own_setK HI.out _ 2 _ (by omega)) _)
  have HS4 := Lib.hid (show Below w.heap.size w ((w1.setCell ⟨w.heap.size, 2, none⟩ (.slice A1 na c1)).alloc (.cells #[] 5)) from (HW1.out.setCell (Nat.le_refl _) _).alloc (by simp; omega) _)
  have HS5 := Lib.hid (show Own ((w1.setCell ⟨w.heap.size, 2, none⟩ (.slice A1 na c1)).alloc (.cells #[] 5)) w1.heap.size (some ⟨w1.heap.size, 0, none⟩) 0 0 [] from by
    have h := World.ownsRow_lit (w1.setCell ⟨w.heap.size, 2, none⟩ (.slice A1 na c1)) (base := w1.heap.size) (e := 5) (size := 1) #[] 0 (by simp) (by decide) rfl
    simp only [World.size_setCell] at h; exact h)
  have HR1 := Lib.hid (HB.out _ HS4.out)
  go_wp2_with (at_builtin; refine append_src rfl _ _ rfl rfl rfl HS5.out HR1.out HPN.out HPL.out (by omega) (by omega) (by simp <;> omega) ?_)
  intro P1 d1 w2 ho2 hb2
  have HW2 := Lib.hid (HS4.out.trans (hb2.mono (by omega)))
  have v0 := HS1.out.below hb2 (by omega)
  have v1 := HS2.out.below hb2 (by omega)
  have HI2 := Lib.hid (own_low HS3.out hb2 (fun i hi => (HI.out.blk i hi).2))
  have HB2 := Lib.hid ho2
  have y0 : w2.cell? ⟨w.heap.size, 0, none⟩ = some (.int .i64 st) := v0.cell 0
  have y1 : w2.cell? ⟨w.heap.size, 1, none⟩ = some (.bool mk) := v0.cell 1
  have y2 : w2.cell? ⟨w.heap.size, 2, none⟩ = some (.slice A1 na c1) := v0.cell 2
  have y3 : w2.cell? ⟨w.heap.size, 3, none⟩ = some (.slice P np cp) := v0.cell 3
  have g3 := v0.free 3
  have q0 : w2.cell? ⟨w.heap.size + 1, 0, none⟩ = some (.int .i64 0) := v1.cell 0
  have q1 : w2.cell? ⟨w.heap.size + 1, 1, none⟩ = some (.bool false) := v1.cell 1
  have q2 : w2.cell? ⟨w.heap.size + 1, 2, none⟩ = some (.slice none 0 0) := v1.cell 2
  have q3 : w2.cell? ⟨w.heap.size + 1, 3, none⟩ = some (.slice none 0 0) := v1.cell 3
  have p0 := v1.free 0
  have p1 := v1.free 1
  have p2 := v1.free 2
  have p3 := v1.free 3
  clear v0 v1 ho2 hb2 x0 x1 x2 x3 f2
  go_wp2_with fail
  refine bodyPost_ret (v := .agg #[.int .i64 st, .bool mk, .slice A1 na c1, .slice P1 np d1]) (by simp [results, Tryd.results38, go_sem, q0, q1, q2, q3]) rfl ?_
  refine ⟨A1, c1, P1, d1, rfl, ?_, ?_, ?_⟩
  · exact own_moreK (own_put4 (own_setK HI2.out _ 3 _ (by omega)) (by omega) _ _ _ _) (by omega)
  · exact own_moreK (own_put4 (own_setK HB2.out _ 3 _ (by omega)) (by omega) _ _ _ _) (by omega)
  · exact below_put4 (HW2.out.setCell (Nat.le_refl _) _) (by omega) _ _ _ _
set_option maxRecDepth 100000 in
set_option maxHeartbeats 1600000 in
theorem plain_ctl (P : Option Addr) (np cp : Nat) (bs : List Int) (b : Int) (w : World) (hc : b < 32 ∨ b = 127) :
    Calls Tryd.prog 39 #[.slice P np cp, .int .i64 b] w (AnsVB w (vz, ⟨2, b, false, []⟩)) := by
  by_cases h1 : b < 32
  · clear hc
    go_enter Tryd.func39, Tryd.ntmps39
    go_wp2_with fail
    refine bodyPost_ret (v := .tuple #[.agg #[.int .i64 0, .bool false, .slice none 0 0, .slice none 0 0], .agg #[.int .i64 2, .int .i64 b, .bool false, .slice none 0 0]]) (by simp [results, Tryd.results39, go_sem]) rfl ?_
    exact ⟨none, 0, 0, none, 0, 0, none, 0, 0, rfl, ownI_nil _ _, own_nil _ _, ownI_nil _ _, .inl rfl, ((Below.refl _ _).alloc (Nat.le_refl _) _).alloc (by simp) _⟩
  · obtain rfl : b = 127 := by omega
    clear hc h1
    go_enter Tryd.func39, Tryd.ntmps39
    go_wp2_with fail
    refine bodyPost_ret (v := .tuple #[.agg #[.int .i64 0, .bool false, .slice none 0 0, .slice none 0 0], .agg #[.int .i64 2, .int .i64 127, .bool false, .slice none 0 0]]) (by simp [results, Tryd.results39, go_sem]) rfl ?_
    exact ⟨none, 0, 0, none, 0, 0, none, 0, 0, rfl, ownI_nil _ _, own_nil _ _, ownI_nil _ _, .inl rfl, ((Below.refl _ _).alloc (Nat.le_refl _) _).alloc (by simp) _⟩
set_option maxRecDepth 100000 in
set_option maxHeartbeats 1600000 in
theorem plain_rune (P : Option Addr) (np cp : Nat) (bs : List Int) (b : Int) (w : World) (hc : 32 ≤ b) (hc2 : b < 127) :
    Calls Tryd.prog 39 #[.slice P np cp, .int .i64 b] w (AnsVB w (vz, ⟨1, b, false, []⟩)) := by
  have hn : ¬ b < 32 := by omega
  have he : (b == 127) = false := by simp; omega
  go_enter Tryd.func39, Tryd.ntmps39
  go_wp2_with fail
  refine bodyPost_ret (v := .tuple #[.agg #[.int .i64 0, .bool false, .slice none 0 0, .slice none 0 0], .agg #[.int .i64 1, .int .i64 b, .bool false, .slice none 0 0]]) (by simp [results, Tryd.results39, go_sem]) rfl ?_
  exact ⟨none, 0, 0, none, 0, 0, none, 0, 0, rfl, ownI_nil _ _, own_nil _ _, ownI_nil _ _, .inl rfl, ((Below.refl _ _).alloc (Nat.le_refl _) _).alloc (by simp) _⟩
set_option maxRecDepth 100000 in
set_option maxHeartbeats 1600000 in
theorem plain_eq (P : Option Addr) (np cp : Nat) (bs : List Int) (b : Int) (w : World) (hp : Rd w w.heap.size P bs) (hP : P = none → np = 0 ∧ cp = 0) (hg : Rng bs) (hpl : bs.length = np) (hpn : np ≤ 100) (h0 : 127 < b) (h1 : b ≤ 255) (hrd : (rdV (bs ++ [b]) 0).2 = ((bs ++ [b]).length : Int)) (r : Int) (hr : (rdV (bs ++ [b]) 0).1 = r) :
    Calls Tryd.prog 39 #[.slice P np cp, .int .i64 b] w (AnsVB w (vz, ⟨1, r, false, []⟩)) := by
  have HW0 := Lib.hid (show Below w.heap.size w (((w.alloc (.cells #[.int .i64 0, .bool false, .slice none 0 0, .slice none 0 0] 38)).alloc (.cells #[.int .i64 0, .int .i64 0, .bool false, .slice none 0 0] 53)).alloc (.cells #[] 5)) from (((Below.refl _ _).alloc (Nat.le_refl _) _).alloc (by simp) _).alloc (by simp; omega) _)
  have HR0 := Lib.hid ((hp.below (Nat.le_refl _) HW0.out).more HW0.out.size)
  have HO0 := Lib.hid (show Own (((w.alloc (.cells #[.int .i64 0, .bool false, .slice none 0 0, .slice none 0 0] 38)).alloc (.cells #[.int .i64 0, .int .i64 0, .bool false, .slice none 0 0] 53)).alloc (.cells #[] 5)) (w.heap.size + 1 + 1) (some ⟨w.heap.size + 1 + 1, 0, none⟩) 0 0 [] from by
    have h := World.ownsRow_lit ((w.alloc (.cells #[.int .i64 0, .bool false, .slice none 0 0, .slice none 0 0] 38)).alloc (.cells #[.int .i64 0, .int .i64 0, .bool false, .slice none 0 0] 53)) (base := w.heap.size + 1 + 1) (e := 5) (size := 1) #[] 0 (by simp) (by decide) rfl
    simp only [World.size_alloc] at h; exact h)
  have HV := Lib.hid (show BoxV (((w.alloc (.cells #[.int .i64 0, .bool false, .slice none 0 0, .slice none 0 0] 38)).alloc (.cells #[.int .i64 0, .int .i64 0, .bool false, .slice none 0 0] 53)).alloc (.cells #[] 5)) w.heap.size #[.int .i64 0, .bool false, .slice none 0 0, .slice none 0 0] from ((BoxV.new w _).below ((Below.refl _ _).alloc (Nat.le_refl _) _) (by simp)).below ((Below.refl _ _).alloc (Nat.le_refl _) _) (by simp; omega))
  have HA := Lib.hid (show BoxA (((w.alloc (.cells #[.int .i64 0, .bool false, .slice none 0 0, .slice none 0 0] 38)).alloc (.cells #[.int .i64 0, .int .i64 0, .bool false, .slice none 0 0] 53)).alloc (.cells #[] 5)) (w.heap.size + 1) #[.int .i64 0, .int .i64 0, .bool false, .slice none 0 0] from by have h := BoxA.new (w.alloc (.cells #[.int .i64 0, .bool false, .slice none 0 0, .slice none 0 0] 38)) #[.int .i64 0, .int .i64 0, .bool false, .slice none 0 0]; simp only [World.size_alloc] at h; exact h.below ((Below.refl _ _).alloc (Nat.le_refl _) _) (by simp))
  have HPN := Lib.hid hP
  have HPL := Lib.hid hpl
  have HRN := Lib.hid (show Rng (bs ++ [b]) from fun z hz => (List.mem_append.1 hz).elim (hg z) (fun h => by simp at h; omega))
  have HLN := Lib.hid (show (bs ++ [b]).length = np + 1 by simp [hpl])
  have hnl : ¬ b < 32 := by omega
  have hne : (b == 127) = false := by simp; omega
  have hn2 : ¬ b < 127 := by omega
  have HRD := Lib.hid (fun (A2 : Option Addr) (c2 : Nat) (W : World) (B : Nat) (h : Own W B A2 (np + 1) c2 (bs ++ [b])) => by have h' := spec_RuneRead_any A2 (np + 1) c2 (bs ++ [b]) 0 W h.rd HRN.out HLN.out (by omega) h.cap; rw [hrd, hr, HLN.out] at h'; exact h')
  have hnn : (((np + 1 : Nat) : Int) == ((np + 1 : Nat) : Int)) = true := by simp
  clear hp hP hg hpl hrd hr
  go_enter Tryd.func39, Tryd.ntmps39
  go_wp2_with (at_builtin; refine append_src rfl _ _ rfl rfl rfl HO0.out HR0.out HPN.out HPL.out (by omega) (by omega) (by simp <;> omega) ?_)
  intro A1 c1 w1 ho1 hb1
  have HO1 := Lib.hid (show Own w1 (w.heap.size + 1 + 1) A1 np c1 bs by simpa using ho1)
  have HB1 := Lib.hid hb1
  have hz1 : w.heap.size + 1 + 1 < w1.heap.size := by have := hb1.size; simp at this; omega
  clear ho1 hb1
  go_wp2_with (at_builtin; refine append_byte rfl _ _ rfl rfl rfl HO1.out (by omega) (by omega) ?_)
  intro A2 c2 w2 ho2 hb2
  have HO2 := Lib.hid ho2
  have HB2 := Lib.hid (HB1.out.trans hb2)
  have HW2 := Lib.hid (HW0.out.trans (HB2.out.mono (by omega)))
  have hz2 : w1.heap.size ≤ w2.heap.size := hb2.size
  clear ho2 hb2
  go_wp2_with fail
  refine (HRD.out A2 c2 w2 _ HO2.out).mono ?_
  rintro e w3 ⟨rfl, hb3⟩
  have HB3 := Lib.hid (HB2.out.trans (hb3.mono (by omega)))
  have HW3 := Lib.hid (HW2.out.trans (hb3.mono (by omega)))
  have HO3 := Lib.hid (HO2.out.below (Nat.le_refl _) hb3)
  have hz3 : w2.heap.size ≤ w3.heap.size := hb3.size
  clear hb3

  have v1 := HV.out.below (HB3.out) (by omega)
  have a2 := HA.out.below (HB3.out) (by omega)
  have x0 : w3.cell? ⟨w.heap.size, 0, none⟩ = some (.int .i64 0) := v1.cell 0
  have x1 : w3.cell? ⟨w.heap.size, 1, none⟩ = some (.bool false) := v1.cell 1
  have x2 : w3.cell? ⟨w.heap.size, 2, none⟩ = some (.slice none 0 0) := v1.cell 2
  have x3 : w3.cell? ⟨w.heap.size, 3, none⟩ = some (.slice none 0 0) := v1.cell 3
  have f0 := v1.free 0
  have f1 := v1.free 1
  have f2 := v1.free 2
  have f3 := v1.free 3
  obtain ⟨⟨u0, u1, u2, u3⟩, g0, g1, g2, g3⟩ := a2.cells
  clear v1 a2
  go_wp2_with fail
  refine bodyPost_ret (v := .tuple #[.agg #[.int .i64 0, .bool false, .slice none 0 0, .slice none 0 0], .agg #[.int .i64 1, .int .i64 r, .bool false, .slice none 0 0]]) (by simp [results, Tryd.results39, go_sem, x0, x1, x2, x3, u0, u1, u2, u3]) rfl ?_
  exact ⟨none, 0, 0, none, 0, 0, none, 0, 0, rfl, ownI_nil _ _, own_nil _ _, ownI_nil _ _, .inl rfl, below_put4 (below_put4 HW3.out (Nat.le_refl _) _ _ _ _) (by omega) _ _ _ _⟩
set_option maxRecDepth 100000 in
set_option maxHeartbeats 1600000 in
theorem plain_beg (P : Option Addr) (np cp : Nat) (bs : List Int) (b : Int) (w : World) (hp : Rd w w.heap.size P bs) (hP : P = none → np = 0 ∧ cp = 0) (hg : Rng bs) (hpl : bs.length = np) (hpn : np ≤ 100) (h0 : 127 < b) (h1 : b ≤ 255) (r k : Int) (hr : (rdV (bs ++ [b]) 0).1 = r) (hk : (rdV (bs ++ [b]) 0).2 = k) (hrd : (k == ((np + 1 : Nat) : Int)) = false) (hbeg : begB (bs ++ [b]) = true) :
    Calls Tryd.prog 39 #[.slice P np cp, .int .i64 b] w (AnsVB w (⟨0, false, [], bs ++ [b]⟩, az)) := by
  have HW0 := Lib.hid (show Below w.heap.size w (((w.alloc (.cells #[.int .i64 0, .bool false, .slice none 0 0, .slice none 0 0] 38)).alloc (.cells #[.int .i64 0, .int .i64 0, .bool false, .slice none 0 0] 53)).alloc (.cells #[] 5)) from (((Below.refl _ _).alloc (Nat.le_refl _) _).alloc (by simp) _).alloc (by simp; omega) _)
  have HR0 := Lib.hid ((hp.below (Nat.le_refl _) HW0.out).more HW0.out.size)
  have HO0 := Lib.hid (show Own (((w.alloc (.cells #[.int .i64 0, .bool false, .slice none 0 0, .slice none 0 0] 38)).alloc (.cells #[.int .i64 0, .int .i64 0, .bool false, .slice none 0 0] 53)).alloc (.cells #[] 5)) (w.heap.size + 1 + 1) (some ⟨w.heap.size + 1 + 1, 0, none⟩) 0 0 [] from by
    have h := World.ownsRow_lit ((w.alloc (.cells #[.int .i64 0, .bool false, .slice none 0 0, .slice none 0 0] 38)).alloc (.cells #[.int .i64 0, .int .i64 0, .bool false, .slice none 0 0] 53)) (base := w.heap.size + 1 + 1) (e := 5) (size := 1) #[] 0 (by simp) (by decide) rfl
    simp only [World.size_alloc] at h; exact h)
  have HV := Lib.hid (show BoxV (((w.alloc (.cells #[.int .i64 0, .bool false, .slice none 0 0, .slice none 0 0] 38)).alloc (.cells #[.int .i64 0, .int .i64 0, .bool false, .slice none 0 0] 53)).alloc (.cells #[] 5)) w.heap.size #[.int .i64 0, .bool false, .slice none 0 0, .slice none 0 0] from ((BoxV.new w _).below ((Below.refl _ _).alloc (Nat.le_refl _) _) (by simp)).below ((Below.refl _ _).alloc (Nat.le_refl _) _) (by simp; omega))
  have HA := Lib.hid (show BoxA (((w.alloc (.cells #[.int .i64 0, .bool false, .slice none 0 0, .slice none 0 0] 38)).alloc (.cells #[.int .i64 0, .int .i64 0, .bool false, .slice none 0 0] 53)).alloc (.cells #[] 5)) (w.heap.size + 1) #[.int .i64 0, .int .i64 0, .bool false, .slice none 0 0] from by have h := BoxA.new (w.alloc (.cells #[.int .i64 0, .bool false, .slice none 0 0, .slice none 0 0] 38)) #[.int .i64 0, .int .i64 0, .bool false, .slice none 0 0]; simp only [World.size_alloc] at h; exact h.below ((Below.refl _ _).alloc (Nat.le_refl _) _) (by simp))
  have HPN := Lib.hid hP
  have HPL := Lib.hid hpl
  have HRN := Lib.hid (show Rng (bs ++ [b]) from fun z hz => (List.mem_append.1 hz).elim (hg z) (fun h => by simp at h; omega))
  have HLN := Lib.hid (show (bs ++ [b]).length = np + 1 by simp [hpl])
  have hnl : ¬ b < 32 := by omega
  have hne : (b == 127) = false := by simp; omega
  have hn2 : ¬ b < 127 := by omega
  have HRD := Lib.hid (fun (A2 : Option Addr) (c2 : Nat) (W : World) (B : Nat) (h : Own W B A2 (np + 1) c2 (bs ++ [b])) => by have h' := spec_RuneRead_any A2 (np + 1) c2 (bs ++ [b]) 0 W h.rd HRN.out HLN.out (by omega) h.cap; rw [hk, hr] at h'; exact h')
  have HRB := Lib.hid (fun (A2 : Option Addr) (c2 : Nat) (W : World) (B : Nat) (h : Own W B A2 (np + 1) c2 (bs ++ [b])) => by have h' := spec_RuneBegin_any A2 (np + 1) c2 (bs ++ [b]) W h.rd HRN.out HLN.out (own_none h) (by omega) h.cap; rw [hbeg] at h'; exact h')
  clear hp hP hg hpl hr hk hbeg
  go_enter Tryd.func39, Tryd.ntmps39
  go_wp2_with (at_builtin; refine append_src rfl _ _ rfl rfl rfl HO0.out HR0.out HPN.out HPL.out (by omega) (by omega) (by simp <;> omega) ?_)
  intro A1 c1 w1 ho1 hb1
  have HO1 := Lib.hid (show Own w1 (w.heap.size + 1 + 1) A1 np c1 bs by simpa using ho1)
  have HB1 := Lib.hid hb1
  have hz1 : w.heap.size + 1 + 1 < w1.heap.size := by have := hb1.size; simp at this; omega
  clear ho1 hb1
  go_wp2_with (at_builtin; refine append_byte rfl _ _ rfl rfl rfl HO1.out (by omega) (by omega) ?_)
  intro A2 c2 w2 ho2 hb2
  have HO2 := Lib.hid ho2
  have HB2 := Lib.hid (HB1.out.trans hb2)
  have HW2 := Lib.hid (HW0.out.trans (HB2.out.mono (by omega)))
  have hz2 : w1.heap.size ≤ w2.heap.size := hb2.size
  clear ho2 hb2
  go_wp2_with fail
  refine (HRD.out A2 c2 w2 _ HO2.out).mono ?_
  rintro e w3 ⟨rfl, hb3⟩
  have HB3 := Lib.hid (HB2.out.trans (hb3.mono (by omega)))
  have HW3 := Lib.hid (HW2.out.trans (hb3.mono (by omega)))
  have HO3 := Lib.hid (HO2.out.below (Nat.le_refl _) hb3)
  have hz3 : w2.heap.size ≤ w3.heap.size := hb3.size
  clear hb3
  go_wp2_with fail
  refine (HRB.out A2 c2 w3 _ HO3.out).mono ?_
  rintro e w4 ⟨rfl, hb4⟩
  have HB4 := Lib.hid (HB3.out.trans (hb4.mono (by omega)))
  have HW4 := Lib.hid (HW3.out.trans (hb4.mono (by omega)))
  have HO4 := Lib.hid (HO3.out.below (Nat.le_refl _) hb4)
  have hz4 : w3.heap.size ≤ w4.heap.size := hb4.size
  clear hb4
  have v1 := HV.out.below (HB4.out) (by omega)
  have a2 := HA.out.below (HB4.out) (by omega)
  have x0 : w4.cell? ⟨w.heap.size, 0, none⟩ = some (.int .i64 0) := v1.cell 0
  have x1 : w4.cell? ⟨w.heap.size, 1, none⟩ = some (.bool false) := v1.cell 1
  have x2 : w4.cell? ⟨w.heap.size, 2, none⟩ = some (.slice none 0 0) := v1.cell 2
  have x3 : w4.cell? ⟨w.heap.size, 3, none⟩ = some (.slice none 0 0) := v1.cell 3
  have f0 := v1.free 0
  have f1 := v1.free 1
  have f2 := v1.free 2
  have f3 := v1.free 3
  obtain ⟨⟨u0, u1, u2, u3⟩, g0, g1, g2, g3⟩ := a2.cells
  clear v1 a2
  go_wp2_with fail
  refine bodyPost_ret (v := .tuple #[.agg #[.int .i64 0, .bool false, .slice none 0 0, .slice A2 (np + 1) c2], .agg #[.int .i64 0, .int .i64 0, .bool false, .slice none 0 0]]) (by simp [results, Tryd.results39, go_sem, x0, x1, x2, x3, u0, u1, u2, u3]) rfl ?_
  exact ⟨none, 0, 0, A2, np + 1, c2, none, 0, 0, rfl, ownI_nil _ _, own_moreK (own_put4 (own_put4 HO4.out (by omega) _ _ _ _) (by omega) _ _ _ _) (by omega), ownI_nil _ _, .inl rfl, below_put4 (below_put4 HW4.out (Nat.le_refl _) _ _ _ _) (by omega) _ _ _ _⟩
set_option maxRecDepth 100000 in
set_option maxHeartbeats 1600000 in
theorem plain_bad (P : Option Addr) (np cp : Nat) (bs : List Int) (b : Int) (w : World) (hp : Rd w w.heap.size P bs) (hP : P = none → np = 0 ∧ cp = 0) (hg : Rng bs) (hpl : bs.length = np) (hpn : np ≤ 100) (h0 : 127 < b) (h1 : b ≤ 255) (r k : Int) (hr : (rdV (bs ++ [b]) 0).1 = r) (hk : (rdV (bs ++ [b]) 0).2 = k) (hrd : (k == ((np + 1 : Nat) : Int)) = false) (hbeg : begB (bs ++ [b]) = false) :
    Calls Tryd.prog 39 #[.slice P np cp, .int .i64 b] w (AnsVB w (vz, ⟨1, 65533, false, []⟩)) := by
  have HW0 := Lib.hid (show Below w.heap.size w (((w.alloc (.cells #[.int .i64 0, .bool false, .slice none 0 0, .slice none 0 0] 38)).alloc (.cells #[.int .i64 0, .int .i64 0, .bool false, .slice none 0 0] 53)).alloc (.cells #[] 5)) from (((Below.refl _ _).alloc (Nat.le_refl _) _).alloc (by simp) _).alloc (by simp; omega) _)
  have HR0 := Lib.hid ((hp.below (Nat.le_refl _) HW0.out).more HW0.out.size)
  have HO0 := Lib.hid (show Own (((w.alloc (.cells #[.int .i64 0, .bool false, .slice none 0 0, .slice none 0 0] 38)).alloc (.cells #[.int .i64 0, .int .i64 0, .bool false, .slice none 0 0] 53)).alloc (.cells #[] 5)) (w.heap.size + 1 + 1) (some ⟨w.heap.size + 1 + 1, 0, none⟩) 0 0 [] from by
    have h := World.ownsRow_lit ((w.alloc (.cells #[.int .i64 0, .bool false, .slice none 0 0, .slice none 0 0] 38)).alloc (.cells #[.int .i64 0, .int .i64 0, .bool false, .slice none 0 0] 53)) (base := w.heap.size + 1 + 1) (e := 5) (size := 1) #[] 0 (by simp) (by decide) rfl
    simp only [World.size_alloc] at h; exact h)
  have HV := Lib.hid (show BoxV (((w.alloc (.cells #[.int .i64 0, .bool false, .slice none 0 0, .slice none 0 0] 38)).alloc (.cells #[.int .i64 0, .int .i64 0, .bool false, .slice none 0 0] 53)).alloc (.cells #[] 5)) w.heap.size #[.int .i64 0, .bool false, .slice none 0 0, .slice none 0 0] from ((BoxV.new w _).below ((Below.refl _ _).alloc (Nat.le_refl _) _) (by simp)).below ((Below.refl _ _).alloc (Nat.le_refl _) _) (by simp; omega))
  have HA := Lib.hid (show BoxA (((w.alloc (.cells #[.int .i64 0, .bool false, .slice none 0 0, .slice none 0 0] 38)).alloc (.cells #[.int .i64 0, .int .i64 0, .bool false, .slice none 0 0] 53)).alloc (.cells #[] 5)) (w.heap.size + 1) #[.int .i64 0, .int .i64 0, .bool false, .slice none 0 0] from by have h := BoxA.new (w.alloc (.cells #[.int .i64 0, .bool false, .slice none 0 0, .slice none 0 0] 38)) #[.int .i64 0, .int .i64 0, .bool false, .slice none 0 0]; simp only [World.size_alloc] at h; exact h.below ((Below.refl _ _).alloc (Nat.le_refl _) _) (by simp))
  have HPN := Lib.hid hP
  have HPL := Lib.hid hpl
  have HRN := Lib.hid (show Rng (bs ++ [b]) from fun z hz => (List.mem_append.1 hz).elim (hg z) (fun h => by simp at h; omega))
  have HLN := Lib.hid (show (bs ++ [b]).length = np + 1 by simp [hpl])
  have hnl : ¬ b < 32 := by omega
  have hne : (b == 127) = false := by simp; omega
  have hn2 : ¬ b < 127 := by omega
  have HRD := Lib.hid (fun (A2 : Option Addr) (c2 : Nat) (W : World) (B : Nat) (h : Own W B A2 (np + 1) c2 (bs ++ [b])) => by have h' := spec_RuneRead_any A2 (np + 1) c2 (bs ++ [b]) 0 W h.rd HRN.out HLN.out (by omega) h.cap; rw [hk, hr] at h'; exact h')
  have HRB := Lib.hid (fun (A2 : Option Addr) (c2 : Nat) (W : World) (B : Nat) (h : Own W B A2 (np + 1) c2 (bs ++ [b])) => by have h' := spec_RuneBegin_any A2 (np + 1) c2 (bs ++ [b]) W h.rd HRN.out HLN.out (own_none h) (by omega) h.cap; rw [hbeg] at h'; exact h')
  clear hp hP hg hpl hr hk hbeg
  go_enter Tryd.func39, Tryd.ntmps39
  go_wp2_with (at_builtin; refine append_src rfl _ _ rfl rfl rfl HO0.out HR0.out HPN.out HPL.out (by omega) (by omega) (by simp <;> omega) ?_)
  intro A1 c1 w1 ho1 hb1
  have HO1 := Lib.hid (show Own w1 (w.heap.size + 1 + 1) A1 np c1 bs by simpa using ho1)
  have HB1 := Lib.hid hb1
  have hz1 : w.heap.size + 1 + 1 < w1.heap.size := by have := hb1.size; simp at this; omega
  clear ho1 hb1
  go_wp2_with (at_builtin; refine append_byte rfl _ _ rfl rfl rfl HO1.out (by omega) (by omega) ?_)
  intro A2 c2 w2 ho2 hb2
  have HO2 := Lib.hid ho2
  have HB2 := Lib.hid (HB1.out.trans hb2)
  have HW2 := Lib.hid (HW0.out.trans (HB2.out.mono (by omega)))
  have hz2 : w1.heap.size ≤ w2.heap.size := hb2.size
  clear ho2 hb2
  go_wp2_with fail
  refine (HRD.out A2 c2 w2 _ HO2.out).mono ?_
  rintro e w3 ⟨rfl, hb3⟩
  have HB3 := Lib.hid (HB2.out.trans (hb3.mono (by omega)))
  have HW3 := Lib.hid (HW2.out.trans (hb3.mono (by omega)))
  have HO3 := Lib.hid (HO2.out.below (Nat.le_refl _) hb3)
  have hz3 : w2.heap.size ≤ w3.heap.size := hb3.size
  clear hb3
  go_wp2_with fail
  refine (HRB.out A2 c2 w3 _ HO3.out).mono ?_
  rintro e w4 ⟨rfl, hb4⟩
  have HB4 := Lib.hid (HB3.out.trans (hb4.mono (by omega)))
  have HW4 := Lib.hid (HW3.out.trans (hb4.mono (by omega)))
  have HO4 := Lib.hid (HO3.out.below (Nat.le_refl _) hb4)
  have hz4 : w3.heap.size ≤ w4.heap.size := hb4.size
  clear hb4
  have v1 := HV.out.below (HB4.out) (by omega)
  have a2 := HA.out.below (HB4.out) (by omega)
  have x0 : w4.cell? ⟨w.heap.size, 0, none⟩ = some (.int .i64 0) := v1.cell 0
  have x1 : w4.cell? ⟨w.heap.size, 1, none⟩ = some (.bool false) := v1.cell 1
  have x2 : w4.cell? ⟨w.heap.size, 2, none⟩ = some (.slice none 0 0) := v1.cell 2
  have x3 : w4.cell? ⟨w.heap.size, 3, none⟩ = some (.slice none 0 0) := v1.cell 3
  have f0 := v1.free 0
  have f1 := v1.free 1
  have f2 := v1.free 2
  have f3 := v1.free 3
  obtain ⟨⟨u0, u1, u2, u3⟩, g0, g1, g2, g3⟩ := a2.cells
  clear v1 a2
  go_wp2_with fail
  refine bodyPost_ret (v := .tuple #[.agg #[.int .i64 0, .bool false, .slice none 0 0, .slice none 0 0], .agg #[.int .i64 1, .int .i64 65533, .bool false, .slice none 0 0]]) (by simp [results, Tryd.results39, go_sem, x0, x1, x2, x3, u0, u1, u2, u3]) rfl ?_
  exact ⟨none, 0, 0, none, 0, 0, none, 0, 0, rfl, ownI_nil _ _, own_nil _ _, ownI_nil _ _, .inl rfl, below_put4 (below_put4 HW4.out (Nat.le_refl _) _ _ _ _) (by omega) _ _ _ _⟩
end Go.Proofs.YtfdbmhelcmifoaaDoor.Vp
