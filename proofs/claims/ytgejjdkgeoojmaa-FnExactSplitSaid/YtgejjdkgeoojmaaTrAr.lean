/- (*split).areas: the areas of the two parts. -/
import Derived.Test.YtgejjdkgeoojmaaTrI2
import Derived.Deep.RegionHeld3
import Derived.Deep.RegionWith
import Derived.Deep.DeepCutAuto
import Derived.Outline
namespace Go.Proofs.Ytgejjdkgeoojmaa.Tr
open Go.RowKit Go.Proofs.Ytgejjdkgeoojmaa.Bytes Go.Proofs.Ytgejjdkgeoojmaa.Rows_ Go.Proofs.Ytgejjdkgeoojmaa.RowK Go.Proofs.Ytgejjdkgeoojmaa.Opq
open Tree
set_option linter.unusedVariables false
attribute [local go_sem ↓] Go.wp_at_zero Go.wp_at_succ
theorem rowb_new1 (w : World) (o : Obj) (C : Array Value) (T : TypeId) : RowB ((w.alloc o).alloc (.cells C T)) (w.heap.size + 1) C := by have q := RowB.new (w.alloc o) C T; rwa [World.size_alloc] at q
theorem set5 {w : World} {b : Nat} {z0 z1 z2 z3 z4 a0 a1 a2 a3 a4 : Value} (h : RowB w b #[z0, z1, z2, z3, z4]) : RowB (((((w.setCell ⟨b, 0, none⟩ a0).setCell ⟨b, 1, none⟩ a1).setCell ⟨b, 2, none⟩ a2).setCell ⟨b, 3, none⟩ a3).setCell ⟨b, 4, none⟩ a4) b #[a0, a1, a2, a3, a4] := ((((h.set (j := 0) (v := a0)).set (j := 1) (v := a1)).set (j := 2) (v := a2)).set (j := 3) (v := a3)).set (j := 4) (v := a4)
theorem other5 {w : World} {b k : Nat} {C : Array Value} {a0 a1 a2 a3 a4 : Value} (h : RowB w b C) (hne : b ≠ k) : RowB (((((w.setCell ⟨k, 0, none⟩ a0).setCell ⟨k, 1, none⟩ a1).setCell ⟨k, 2, none⟩ a2).setCell ⟨k, 3, none⟩ a3).setCell ⟨k, 4, none⟩ a4) b C := ((((h.other hne).other hne).other hne).other hne).other hne
theorem new5 (w : World) (k : Nat) (a0 a1 a2 a3 a4 : Value) (C : Array Value) (T : TypeId) : RowB ((((((w.setCell ⟨k, 0, none⟩ a0).setCell ⟨k, 1, none⟩ a1).setCell ⟨k, 2, none⟩ a2).setCell ⟨k, 3, none⟩ a3).setCell ⟨k, 4, none⟩ a4).alloc (.cells C T)) w.heap.size C := by have q := RowB.new (((((w.setCell ⟨k, 0, none⟩ a0).setCell ⟨k, 1, none⟩ a1).setCell ⟨k, 2, none⟩ a2).setCell ⟨k, 3, none⟩ a3).setCell ⟨k, 4, none⟩ a4) C T; simpa using q
theorem below5 {w v : World} {B k : Nat} {a0 a1 a2 a3 a4 : Value} (h : Below B w v) (hk : B ≤ k) : Below B w (((((v.setCell ⟨k, 0, none⟩ a0).setCell ⟨k, 1, none⟩ a1).setCell ⟨k, 2, none⟩ a2).setCell ⟨k, 3, none⟩ a3).setCell ⟨k, 4, none⟩ a4) := ((((h.setCell hk _).setCell hk _).setCell hk _).setCell hk _).setCell hk _
theorem back_A (d : Bool) (f p x y v h tx ty th n sz : Int) (h1 : tx = if d = true then y else x) (h2 : ty = if d = true then x else y) (h3 : th = if d = true then v else h) (h4 : n = ext d ⟨p, x, y, v, h⟩) (h5 : sz = shareD f n) : areaA d f ⟨p, x, y, v, h⟩ = ⟨p, if d = true then ty else tx, if d = true then tx else ty, if d = true then th else sz, if d = true then sz else th⟩ := by
  subst h5 h4 h3 h2 h1
  cases d <;> rfl
theorem back_B (d : Bool) (f p x y v h tx ty th n sz : Int) (h1 : tx = if d = true then y else x) (h2 : ty = if d = true then x else y) (h3 : th = if d = true then v else h) (h4 : n = ext d ⟨p, x, y, v, h⟩) (h5 : sz = shareD f n) : areaB d f ⟨p, x, y, v, h⟩ = ⟨p, if d = true then ty else tx + (sz + 1), if d = true then tx + (sz + 1) else ty, if d = true then th else n - (sz + 1), if d = true then n - (sz + 1) else th⟩ := by
  subst h5 h4 h3 h2 h1
  cases d
  · simp only [areaB, ext, Bool.false_eq_true, if_false, RectD.mk.injEq]; refine ⟨trivial, ?_, trivial, ?_, trivial⟩ <;> omega
  · simp only [areaB, ext, if_true, RectD.mk.injEq]; refine ⟨trivial, trivial, ?_, trivial, ?_⟩ <;> omega
theorem ten {w : World} {k b o : Nat} {a0 a1 a2 a3 a4 a5 a6 a7 a8 a9 u : Value} (hne : b ≠ k) (h : w.cell? ⟨b, o, none⟩ = some u) : ((((((((((w.setCell ⟨k, 0, none⟩ a0).setCell ⟨k, 1, none⟩ a1).setCell ⟨k, 2, none⟩ a2).setCell ⟨k, 3, none⟩ a3).setCell ⟨k, 4, none⟩ a4).setCell ⟨k, 5, none⟩ a5).setCell ⟨k, 6, none⟩ a6).setCell ⟨k, 7, none⟩ a7).setCell ⟨k, 8, none⟩ a8).setCell ⟨k, 9, none⟩ a9).cell? ⟨b, o, none⟩ = some u := by
  have q : ∀ (W : World) (i : Nat) (v : Value), (W.setCell ⟨k, i, none⟩ v).cell? ⟨b, o, none⟩ = W.cell? ⟨b, o, none⟩ := fun W i v => World.cell?_of_block (heap_setCell_other _ _ _ _ hne)
  simp only [q, h]
theorem below10 {w v : World} {B k : Nat} {a0 a1 a2 a3 a4 a5 a6 a7 a8 a9 : Value} (h : Below B w v) (hk : B ≤ k) : Below B w ((((((((((v.setCell ⟨k, 0, none⟩ a0).setCell ⟨k, 1, none⟩ a1).setCell ⟨k, 2, none⟩ a2).setCell ⟨k, 3, none⟩ a3).setCell ⟨k, 4, none⟩ a4).setCell ⟨k, 5, none⟩ a5).setCell ⟨k, 6, none⟩ a6).setCell ⟨k, 7, none⟩ a7).setCell ⟨k, 8, none⟩ a8).setCell ⟨k, 9, none⟩ a9) := (((((((((h.setCell hk _).setCell hk _).setCell hk _).setCell hk _).setCell hk _).setCell hk _).setCell hk _).setCell hk _).setCell hk _).setCell hk _
theorem setTen {w : World} {k : Nat} {z0 z1 z2 z3 z4 z5 z6 z7 z8 z9 a0 a1 a2 a3 a4 a5 a6 a7 a8 a9 : Value} (h : RowB w k #[z0, z1, z2, z3, z4, z5, z6, z7, z8, z9]) : RowB ((((((((((w.setCell ⟨k, 0, none⟩ a0).setCell ⟨k, 1, none⟩ a1).setCell ⟨k, 2, none⟩ a2).setCell ⟨k, 3, none⟩ a3).setCell ⟨k, 4, none⟩ a4).setCell ⟨k, 5, none⟩ a5).setCell ⟨k, 6, none⟩ a6).setCell ⟨k, 7, none⟩ a7).setCell ⟨k, 8, none⟩ a8).setCell ⟨k, 9, none⟩ a9) k #[a0, a1, a2, a3, a4, a5, a6, a7, a8, a9] := by
  have h1 : RowB (w.setCell ⟨k, 0, none⟩ a0) k #[a0, z1, z2, z3, z4, z5, z6, z7, z8, z9] := h.set
  have h2 : RowB ((w.setCell ⟨k, 0, none⟩ a0).setCell ⟨k, 1, none⟩ a1) k #[a0, a1, z2, z3, z4, z5, z6, z7, z8, z9] := h1.set
  have h3 : RowB (((w.setCell ⟨k, 0, none⟩ a0).setCell ⟨k, 1, none⟩ a1).setCell ⟨k, 2, none⟩ a2) k #[a0, a1, a2, z3, z4, z5, z6, z7, z8, z9] := h2.set
  have h4 : RowB ((((w.setCell ⟨k, 0, none⟩ a0).setCell ⟨k, 1, none⟩ a1).setCell ⟨k, 2, none⟩ a2).setCell ⟨k, 3, none⟩ a3) k #[a0, a1, a2, a3, z4, z5, z6, z7, z8, z9] := h3.set
  have h5 : RowB (((((w.setCell ⟨k, 0, none⟩ a0).setCell ⟨k, 1, none⟩ a1).setCell ⟨k, 2, none⟩ a2).setCell ⟨k, 3, none⟩ a3).setCell ⟨k, 4, none⟩ a4) k #[a0, a1, a2, a3, a4, z5, z6, z7, z8, z9] := h4.set
  have h6 : RowB ((((((w.setCell ⟨k, 0, none⟩ a0).setCell ⟨k, 1, none⟩ a1).setCell ⟨k, 2, none⟩ a2).setCell ⟨k, 3, none⟩ a3).setCell ⟨k, 4, none⟩ a4).setCell ⟨k, 5, none⟩ a5) k #[a0, a1, a2, a3, a4, a5, z6, z7, z8, z9] := h5.set
  have h7 : RowB (((((((w.setCell ⟨k, 0, none⟩ a0).setCell ⟨k, 1, none⟩ a1).setCell ⟨k, 2, none⟩ a2).setCell ⟨k, 3, none⟩ a3).setCell ⟨k, 4, none⟩ a4).setCell ⟨k, 5, none⟩ a5).setCell ⟨k, 6, none⟩ a6) k #[a0, a1, a2, a3, a4, a5, a6, z7, z8, z9] := h6.set
  have h8 : RowB ((((((((w.setCell ⟨k, 0, none⟩ a0).setCell ⟨k, 1, none⟩ a1).setCell ⟨k, 2, none⟩ a2).setCell ⟨k, 3, none⟩ a3).setCell ⟨k, 4, none⟩ a4).setCell ⟨k, 5, none⟩ a5).setCell ⟨k, 6, none⟩ a6).setCell ⟨k, 7, none⟩ a7) k #[a0, a1, a2, a3, a4, a5, a6, a7, z8, z9] := h7.set
  have h9 : RowB (((((((((w.setCell ⟨k, 0, none⟩ a0).setCell ⟨k, 1, none⟩ a1).setCell ⟨k, 2, none⟩ a2).setCell ⟨k, 3, none⟩ a3).setCell ⟨k, 4, none⟩ a4).setCell ⟨k, 5, none⟩ a5).setCell ⟨k, 6, none⟩ a6).setCell ⟨k, 7, none⟩ a7).setCell ⟨k, 8, none⟩ a8) k #[a0, a1, a2, a3, a4, a5, a6, a7, a8, z9] := h8.set
  have h10 : RowB ((((((((((w.setCell ⟨k, 0, none⟩ a0).setCell ⟨k, 1, none⟩ a1).setCell ⟨k, 2, none⟩ a2).setCell ⟨k, 3, none⟩ a3).setCell ⟨k, 4, none⟩ a4).setCell ⟨k, 5, none⟩ a5).setCell ⟨k, 6, none⟩ a6).setCell ⟨k, 7, none⟩ a7).setCell ⟨k, 8, none⟩ a8).setCell ⟨k, 9, none⟩ a9) k #[a0, a1, a2, a3, a4, a5, a6, a7, a8, a9] := h9.set
  exact h10
theorem held6 {X Y : World} {g a : Nat} {d : Bool} {p x y v h : Int} (hb : Below X.heap.size X Y) (hg : g < X.heap.size) (ha : a < X.heap.size) (hs : X.cell? ⟨g, 0, none⟩ = some (.bool d) ∧ X.cell? ⟨a, 0, none⟩ = some (.int .i64 p) ∧ X.cell? ⟨a, 1, none⟩ = some (.int .i64 x) ∧ X.cell? ⟨a, 2, none⟩ = some (.int .i64 y) ∧ X.cell? ⟨a, 3, none⟩ = some (.int .i64 v) ∧ X.cell? ⟨a, 4, none⟩ = some (.int .i64 h)) : Y.cell? ⟨g, 0, none⟩ = some (.bool d) ∧ Y.cell? ⟨a, 0, none⟩ = some (.int .i64 p) ∧ Y.cell? ⟨a, 1, none⟩ = some (.int .i64 x) ∧ Y.cell? ⟨a, 2, none⟩ = some (.int .i64 y) ∧ Y.cell? ⟨a, 3, none⟩ = some (.int .i64 v) ∧ Y.cell? ⟨a, 4, none⟩ = some (.int .i64 h) := by
  obtain ⟨h0, h1, h2, h3, h4, h5⟩ := hs
  exact ⟨(hb.cell (p := ⟨g, 0, none⟩) hg).trans h0, (hb.cell (p := ⟨a, 0, none⟩) ha).trans h1, (hb.cell (p := ⟨a, 1, none⟩) ha).trans h2, (hb.cell (p := ⟨a, 2, none⟩) ha).trans h3, (hb.cell (p := ⟨a, 3, none⟩) ha).trans h4, (hb.cell (p := ⟨a, 4, none⟩) ha).trans h5⟩
theorem held6d {X Y : World} {g a : Nat} {d : Bool} {p x y v h : Int} (hb : Below X.drew.heap.size X.drew Y) (hg : g < X.heap.size) (ha : a < X.heap.size) (hs : X.cell? ⟨g, 0, none⟩ = some (.bool d) ∧ X.cell? ⟨a, 0, none⟩ = some (.int .i64 p) ∧ X.cell? ⟨a, 1, none⟩ = some (.int .i64 x) ∧ X.cell? ⟨a, 2, none⟩ = some (.int .i64 y) ∧ X.cell? ⟨a, 3, none⟩ = some (.int .i64 v) ∧ X.cell? ⟨a, 4, none⟩ = some (.int .i64 h)) : Y.cell? ⟨g, 0, none⟩ = some (.bool d) ∧ Y.cell? ⟨a, 0, none⟩ = some (.int .i64 p) ∧ Y.cell? ⟨a, 1, none⟩ = some (.int .i64 x) ∧ Y.cell? ⟨a, 2, none⟩ = some (.int .i64 y) ∧ Y.cell? ⟨a, 3, none⟩ = some (.int .i64 v) ∧ Y.cell? ⟨a, 4, none⟩ = some (.int .i64 h) := by
  obtain ⟨h0, h1, h2, h3, h4, h5⟩ := hs
  exact ⟨(hb.cell (p := ⟨g, 0, none⟩) hg).trans h0, (hb.cell (p := ⟨a, 0, none⟩) ha).trans h1, (hb.cell (p := ⟨a, 1, none⟩) ha).trans h2, (hb.cell (p := ⟨a, 2, none⟩) ha).trans h3, (hb.cell (p := ⟨a, 3, none⟩) ha).trans h4, (hb.cell (p := ⟨a, 4, none⟩) ha).trans h5⟩
theorem sizeRR : (Try.prog.info? 122).map (·.size) = some 10 := by kernel_rfl
set_option maxRecDepth 100000 in
set_option maxHeartbeats 3200000 in
theorem areas_no (g : Nat) (d : Bool) (f p x y v h : Int) (va vb : Value) (w : World) (hr : RowB w g (splitC d f va vb)) (he : ext d ⟨p, x, y, v, h⟩ < 3) :
    Calls Try.prog 102 #[.pointer (some ⟨g, 0, none⟩), .agg #[.int .i64 p, .int .i64 x, .int .i64 y, .int .i64 v, .int .i64 h]] w fun e w' => e = .returned (.tuple #[.agg #[.int .i64 0, .int .i64 0, .int .i64 0, .int .i64 0, .int .i64 0, .int .i64 0, .int .i64 0, .int .i64 0, .int .i64 0, .int .i64 0], .bool false]) ∧ Below w.heap.size w w' := by
  have hg := hr.lt
  have hgn : g ≠ w.heap.size := by omega
  have HE := Lib.hid (fun W => show Calls Try.prog _ #[.agg #[.int .i64 p, .int .i64 x, .int .i64 y, .int .i64 v, .int .i64 h], .bool d] W (fun e w' => e = .returned (.int .i64 (ext d ⟨p, x, y, v, h⟩)) ∧ Below W.heap.size W w') from by cases d <;> exact extent_any _ p x y v h W)
  have HW := Lib.hid (show ∃ W, W = (w.alloc (.cells #[.int .i64 p, .int .i64 x, .int .i64 y, .int .i64 v, .int .i64 h] 65)).alloc (.cells #[.int .i64 0, .int .i64 0, .int .i64 0, .int .i64 0, .int .i64 0, .int .i64 0, .int .i64 0, .int .i64 0, .int .i64 0, .int .i64 0] 122) from ⟨_, rfl⟩)
  obtain ⟨W, hW⟩ := HW.out
  have HBW := Lib.hid (show Below w.heap.size w W by rw [hW]; exact ((Below.refl w.heap.size w).alloc (Nat.le_refl _) _).alloc (by simp) _)
  have HG := Lib.hid (hr.below HBW.out hg)
  have HA := Lib.hid (show RowB W w.heap.size #[.int .i64 p, .int .i64 x, .int .i64 y, .int .i64 v, .int .i64 h] by rw [hW]; exact (RowB.new w _ _).alloc _)
  have HZ := Lib.hid (show RowB W (w.heap.size + 1) #[.int .i64 0, .int .i64 0, .int .i64 0, .int .i64 0, .int .i64 0, .int .i64 0, .int .i64 0, .int .i64 0, .int .i64 0, .int .i64 0] by rw [hW]; have h := RowB.new (w.alloc (.cells #[.int .i64 p, .int .i64 x, .int .i64 y, .int .i64 v, .int .i64 h] 65)) #[.int .i64 0, .int .i64 0, .int .i64 0, .int .i64 0, .int .i64 0, .int .i64 0, .int .i64 0, .int .i64 0, .int .i64 0, .int .i64 0] 122; rwa [World.size_alloc] at h)
  have hlA := HA.out.lt
  have hlZ := HZ.out.lt
  have hlG := HG.out.lt
  clear hr
  generalize ext d ⟨p, x, y, v, h⟩ = n at *
  go_enter Try.func102, Try.ntmps102
  go_upto_region 1 with fail
  rw [← hW]
  clear hW HW
  have q0 : W.cell? ⟨g, 0, none⟩ = some (.bool d) := HG.out.cell 0
  have k0 : W.cell? ⟨w.heap.size, 0, none⟩ = some (.int .i64 p) := HA.out.cell 0
  have k1 : W.cell? ⟨w.heap.size, 1, none⟩ = some (.int .i64 x) := HA.out.cell 1
  have k2 : W.cell? ⟨w.heap.size, 2, none⟩ = some (.int .i64 y) := HA.out.cell 2
  have k3 : W.cell? ⟨w.heap.size, 3, none⟩ = some (.int .i64 v) := HA.out.cell 3
  have k4 : W.cell? ⟨w.heap.size, 4, none⟩ = some (.int .i64 h) := HA.out.cell 4
  go_region_held3 (fun w' => w'.cell? ⟨g, 0, none⟩ = some (.bool d) ∧ w'.cell? ⟨w.heap.size, 0, none⟩ = some (.int .i64 p) ∧ w'.cell? ⟨w.heap.size, 1, none⟩ = some (.int .i64 x) ∧ w'.cell? ⟨w.heap.size, 2, none⟩ = some (.int .i64 y) ∧ w'.cell? ⟨w.heap.size, 3, none⟩ = some (.int .i64 v) ∧ w'.cell? ⟨w.heap.size, 4, none⟩ = some (.int .i64 h)) (first | (with_reducible assumption) | go_keep)
    ((go_at_call 86; (with_reducible refine (HE.out _).mono ?_); rintro e v1 ⟨rfl, hb1'⟩; have HB1 := Lib.hid (show Below W.heap.size W v1 from undrew hb1'); clear hb1'; have HG1 := Lib.hid (HG.out.below HB1.out hlG); have HA1 := Lib.hid (HA.out.below HB1.out hlA); have HZ1 := Lib.hid (HZ.out.below HB1.out hlZ); have q1 : v1.cell? ⟨g, 0, none⟩ = some (.bool d) := HG1.out.cell 0; have m0 : v1.cell? ⟨w.heap.size, 0, none⟩ = some (.int .i64 p) := HA1.out.cell 0; have m1 : v1.cell? ⟨w.heap.size, 1, none⟩ = some (.int .i64 x) := HA1.out.cell 1; have m2 : v1.cell? ⟨w.heap.size, 2, none⟩ = some (.int .i64 y) := HA1.out.cell 2; have m3 : v1.cell? ⟨w.heap.size, 3, none⟩ = some (.int .i64 v) := HA1.out.cell 3; have m4 : v1.cell? ⟨w.heap.size, 4, none⟩ = some (.int .i64 h) := HA1.out.cell 4; have hs1 : W.heap.size ≤ v1.heap.size := HB1.out.size))
  all_goals
    have HBF := Lib.hid (HBW.out.trans (HB1.out.mono (by omega)))
    have HR9 := Lib.hid (show RowB v1 (w.heap.size + 1) #[.int .i64 0, .int .i64 0, .int .i64 0, .int .i64 0, .int .i64 0, .int .i64 0, .int .i64 0, .int .i64 0, .int .i64 0, .int .i64 0] from HZ1.out)
    have z0 : v1.cell? ⟨w.heap.size + 1, 0, none⟩ = some (.int .i64 0) := HR9.out.cell 0
    have zf0 := HR9.out.free 0
    have z1 : v1.cell? ⟨w.heap.size + 1, 1, none⟩ = some (.int .i64 0) := HR9.out.cell 1
    have zf1 := HR9.out.free 1
    have z2 : v1.cell? ⟨w.heap.size + 1, 2, none⟩ = some (.int .i64 0) := HR9.out.cell 2
    have zf2 := HR9.out.free 2
    have z3 : v1.cell? ⟨w.heap.size + 1, 3, none⟩ = some (.int .i64 0) := HR9.out.cell 3
    have zf3 := HR9.out.free 3
    have z4 : v1.cell? ⟨w.heap.size + 1, 4, none⟩ = some (.int .i64 0) := HR9.out.cell 4
    have zf4 := HR9.out.free 4
    have z5 : v1.cell? ⟨w.heap.size + 1, 5, none⟩ = some (.int .i64 0) := HR9.out.cell 5
    have zf5 := HR9.out.free 5
    have z6 : v1.cell? ⟨w.heap.size + 1, 6, none⟩ = some (.int .i64 0) := HR9.out.cell 6
    have zf6 := HR9.out.free 6
    have z7 : v1.cell? ⟨w.heap.size + 1, 7, none⟩ = some (.int .i64 0) := HR9.out.cell 7
    have zf7 := HR9.out.free 7
    have z8 : v1.cell? ⟨w.heap.size + 1, 8, none⟩ = some (.int .i64 0) := HR9.out.cell 8
    have zf8 := HR9.out.free 8
    have z9 : v1.cell? ⟨w.heap.size + 1, 9, none⟩ = some (.int .i64 0) := HR9.out.cell 9
    have zf9 := HR9.out.free 9
    go_wp2_with fail
    refine bodyPost_ret (v := .tuple #[.agg #[.int .i64 0, .int .i64 0, .int .i64 0, .int .i64 0, .int .i64 0, .int .i64 0, .int .i64 0, .int .i64 0, .int .i64 0, .int .i64 0], .bool false]) (results_rt Try.results102 Try.underlying122 rfl sizeRR _ _ (w.heap.size + 1) #[.int .i64 0, .int .i64 0, .int .i64 0, .int .i64 0, .int .i64 0, .int .i64 0, .int .i64 0, .int .i64 0, .int .i64 0, .int .i64 0] rfl rfl ((((((((((HR9.out.set (j := 0) (v := .int .i64 0)).set (j := 1) (v := .int .i64 0)).set (j := 2) (v := .int .i64 0)).set (j := 3) (v := .int .i64 0)).set (j := 4) (v := .int .i64 0)).set (j := 5) (v := .int .i64 0)).set (j := 6) (v := .int .i64 0)).set (j := 7) (v := .int .i64 0)).set (j := 8) (v := .int .i64 0)).set (j := 9) (v := .int .i64 0)) rfl) rfl ⟨rfl, ?_⟩
    repeat (first | refine Below.setCell ?_ (by simp <;> omega) _)
    exact HBF.out
set_option maxRecDepth 100000 in
set_option maxHeartbeats 6400000 in
theorem areas_yes (g : Nat) (d : Bool) (f p x y v h : Int) (va vb : Value) (w : World) (hr : RowB w g (splitC d f va vb)) (he : 3 ≤ ext d ⟨p, x, y, v, h⟩) (hrb : RB ⟨p, x, y, v, h⟩) (hf : 1 ≤ f) (hf2 : f ≤ 120) :
    Calls Try.prog 102 #[.pointer (some ⟨g, 0, none⟩), .agg #[.int .i64 p, .int .i64 x, .int .i64 y, .int .i64 v, .int .i64 h]] w fun e w' => e = .returned (.tuple #[.agg #[.int .i64 (areaA d f ⟨p, x, y, v, h⟩).pane, .int .i64 (areaA d f ⟨p, x, y, v, h⟩).x, .int .i64 (areaA d f ⟨p, x, y, v, h⟩).y, .int .i64 (areaA d f ⟨p, x, y, v, h⟩).w, .int .i64 (areaA d f ⟨p, x, y, v, h⟩).h, .int .i64 (areaB d f ⟨p, x, y, v, h⟩).pane, .int .i64 (areaB d f ⟨p, x, y, v, h⟩).x, .int .i64 (areaB d f ⟨p, x, y, v, h⟩).y, .int .i64 (areaB d f ⟨p, x, y, v, h⟩).w, .int .i64 (areaB d f ⟨p, x, y, v, h⟩).h], .bool true]) ∧ Below w.heap.size w w' := by
  have hg := hr.lt
  have hgn : g ≠ w.heap.size := by omega
  have HE := Lib.hid (fun W => show Calls Try.prog _ #[.agg #[.int .i64 p, .int .i64 x, .int .i64 y, .int .i64 v, .int .i64 h], .bool d] W (fun e w' => e = .returned (.int .i64 (ext d ⟨p, x, y, v, h⟩)) ∧ Below W.heap.size W w') from by cases d <;> exact extent_any _ p x y v h W)
  have HW := Lib.hid (show ∃ W, W = (w.alloc (.cells #[.int .i64 p, .int .i64 x, .int .i64 y, .int .i64 v, .int .i64 h] 65)).alloc (.cells #[.int .i64 0, .int .i64 0, .int .i64 0, .int .i64 0, .int .i64 0, .int .i64 0, .int .i64 0, .int .i64 0, .int .i64 0, .int .i64 0] 122) from ⟨_, rfl⟩)
  obtain ⟨W, hW⟩ := HW.out
  have HBW := Lib.hid (show Below w.heap.size w W by rw [hW]; exact ((Below.refl w.heap.size w).alloc (Nat.le_refl _) _).alloc (by simp) _)
  have HG := Lib.hid (hr.below HBW.out hg)
  have HA := Lib.hid (show RowB W w.heap.size #[.int .i64 p, .int .i64 x, .int .i64 y, .int .i64 v, .int .i64 h] by rw [hW]; exact (RowB.new w _ _).alloc _)
  have HZ := Lib.hid (show RowB W (w.heap.size + 1) #[.int .i64 0, .int .i64 0, .int .i64 0, .int .i64 0, .int .i64 0, .int .i64 0, .int .i64 0, .int .i64 0, .int .i64 0, .int .i64 0] by rw [hW]; have h := RowB.new (w.alloc (.cells #[.int .i64 p, .int .i64 x, .int .i64 y, .int .i64 v, .int .i64 h] 65)) #[.int .i64 0, .int .i64 0, .int .i64 0, .int .i64 0, .int .i64 0, .int .i64 0, .int .i64 0, .int .i64 0, .int .i64 0, .int .i64 0] 122; rwa [World.size_alloc] at h)
  have hlA := HA.out.lt
  have hlZ := HZ.out.lt
  have hlG := HG.out.lt
  clear hr
  have hn2 : ext d ⟨p, x, y, v, h⟩ ≤ 120 := by obtain ⟨a1, a2, a3, a4, a5, a6⟩ := hrb; cases d <;> simp only [ext, Bool.false_eq_true, if_true, if_false] <;> simp only at a1 a2 a3 a4 a5 a6 <;> omega
  obtain ⟨tx, htx⟩ : ∃ z, z = (if d = true then y else x) := ⟨_, rfl⟩
  obtain ⟨ty, hty⟩ : ∃ z, z = (if d = true then x else y) := ⟨_, rfl⟩
  obtain ⟨th, hth⟩ : ∃ z, z = (if d = true then v else h) := ⟨_, rfl⟩
  have HT := Lib.hid (fun W => show Calls Try.prog _ _ W (fun e w' => e = .returned (.agg #[.int .i64 p, .int .i64 tx, .int .i64 ty, .int .i64 (ext d ⟨p, x, y, v, h⟩), .int .i64 th]) ∧ Below W.heap.size W w') from by rw [htx, hty, hth]; exact turnedIf_any d p x y v h W)
  have htxb : 0 ≤ tx ∧ tx ≤ 120 := by obtain ⟨a1, a2, a3, a4, a5, a6⟩ := hrb; simp only at a1 a2 a3 a4 a5 a6; rw [htx]; cases d <;> simp only [Bool.false_eq_true, if_true, if_false] <;> omega
  have HTX := Lib.hid htx
  have HTY := Lib.hid hty
  have HTH := Lib.hid hth
  have HNX := Lib.hid (show ext d ⟨p, x, y, v, h⟩ = ext d ⟨p, x, y, v, h⟩ from rfl)
  clear htx hty hth
  obtain ⟨n, hn⟩ : ∃ n, n = ext d ⟨p, x, y, v, h⟩ := ⟨_, rfl⟩
  have HNE := Lib.hid hn
  rw [← hn] at he hn2 HE HT
  clear hn HNX
  go_enter Try.func102, Try.ntmps102
  go_upto_region 1 with fail
  rw [← hW]
  clear hW HW
  have q0 : W.cell? ⟨g, 0, none⟩ = some (.bool d) := HG.out.cell 0
  have k0 : W.cell? ⟨w.heap.size, 0, none⟩ = some (.int .i64 p) := HA.out.cell 0
  have k1 : W.cell? ⟨w.heap.size, 1, none⟩ = some (.int .i64 x) := HA.out.cell 1
  have k2 : W.cell? ⟨w.heap.size, 2, none⟩ = some (.int .i64 y) := HA.out.cell 2
  have k3 : W.cell? ⟨w.heap.size, 3, none⟩ = some (.int .i64 v) := HA.out.cell 3
  have k4 : W.cell? ⟨w.heap.size, 4, none⟩ = some (.int .i64 h) := HA.out.cell 4
  go_region_held3 (fun w' => w'.cell? ⟨g, 0, none⟩ = some (.bool d) ∧ w'.cell? ⟨w.heap.size, 0, none⟩ = some (.int .i64 p) ∧ w'.cell? ⟨w.heap.size, 1, none⟩ = some (.int .i64 x) ∧ w'.cell? ⟨w.heap.size, 2, none⟩ = some (.int .i64 y) ∧ w'.cell? ⟨w.heap.size, 3, none⟩ = some (.int .i64 v) ∧ w'.cell? ⟨w.heap.size, 4, none⟩ = some (.int .i64 h)) (first | (with_reducible assumption) | go_keep)
    ((go_at_call 86; (with_reducible refine (HE.out _).mono ?_); rintro e v1 ⟨rfl, hb1'⟩; have HB1 := Lib.hid (show Below W.heap.size W v1 from undrew hb1'); clear hb1'; have HG1 := Lib.hid (HG.out.below HB1.out hlG); have HA1 := Lib.hid (HA.out.below HB1.out hlA); have HZ1 := Lib.hid (HZ.out.below HB1.out hlZ); have q1 : v1.cell? ⟨g, 0, none⟩ = some (.bool d) := HG1.out.cell 0; have m0 : v1.cell? ⟨w.heap.size, 0, none⟩ = some (.int .i64 p) := HA1.out.cell 0; have m1 : v1.cell? ⟨w.heap.size, 1, none⟩ = some (.int .i64 x) := HA1.out.cell 1; have m2 : v1.cell? ⟨w.heap.size, 2, none⟩ = some (.int .i64 y) := HA1.out.cell 2; have m3 : v1.cell? ⟨w.heap.size, 3, none⟩ = some (.int .i64 v) := HA1.out.cell 3; have m4 : v1.cell? ⟨w.heap.size, 4, none⟩ = some (.int .i64 h) := HA1.out.cell 4; have hs1 : W.heap.size ≤ v1.heap.size := HB1.out.size))
  all_goals
    have HBF := Lib.hid (HBW.out.trans (HB1.out.mono (by omega)))
    have hn3 : ¬ n < 3 := by omega
    go_wp2_with fail
    refine (share_any g d f n va vb _ HG1.out (by omega) (by omega) (by omega) (by omega)).mono ?_
    rintro e v2 ⟨rfl, rfl⟩
    have hsh := share_bd hf he
    obtain ⟨sz, hsz⟩ : ∃ z, z = shareD f n := ⟨_, rfl⟩
    rw [← hsz] at hsh ⊢
    have HSZ := Lib.hid hsz
    clear hsz
    have hlA1 := HA1.out.lt
    have hlG1 := HG1.out.lt
    have hlZ1 := HZ1.out.lt
    go_upto_region 5 with fail
    go_cut [8, 9] (fun s8 s9 wx => ∃ g8 g9 : Nat, s8 = .pointer (some ⟨g8, 0, none⟩) ∧ s9 = .pointer (some ⟨g9, 0, none⟩) ∧ g8 ≠ g9 ∧ v1.heap.size ≤ g8 ∧ v1.heap.size ≤ g9 ∧ RowB wx g8 #[.int .i64 p, .int .i64 tx, .int .i64 ty, .int .i64 n, .int .i64 th] ∧ RowB wx g9 #[.int .i64 p, .int .i64 tx, .int .i64 ty, .int .i64 n, .int .i64 th] ∧ Below v1.heap.size v1 wx)
    case first =>
      have tok1 : True := trivial
      have ne23 : g ≠ v1.heap.size := by omega
      have ne24 : v1.heap.size ≠ g := by omega
      have ne25 : g ≠ v1.heap.size + 1 := by omega
      have ne26 : v1.heap.size + 1 ≠ g := by omega
      have ne27 : w.heap.size ≠ v1.heap.size := by omega
      have ne28 : v1.heap.size ≠ w.heap.size := by omega
      have ne29 : w.heap.size ≠ v1.heap.size + 1 := by omega
      have ne30 : v1.heap.size + 1 ≠ w.heap.size := by omega
      go_region_held3 (fun w' => w'.cell? ⟨g, 0, none⟩ = some (.bool d) ∧ w'.cell? ⟨w.heap.size, 0, none⟩ = some (.int .i64 p) ∧ w'.cell? ⟨w.heap.size, 1, none⟩ = some (.int .i64 x) ∧ w'.cell? ⟨w.heap.size, 2, none⟩ = some (.int .i64 y) ∧ w'.cell? ⟨w.heap.size, 3, none⟩ = some (.int .i64 v) ∧ w'.cell? ⟨w.heap.size, 4, none⟩ = some (.int .i64 h)) (first | (with_reducible assumption) | go_keep)
        (first | (have _t := tok1; go_at_call 104; (with_reducible refine (HT.out _).mono ?_); rintro e v2 ⟨rfl, hb2⟩; clear tok1; (first | have hH := held6d (g := g) (a := w.heap.size) (d := d) (p := p) (x := x) (y := y) (v := v) (h := h) hb2 (by first | omega | (simp; done) | (simp; omega)) (by first | omega | (simp; done) | (simp; omega)) (by with_reducible assumption) | have hH := held6 (g := g) (a := w.heap.size) (d := d) (p := p) (x := x) (y := y) (v := v) (h := h) hb2 (by first | omega | (simp; done) | (simp; omega)) (by first | omega | (simp; done) | (simp; omega)) (by with_reducible assumption)); have hsz2 : v1.heap.size ≤ v2.heap.size := (by have := hb2.size; first | omega | (simp at this; omega)); have HB2 := Lib.hid hb2; have hszx := hb2.size; (try simp at hszx); (try have : v1.heap.size < v2.heap.size := (by omega)); (try have ne1 : v1.heap.size ≠ v2.heap.size := (by omega)); (try have : v1.heap.size + 1 < v2.heap.size := (by omega)); (try have ne2 : v1.heap.size + 1 ≠ v2.heap.size := (by omega)); have ne3 : g ≠ v2.heap.size := (by omega); have ne4 : v2.heap.size ≠ g := (by omega); have ne5 : g ≠ v2.heap.size + 1 := (by omega); have ne6 : v2.heap.size + 1 ≠ g := (by omega); have ne7 : w.heap.size ≠ v2.heap.size := (by omega); have ne8 : v2.heap.size ≠ w.heap.size := (by omega); have ne9 : w.heap.size ≠ v2.heap.size + 1 := (by omega); have ne10 : v2.heap.size + 1 ≠ w.heap.size := (by omega); (try (have ba : RowB v2 (v1.heap.size) #[.int .i64 0, .int .i64 0, .int .i64 0, .int .i64 0, .int .i64 0] := RowB.below (RowB.drew (RowB.new v1 _ _)) hb2 (by first | omega | (simp; done) | (simp; omega)); have bac0 : v2.cell? ⟨v1.heap.size, 0, none⟩ = some (.int .i64 0) := ba.cell 0; have baf0 := ba.free 0; have bac1 : v2.cell? ⟨v1.heap.size, 1, none⟩ = some (.int .i64 0) := ba.cell 1; have baf1 := ba.free 1; have bac2 : v2.cell? ⟨v1.heap.size, 2, none⟩ = some (.int .i64 0) := ba.cell 2; have baf2 := ba.free 2; have bac3 : v2.cell? ⟨v1.heap.size, 3, none⟩ = some (.int .i64 0) := ba.cell 3; have baf3 := ba.free 3; have bac4 : v2.cell? ⟨v1.heap.size, 4, none⟩ = some (.int .i64 0) := ba.cell 4; have baf4 := ba.free 4; have BA := Lib.hid ba; clear ba)); (try (have ba : RowB v2 (v1.heap.size) #[.int .i64 0, .int .i64 0, .int .i64 0, .int .i64 0, .int .i64 0] := RowB.below (RowB.drew (RowB.alloc (RowB.new v1 _ _) _)) hb2 (by first | omega | (simp; done) | (simp; omega)); have bac0 : v2.cell? ⟨v1.heap.size, 0, none⟩ = some (.int .i64 0) := ba.cell 0; have baf0 := ba.free 0; have bac1 : v2.cell? ⟨v1.heap.size, 1, none⟩ = some (.int .i64 0) := ba.cell 1; have baf1 := ba.free 1; have bac2 : v2.cell? ⟨v1.heap.size, 2, none⟩ = some (.int .i64 0) := ba.cell 2; have baf2 := ba.free 2; have bac3 : v2.cell? ⟨v1.heap.size, 3, none⟩ = some (.int .i64 0) := ba.cell 3; have baf3 := ba.free 3; have bac4 : v2.cell? ⟨v1.heap.size, 4, none⟩ = some (.int .i64 0) := ba.cell 4; have baf4 := ba.free 4; have BA := Lib.hid ba; clear ba)); (try (have bb : RowB v2 (v1.heap.size + 1) #[.int .i64 0, .int .i64 0, .int .i64 0, .int .i64 0, .int .i64 0] := RowB.below (RowB.drew (rowb_new1 v1 _ _ _)) hb2 (by first | omega | (simp; done) | (simp; omega)); have bbc0 : v2.cell? ⟨v1.heap.size + 1, 0, none⟩ = some (.int .i64 0) := bb.cell 0; have bbf0 := bb.free 0; have bbc1 : v2.cell? ⟨v1.heap.size + 1, 1, none⟩ = some (.int .i64 0) := bb.cell 1; have bbf1 := bb.free 1; have bbc2 : v2.cell? ⟨v1.heap.size + 1, 2, none⟩ = some (.int .i64 0) := bb.cell 2; have bbf2 := bb.free 2; have bbc3 : v2.cell? ⟨v1.heap.size + 1, 3, none⟩ = some (.int .i64 0) := bb.cell 3; have bbf3 := bb.free 3; have bbc4 : v2.cell? ⟨v1.heap.size + 1, 4, none⟩ = some (.int .i64 0) := bb.cell 4; have bbf4 := bb.free 4; have BB := Lib.hid bb; clear bb)); (try (have HC2 := Lib.hid (show Below v1.heap.size v1 v2 from undrew hb2))); (try (have HC2 := Lib.hid (((Below.refl v1.heap.size v1).alloc (Nat.le_refl _) _).trans ((undrew hb2).mono (by first | omega | (simp; done) | (simp; omega)))))); (try (have HC2 := Lib.hid ((((Below.refl v1.heap.size v1).alloc (Nat.le_refl _) _).alloc (by first | omega | (simp; done) | (simp; omega)) _).trans ((undrew hb2).mono (by first | omega | (simp; done) | (simp; omega)))))); clear hb2) | (go_at_call 104; (with_reducible refine (HT.out _).mono ?_); rintro e v3 ⟨rfl, hb2⟩; (first | have hH := held6d (g := g) (a := w.heap.size) (d := d) (p := p) (x := x) (y := y) (v := v) (h := h) hb2 (by first | omega | (simp; done) | (simp; omega)) (by first | omega | (simp; done) | (simp; omega)) (by with_reducible assumption) | have hH := held6 (g := g) (a := w.heap.size) (d := d) (p := p) (x := x) (y := y) (v := v) (h := h) hb2 (by first | omega | (simp; done) | (simp; omega)) (by first | omega | (simp; done) | (simp; omega)) (by with_reducible assumption)); have hsz3 : v2.heap.size ≤ v3.heap.size := (by have := hb2.size; first | omega | (simp at this; omega)); have HB3 := Lib.hid hb2; have hszx3 := hb2.size; (try simp at hszx3); (try have : v1.heap.size < v3.heap.size := (by omega)); (try have ne11 : v1.heap.size ≠ v3.heap.size := (by omega)); (try have : v1.heap.size + 1 < v3.heap.size := (by omega)); (try have ne12 : v1.heap.size + 1 ≠ v3.heap.size := (by omega)); (try have : v2.heap.size < v3.heap.size := (by omega)); (try have ne13 : v2.heap.size ≠ v3.heap.size := (by omega)); (try have : v2.heap.size + 1 < v3.heap.size := (by omega)); (try have ne14 : v2.heap.size + 1 ≠ v3.heap.size := (by omega)); have ne15 : g ≠ v3.heap.size := (by omega); have ne16 : v3.heap.size ≠ g := (by omega); have ne17 : g ≠ v3.heap.size + 1 := (by omega); have ne18 : v3.heap.size + 1 ≠ g := (by omega); have ne19 : w.heap.size ≠ v3.heap.size := (by omega); have ne20 : v3.heap.size ≠ w.heap.size := (by omega); have ne21 : w.heap.size ≠ v3.heap.size + 1 := (by omega); have ne22 : v3.heap.size + 1 ≠ w.heap.size := (by omega); (try (have ca : RowB v3 (v1.heap.size) #[.int .i64 0, .int .i64 0, .int .i64 0, .int .i64 0, .int .i64 0] := RowB.below (BA.out) hb2 (by first | omega | (simp; done) | (simp; omega)); have cac0 : v3.cell? ⟨v1.heap.size, 0, none⟩ = some (.int .i64 0) := ca.cell 0; have caf0 := ca.free 0; have cac1 : v3.cell? ⟨v1.heap.size, 1, none⟩ = some (.int .i64 0) := ca.cell 1; have caf1 := ca.free 1; have cac2 : v3.cell? ⟨v1.heap.size, 2, none⟩ = some (.int .i64 0) := ca.cell 2; have caf2 := ca.free 2; have cac3 : v3.cell? ⟨v1.heap.size, 3, none⟩ = some (.int .i64 0) := ca.cell 3; have caf3 := ca.free 3; have cac4 : v3.cell? ⟨v1.heap.size, 4, none⟩ = some (.int .i64 0) := ca.cell 4; have caf4 := ca.free 4; have CA := Lib.hid ca; clear ca)); (try (have ca : RowB v3 (v1.heap.size) #[.int .i64 0, .int .i64 0, .int .i64 0, .int .i64 0, .int .i64 0] := RowB.below (RowB.alloc BA.out _) hb2 (by first | omega | (simp; done) | (simp; omega)); have cac0 : v3.cell? ⟨v1.heap.size, 0, none⟩ = some (.int .i64 0) := ca.cell 0; have caf0 := ca.free 0; have cac1 : v3.cell? ⟨v1.heap.size, 1, none⟩ = some (.int .i64 0) := ca.cell 1; have caf1 := ca.free 1; have cac2 : v3.cell? ⟨v1.heap.size, 2, none⟩ = some (.int .i64 0) := ca.cell 2; have caf2 := ca.free 2; have cac3 : v3.cell? ⟨v1.heap.size, 3, none⟩ = some (.int .i64 0) := ca.cell 3; have caf3 := ca.free 3; have cac4 : v3.cell? ⟨v1.heap.size, 4, none⟩ = some (.int .i64 0) := ca.cell 4; have caf4 := ca.free 4; have CA := Lib.hid ca; clear ca)); (try (have cb : RowB v3 (v1.heap.size + 1) #[.int .i64 0, .int .i64 0, .int .i64 0, .int .i64 0, .int .i64 0] := RowB.below (BB.out) hb2 (by first | omega | (simp; done) | (simp; omega)); have cbc0 : v3.cell? ⟨v1.heap.size + 1, 0, none⟩ = some (.int .i64 0) := cb.cell 0; have cbf0 := cb.free 0; have cbc1 : v3.cell? ⟨v1.heap.size + 1, 1, none⟩ = some (.int .i64 0) := cb.cell 1; have cbf1 := cb.free 1; have cbc2 : v3.cell? ⟨v1.heap.size + 1, 2, none⟩ = some (.int .i64 0) := cb.cell 2; have cbf2 := cb.free 2; have cbc3 : v3.cell? ⟨v1.heap.size + 1, 3, none⟩ = some (.int .i64 0) := cb.cell 3; have cbf3 := cb.free 3; have cbc4 : v3.cell? ⟨v1.heap.size + 1, 4, none⟩ = some (.int .i64 0) := cb.cell 4; have cbf4 := cb.free 4; have CB := Lib.hid cb; clear cb)); (try (have cc : RowB v3 (v2.heap.size) #[.int .i64 0, .int .i64 0, .int .i64 0, .int .i64 0, .int .i64 0] := RowB.below (RowB.new v2 _ _) hb2 (by first | omega | (simp; done) | (simp; omega)); have ccc0 : v3.cell? ⟨v2.heap.size, 0, none⟩ = some (.int .i64 0) := cc.cell 0; have ccf0 := cc.free 0; have ccc1 : v3.cell? ⟨v2.heap.size, 1, none⟩ = some (.int .i64 0) := cc.cell 1; have ccf1 := cc.free 1; have ccc2 : v3.cell? ⟨v2.heap.size, 2, none⟩ = some (.int .i64 0) := cc.cell 2; have ccf2 := cc.free 2; have ccc3 : v3.cell? ⟨v2.heap.size, 3, none⟩ = some (.int .i64 0) := cc.cell 3; have ccf3 := cc.free 3; have ccc4 : v3.cell? ⟨v2.heap.size, 4, none⟩ = some (.int .i64 0) := cc.cell 4; have ccf4 := cc.free 4; have CC := Lib.hid cc; clear cc)); (try (have cc : RowB v3 (v2.heap.size) #[.int .i64 0, .int .i64 0, .int .i64 0, .int .i64 0, .int .i64 0] := RowB.below (RowB.alloc (RowB.new v2 _ _) _) hb2 (by first | omega | (simp; done) | (simp; omega)); have ccc0 : v3.cell? ⟨v2.heap.size, 0, none⟩ = some (.int .i64 0) := cc.cell 0; have ccf0 := cc.free 0; have ccc1 : v3.cell? ⟨v2.heap.size, 1, none⟩ = some (.int .i64 0) := cc.cell 1; have ccf1 := cc.free 1; have ccc2 : v3.cell? ⟨v2.heap.size, 2, none⟩ = some (.int .i64 0) := cc.cell 2; have ccf2 := cc.free 2; have ccc3 : v3.cell? ⟨v2.heap.size, 3, none⟩ = some (.int .i64 0) := cc.cell 3; have ccf3 := cc.free 3; have ccc4 : v3.cell? ⟨v2.heap.size, 4, none⟩ = some (.int .i64 0) := cc.cell 4; have ccf4 := cc.free 4; have CC := Lib.hid cc; clear cc)); (try (have cd : RowB v3 (v2.heap.size + 1) #[.int .i64 0, .int .i64 0, .int .i64 0, .int .i64 0, .int .i64 0] := RowB.below (rowb_new1 v2 _ _ _) hb2 (by first | omega | (simp; done) | (simp; omega)); have cdc0 : v3.cell? ⟨v2.heap.size + 1, 0, none⟩ = some (.int .i64 0) := cd.cell 0; have cdf0 := cd.free 0; have cdc1 : v3.cell? ⟨v2.heap.size + 1, 1, none⟩ = some (.int .i64 0) := cd.cell 1; have cdf1 := cd.free 1; have cdc2 : v3.cell? ⟨v2.heap.size + 1, 2, none⟩ = some (.int .i64 0) := cd.cell 2; have cdf2 := cd.free 2; have cdc3 : v3.cell? ⟨v2.heap.size + 1, 3, none⟩ = some (.int .i64 0) := cd.cell 3; have cdf3 := cd.free 3; have cdc4 : v3.cell? ⟨v2.heap.size + 1, 4, none⟩ = some (.int .i64 0) := cd.cell 4; have cdf4 := cd.free 4; have CD := Lib.hid cd; clear cd)); (try (have HC3 := Lib.hid (HC2.out.trans (hb2.mono (by first | omega | (simp; done) | (simp; omega)))))); (try (have HC3 := Lib.hid ((HC2.out.alloc (by first | omega | (simp; done) | (simp; omega)) _).trans (hb2.mono (by first | omega | (simp; done) | (simp; omega)))))); (try (have HC3 := Lib.hid (((HC2.out.alloc (by first | omega | (simp; done) | (simp; omega)) _).alloc (by first | omega | (simp; done) | (simp; omega)) _).trans (hb2.mono (by first | omega | (simp; done) | (simp; omega)))))); clear hb2))
      · go_wp2_with fail
        go_meet
        case rel =>
          (try clear ne1); (try clear ne2); (try clear ne3); (try clear ne4); (try clear ne5); (try clear ne6); (try clear ne7); (try clear ne8); (try clear ne9); (try clear ne10); (try clear ne11); (try clear ne12); (try clear ne13); (try clear ne14); (try clear ne15); (try clear ne16); (try clear ne17); (try clear ne18); (try clear ne19); (try clear ne20); (try clear ne21); (try clear ne22); (try clear ne23); (try clear ne24); (try clear ne25); (try clear ne26); (try clear ne27); (try clear ne28); (try clear ne29); (try clear ne30)
          refine ⟨_, _, rfl, rfl, ?_, ?_, ?_, ?_, ?_, ?_⟩
          · omega
          · omega
          · omega
          · exact RowB.alloc (RowB.new v3 _ _) _
          · exact rowb_new1 v3 _ _ _
          · exact (HC3.out.alloc (by omega) _).alloc (by first | omega | (simp; omega)) _
      · go_wp2_with fail
        go_meet
        case rel =>
          (try clear ne1); (try clear ne2); (try clear ne3); (try clear ne4); (try clear ne5); (try clear ne6); (try clear ne7); (try clear ne8); (try clear ne9); (try clear ne10); (try clear ne11); (try clear ne12); (try clear ne13); (try clear ne14); (try clear ne15); (try clear ne16); (try clear ne17); (try clear ne18); (try clear ne19); (try clear ne20); (try clear ne21); (try clear ne22); (try clear ne23); (try clear ne24); (try clear ne25); (try clear ne26); (try clear ne27); (try clear ne28); (try clear ne29); (try clear ne30)
          refine ⟨_, _, rfl, rfl, ?_, ?_, ?_, ?_, ?_, ?_⟩
          · omega
          · omega
          · omega
          · exact rowb_new1 v3 _ _ _
          · exact RowB.alloc (RowB.new v3 _ _) _
          · exact (HC3.out.alloc (by omega) _).alloc (by first | omega | (simp; omega)) _
      · go_wp2_with fail
        go_meet
        case rel =>
          (try clear ne1); (try clear ne2); (try clear ne3); (try clear ne4); (try clear ne5); (try clear ne6); (try clear ne7); (try clear ne8); (try clear ne9); (try clear ne10); (try clear ne11); (try clear ne12); (try clear ne13); (try clear ne14); (try clear ne15); (try clear ne16); (try clear ne17); (try clear ne18); (try clear ne19); (try clear ne20); (try clear ne21); (try clear ne22); (try clear ne23); (try clear ne24); (try clear ne25); (try clear ne26); (try clear ne27); (try clear ne28); (try clear ne29); (try clear ne30)
          refine ⟨_, _, rfl, rfl, ?_, ?_, ?_, ?_, ?_, ?_⟩
          · omega
          · omega
          · omega
          · exact RowB.alloc (set5 CC.out) _
          · exact new5 v3 _ _ _ _ _ _ _ _
          · exact (below5 HC3.out (by omega)).alloc (by first | omega | (simp; omega)) _
      · go_wp2_with fail
        go_meet
        case rel =>
          (try clear ne1); (try clear ne2); (try clear ne3); (try clear ne4); (try clear ne5); (try clear ne6); (try clear ne7); (try clear ne8); (try clear ne9); (try clear ne10); (try clear ne11); (try clear ne12); (try clear ne13); (try clear ne14); (try clear ne15); (try clear ne16); (try clear ne17); (try clear ne18); (try clear ne19); (try clear ne20); (try clear ne21); (try clear ne22); (try clear ne23); (try clear ne24); (try clear ne25); (try clear ne26); (try clear ne27); (try clear ne28); (try clear ne29); (try clear ne30)
          refine ⟨_, _, rfl, rfl, ?_, ?_, ?_, ?_, ?_, ?_⟩
          · omega
          · omega
          · omega
          · exact other5 (set5 CC.out) (by omega)
          · exact set5 (other5 CD.out (by omega))
          · exact below5 (below5 HC3.out (by omega)) (by omega)
      · go_wp2_with fail
        go_meet
        case rel =>
          (try clear ne1); (try clear ne2); (try clear ne3); (try clear ne4); (try clear ne5); (try clear ne6); (try clear ne7); (try clear ne8); (try clear ne9); (try clear ne10); (try clear ne11); (try clear ne12); (try clear ne13); (try clear ne14); (try clear ne15); (try clear ne16); (try clear ne17); (try clear ne18); (try clear ne19); (try clear ne20); (try clear ne21); (try clear ne22); (try clear ne23); (try clear ne24); (try clear ne25); (try clear ne26); (try clear ne27); (try clear ne28); (try clear ne29); (try clear ne30)
          refine ⟨_, _, rfl, rfl, ?_, ?_, ?_, ?_, ?_, ?_⟩
          · omega
          · omega
          · omega
          · exact new5 v3 _ _ _ _ _ _ _ _
          · exact RowB.alloc (set5 CC.out) _
          · exact (below5 HC3.out (by omega)).alloc (by first | omega | (simp; omega)) _
      · go_wp2_with fail
        go_meet
        case rel =>
          (try clear ne1); (try clear ne2); (try clear ne3); (try clear ne4); (try clear ne5); (try clear ne6); (try clear ne7); (try clear ne8); (try clear ne9); (try clear ne10); (try clear ne11); (try clear ne12); (try clear ne13); (try clear ne14); (try clear ne15); (try clear ne16); (try clear ne17); (try clear ne18); (try clear ne19); (try clear ne20); (try clear ne21); (try clear ne22); (try clear ne23); (try clear ne24); (try clear ne25); (try clear ne26); (try clear ne27); (try clear ne28); (try clear ne29); (try clear ne30)
          refine ⟨_, _, rfl, rfl, ?_, ?_, ?_, ?_, ?_, ?_⟩
          · omega
          · omega
          · omega
          · exact other5 (set5 CD.out) (by omega)
          · exact set5 (other5 CC.out (by omega))
          · exact below5 (below5 HC3.out (by omega)) (by omega)
      · go_wp2_with fail
        go_meet
        case rel =>
          (try clear ne1); (try clear ne2); (try clear ne3); (try clear ne4); (try clear ne5); (try clear ne6); (try clear ne7); (try clear ne8); (try clear ne9); (try clear ne10); (try clear ne11); (try clear ne12); (try clear ne13); (try clear ne14); (try clear ne15); (try clear ne16); (try clear ne17); (try clear ne18); (try clear ne19); (try clear ne20); (try clear ne21); (try clear ne22); (try clear ne23); (try clear ne24); (try clear ne25); (try clear ne26); (try clear ne27); (try clear ne28); (try clear ne29); (try clear ne30)
          refine ⟨_, _, rfl, rfl, ?_, ?_, ?_, ?_, ?_, ?_⟩
          · omega
          · omega
          · omega
          · exact RowB.alloc (set5 CA.out) _
          · exact new5 v3 _ _ _ _ _ _ _ _
          · exact (below5 HC3.out (by omega)).alloc (by first | omega | (simp; omega)) _
      · go_wp2_with fail
        go_meet
        case rel =>
          (try clear ne1); (try clear ne2); (try clear ne3); (try clear ne4); (try clear ne5); (try clear ne6); (try clear ne7); (try clear ne8); (try clear ne9); (try clear ne10); (try clear ne11); (try clear ne12); (try clear ne13); (try clear ne14); (try clear ne15); (try clear ne16); (try clear ne17); (try clear ne18); (try clear ne19); (try clear ne20); (try clear ne21); (try clear ne22); (try clear ne23); (try clear ne24); (try clear ne25); (try clear ne26); (try clear ne27); (try clear ne28); (try clear ne29); (try clear ne30)
          refine ⟨_, _, rfl, rfl, ?_, ?_, ?_, ?_, ?_, ?_⟩
          · omega
          · omega
          · omega
          · exact other5 (set5 CA.out) (by omega)
          · exact set5 (other5 CC.out (by omega))
          · exact below5 (below5 HC3.out (by omega)) (by omega)
      · go_wp2_with fail
        go_meet
        case rel =>
          (try clear ne1); (try clear ne2); (try clear ne3); (try clear ne4); (try clear ne5); (try clear ne6); (try clear ne7); (try clear ne8); (try clear ne9); (try clear ne10); (try clear ne11); (try clear ne12); (try clear ne13); (try clear ne14); (try clear ne15); (try clear ne16); (try clear ne17); (try clear ne18); (try clear ne19); (try clear ne20); (try clear ne21); (try clear ne22); (try clear ne23); (try clear ne24); (try clear ne25); (try clear ne26); (try clear ne27); (try clear ne28); (try clear ne29); (try clear ne30)
          refine ⟨_, _, rfl, rfl, ?_, ?_, ?_, ?_, ?_, ?_⟩
          · omega
          · omega
          · omega
          · exact other5 (set5 CA.out) (by omega)
          · exact set5 (other5 CB.out (by omega))
          · exact below5 (below5 HC3.out (by omega)) (by omega)
      · go_wp2_with fail
        go_meet
        case rel =>
          (try clear ne1); (try clear ne2); (try clear ne3); (try clear ne4); (try clear ne5); (try clear ne6); (try clear ne7); (try clear ne8); (try clear ne9); (try clear ne10); (try clear ne11); (try clear ne12); (try clear ne13); (try clear ne14); (try clear ne15); (try clear ne16); (try clear ne17); (try clear ne18); (try clear ne19); (try clear ne20); (try clear ne21); (try clear ne22); (try clear ne23); (try clear ne24); (try clear ne25); (try clear ne26); (try clear ne27); (try clear ne28); (try clear ne29); (try clear ne30)
          refine ⟨_, _, rfl, rfl, ?_, ?_, ?_, ?_, ?_, ?_⟩
          · omega
          · omega
          · omega
          · exact new5 v3 _ _ _ _ _ _ _ _
          · exact RowB.alloc (set5 CA.out) _
          · exact (below5 HC3.out (by omega)).alloc (by first | omega | (simp; omega)) _
      · go_wp2_with fail
        go_meet
        case rel =>
          (try clear ne1); (try clear ne2); (try clear ne3); (try clear ne4); (try clear ne5); (try clear ne6); (try clear ne7); (try clear ne8); (try clear ne9); (try clear ne10); (try clear ne11); (try clear ne12); (try clear ne13); (try clear ne14); (try clear ne15); (try clear ne16); (try clear ne17); (try clear ne18); (try clear ne19); (try clear ne20); (try clear ne21); (try clear ne22); (try clear ne23); (try clear ne24); (try clear ne25); (try clear ne26); (try clear ne27); (try clear ne28); (try clear ne29); (try clear ne30)
          refine ⟨_, _, rfl, rfl, ?_, ?_, ?_, ?_, ?_, ?_⟩
          · omega
          · omega
          · omega
          · exact other5 (set5 CC.out) (by omega)
          · exact set5 (other5 CA.out (by omega))
          · exact below5 (below5 HC3.out (by omega)) (by omega)
      · go_wp2_with fail
        go_meet
        case rel =>
          (try clear ne1); (try clear ne2); (try clear ne3); (try clear ne4); (try clear ne5); (try clear ne6); (try clear ne7); (try clear ne8); (try clear ne9); (try clear ne10); (try clear ne11); (try clear ne12); (try clear ne13); (try clear ne14); (try clear ne15); (try clear ne16); (try clear ne17); (try clear ne18); (try clear ne19); (try clear ne20); (try clear ne21); (try clear ne22); (try clear ne23); (try clear ne24); (try clear ne25); (try clear ne26); (try clear ne27); (try clear ne28); (try clear ne29); (try clear ne30)
          refine ⟨_, _, rfl, rfl, ?_, ?_, ?_, ?_, ?_, ?_⟩
          · omega
          · omega
          · omega
          · exact other5 (set5 CB.out) (by omega)
          · exact set5 (other5 CA.out (by omega))
          · exact below5 (below5 HC3.out (by omega)) (by omega)
    case rest =>
      obtain ⟨g8, g9, rfl, rfl, hne, hl8, hl9, hr8, hr9, hbc⟩ := hcut
      have GA := Lib.hid hr8
      have GB := Lib.hid hr9
      have HGc := Lib.hid (HG1.out.below hbc hlG1)
      have HZc := Lib.hid (HZ1.out.below hbc hlZ1)
      have HBc := Lib.hid (HBF.out.trans (hbc.mono (by omega)))
      have hsc := hbc.size
      clear hr8 hr9 hbc q0 q1 k0 k1 k2 k3 k4 m0 m1 m2 m3 m4
      have ga0 : wc.cell? ⟨g8, 0, none⟩ = some (.int .i64 p) := GA.out.cell 0
      have ga1 : wc.cell? ⟨g8, 1, none⟩ = some (.int .i64 tx) := GA.out.cell 1
      have ga2 : wc.cell? ⟨g8, 2, none⟩ = some (.int .i64 ty) := GA.out.cell 2
      have ga3 : wc.cell? ⟨g8, 3, none⟩ = some (.int .i64 n) := GA.out.cell 3
      have ga4 : wc.cell? ⟨g8, 4, none⟩ = some (.int .i64 th) := GA.out.cell 4
      have gb0 : wc.cell? ⟨g9, 0, none⟩ = some (.int .i64 p) := GB.out.cell 0
      have gb1 : wc.cell? ⟨g9, 1, none⟩ = some (.int .i64 tx) := GB.out.cell 1
      have gb2 : wc.cell? ⟨g9, 2, none⟩ = some (.int .i64 ty) := GB.out.cell 2
      have gb3 : wc.cell? ⟨g9, 3, none⟩ = some (.int .i64 n) := GB.out.cell 3
      have gb4 : wc.cell? ⟨g9, 4, none⟩ = some (.int .i64 th) := GB.out.cell 4
      have fa3 := GA.out.free 3
      have fb1 := GB.out.free 1
      have fb3 := GB.out.free 3
      have hne' : g9 ≠ g8 := fun e => hne e.symm
      have h8l := GA.out.lt
      have h9l := GB.out.lt
      go_upto_region 9 with fail
      obtain ⟨W2, hW2⟩ : ∃ W2, W2 = ((wc.setCell ⟨g8, 3, none⟩ (.int .i64 sz)).setCell ⟨g9, 1, none⟩ (.int .i64 (tx + (sz + 1)))).setCell ⟨g9, 3, none⟩ (.int .i64 (n - (sz + 1))) := ⟨_, rfl⟩
      have GA2 := Lib.hid (show RowB W2 g8 #[.int .i64 p, .int .i64 tx, .int .i64 ty, .int .i64 sz, .int .i64 th] by rw [hW2]; exact ((GA.out.set (j := 3) (v := .int .i64 sz)).other hne).other hne)
      have GB2 := Lib.hid (show RowB W2 g9 #[.int .i64 p, .int .i64 (tx + (sz + 1)), .int .i64 ty, .int .i64 (n - (sz + 1)), .int .i64 th] by rw [hW2]; exact ((GB.out.other hne').set (j := 1) (v := .int .i64 (tx + (sz + 1)))).set (j := 3) (v := .int .i64 (n - (sz + 1))))
      have HG2 := Lib.hid (show RowB W2 g (splitC d f va vb) by rw [hW2]; exact ((HGc.out.other (by omega)).other (by omega)).other (by omega))
      have HZ2 := Lib.hid (show RowB W2 (w.heap.size + 1) #[.int .i64 0, .int .i64 0, .int .i64 0, .int .i64 0, .int .i64 0, .int .i64 0, .int .i64 0, .int .i64 0, .int .i64 0, .int .i64 0] by rw [hW2]; exact ((HZc.out.other (by omega)).other (by omega)).other (by omega))
      have HBW2 := Lib.hid (show Below w.heap.size w W2 by rw [hW2]; exact ((HBc.out.setCell (show w.heap.size ≤ g8 by omega) _).setCell (show w.heap.size ≤ g9 by omega) _).setCell (show w.heap.size ≤ g9 by omega) _)
      have hsW2 : wc.heap.size ≤ W2.heap.size := by rw [hW2]; simp
      rw [← hW2]
      clear hW2 ga0 ga1 ga2 ga3 ga4 gb0 gb1 gb2 gb3 gb4 fa3 fb1 fb3
      have hlg2 := HG2.out.lt
      have hl82 := GA2.out.lt
      have hl92 := GB2.out.lt
      have hlz2 := HZ2.out.lt
      have HT1 := Lib.hid (fun W => show Calls Try.prog 104 #[.bool d, .agg #[.int .i64 p, .int .i64 tx, .int .i64 ty, .int .i64 sz, .int .i64 th]] W (fun e w' => e = .returned (.agg #[.int .i64 (areaA d f ⟨p, x, y, v, h⟩).pane, .int .i64 (areaA d f ⟨p, x, y, v, h⟩).x, .int .i64 (areaA d f ⟨p, x, y, v, h⟩).y, .int .i64 (areaA d f ⟨p, x, y, v, h⟩).w, .int .i64 (areaA d f ⟨p, x, y, v, h⟩).h]) ∧ Below W.heap.size W w') from by
        have q := turnedIf_any d p tx ty sz th W
        rw [back_A d f p x y v h tx ty th n sz HTX.out HTY.out HTH.out HNE.out HSZ.out]; exact q)
      have HT2 := Lib.hid (fun W => show Calls Try.prog 104 #[.bool d, .agg #[.int .i64 p, .int .i64 (tx + (sz + 1)), .int .i64 ty, .int .i64 (n - (sz + 1)), .int .i64 th]] W (fun e w' => e = .returned (.agg #[.int .i64 (areaB d f ⟨p, x, y, v, h⟩).pane, .int .i64 (areaB d f ⟨p, x, y, v, h⟩).x, .int .i64 (areaB d f ⟨p, x, y, v, h⟩).y, .int .i64 (areaB d f ⟨p, x, y, v, h⟩).w, .int .i64 (areaB d f ⟨p, x, y, v, h⟩).h]) ∧ Below W.heap.size W w') from by
        have q := turnedIf_any d p (tx + (sz + 1)) ty (n - (sz + 1)) th W
        rw [back_B d f p x y v h tx ty th n sz HTX.out HTY.out HTH.out HNE.out HSZ.out]; exact q)
      generalize hrA : areaA d f ⟨p, x, y, v, h⟩ = rA at HT1
      generalize hrB : areaB d f ⟨p, x, y, v, h⟩ = rB at HT2
      have HRA := Lib.hid hrA
      have HRB := Lib.hid hrB
      clear hrA hrB
      have q2 : W2.cell? ⟨g, 0, none⟩ = some (.bool d) := HG2.out.cell 0
      have ka0 : W2.cell? ⟨g8, 0, none⟩ = some (.int .i64 p) := GA2.out.cell 0
      have ka1 : W2.cell? ⟨g8, 1, none⟩ = some (.int .i64 tx) := GA2.out.cell 1
      have ka2 : W2.cell? ⟨g8, 2, none⟩ = some (.int .i64 ty) := GA2.out.cell 2
      have ka3 : W2.cell? ⟨g8, 3, none⟩ = some (.int .i64 sz) := GA2.out.cell 3
      have ka4 : W2.cell? ⟨g8, 4, none⟩ = some (.int .i64 th) := GA2.out.cell 4
      have kb0 : W2.cell? ⟨g9, 0, none⟩ = some (.int .i64 p) := GB2.out.cell 0
      have kb1 : W2.cell? ⟨g9, 1, none⟩ = some (.int .i64 (tx + (sz + 1))) := GB2.out.cell 1
      have kb2 : W2.cell? ⟨g9, 2, none⟩ = some (.int .i64 ty) := GB2.out.cell 2
      have kb3 : W2.cell? ⟨g9, 3, none⟩ = some (.int .i64 (n - (sz + 1))) := GB2.out.cell 3
      have kb4 : W2.cell? ⟨g9, 4, none⟩ = some (.int .i64 th) := GB2.out.cell 4
      go_region_held3 (fun w' => w'.cell? ⟨g, 0, none⟩ = some (.bool d) ∧ w'.cell? ⟨g8, 0, none⟩ = some (.int .i64 p) ∧ w'.cell? ⟨g8, 1, none⟩ = some (.int .i64 tx) ∧ w'.cell? ⟨g8, 2, none⟩ = some (.int .i64 ty) ∧ w'.cell? ⟨g8, 3, none⟩ = some (.int .i64 sz) ∧ w'.cell? ⟨g8, 4, none⟩ = some (.int .i64 th) ∧ w'.cell? ⟨g9, 0, none⟩ = some (.int .i64 p) ∧ w'.cell? ⟨g9, 1, none⟩ = some (.int .i64 (tx + (sz + 1))) ∧ w'.cell? ⟨g9, 2, none⟩ = some (.int .i64 ty) ∧ w'.cell? ⟨g9, 3, none⟩ = some (.int .i64 (n - (sz + 1))) ∧ w'.cell? ⟨g9, 4, none⟩ = some (.int .i64 th)) (first | (with_reducible assumption) | (with_reducible exact ⟨ten zn1 q5, ten zn2 na0, ten zn2 na1, ten zn2 na2, ten zn2 na3, ten zn2 na4, ten zn3 nb0, ten zn3 nb1, ten zn3 nb2, ten zn3 nb3, ten zn3 nb4⟩) | go_keep)
        (first
          | (go_at_call 104; (with_reducible refine (HT1.out _).mono ?_); rintro e v4 ⟨rfl, hb'⟩; have hb4 := Lib.hid (show Below W2.heap.size W2 v4 from undrew hb'); clear hb'; have HG4 := Lib.hid (HG2.out.below hb4.out hlg2); have GA4 := Lib.hid (GA2.out.below hb4.out hl82); have GB4 := Lib.hid (GB2.out.below hb4.out hl92); have HZ4 := Lib.hid (HZ2.out.below hb4.out hlz2); have hs4 : W2.heap.size ≤ v4.heap.size := hb4.out.size; have q4 : v4.cell? ⟨g, 0, none⟩ = some (.bool d) := HG4.out.cell 0; have la0 : v4.cell? ⟨g8, 0, none⟩ = some (.int .i64 p) := GA4.out.cell 0; have la1 : v4.cell? ⟨g8, 1, none⟩ = some (.int .i64 tx) := GA4.out.cell 1; have la2 : v4.cell? ⟨g8, 2, none⟩ = some (.int .i64 ty) := GA4.out.cell 2; have la3 : v4.cell? ⟨g8, 3, none⟩ = some (.int .i64 sz) := GA4.out.cell 3; have la4 : v4.cell? ⟨g8, 4, none⟩ = some (.int .i64 th) := GA4.out.cell 4; have lb0 : v4.cell? ⟨g9, 0, none⟩ = some (.int .i64 p) := GB4.out.cell 0; have lb1 : v4.cell? ⟨g9, 1, none⟩ = some (.int .i64 (tx + (sz + 1))) := GB4.out.cell 1; have lb2 : v4.cell? ⟨g9, 2, none⟩ = some (.int .i64 ty) := GB4.out.cell 2; have lb3 : v4.cell? ⟨g9, 3, none⟩ = some (.int .i64 (n - (sz + 1))) := GB4.out.cell 3; have lb4 : v4.cell? ⟨g9, 4, none⟩ = some (.int .i64 th) := GB4.out.cell 4)
          | (go_at_call 104; (with_reducible refine (HT2.out _).mono ?_); rintro e v5 ⟨rfl, hb'⟩; have hb5 := Lib.hid (show Below v4.heap.size v4 v5 from hb'); clear hb'; have HG5 := Lib.hid (HG4.out.below hb5.out (by omega)); have GA5 := Lib.hid (GA4.out.below hb5.out (by omega)); have GB5 := Lib.hid (GB4.out.below hb5.out (by omega)); have HZ5 := Lib.hid (HZ4.out.below hb5.out (by omega)); have q5 : v5.cell? ⟨g, 0, none⟩ = some (.bool d) := HG5.out.cell 0; have na0 : v5.cell? ⟨g8, 0, none⟩ = some (.int .i64 p) := GA5.out.cell 0; have na1 : v5.cell? ⟨g8, 1, none⟩ = some (.int .i64 tx) := GA5.out.cell 1; have na2 : v5.cell? ⟨g8, 2, none⟩ = some (.int .i64 ty) := GA5.out.cell 2; have na3 : v5.cell? ⟨g8, 3, none⟩ = some (.int .i64 sz) := GA5.out.cell 3; have na4 : v5.cell? ⟨g8, 4, none⟩ = some (.int .i64 th) := GA5.out.cell 4; have nb0 : v5.cell? ⟨g9, 0, none⟩ = some (.int .i64 p) := GB5.out.cell 0; have nb1 : v5.cell? ⟨g9, 1, none⟩ = some (.int .i64 (tx + (sz + 1))) := GB5.out.cell 1; have nb2 : v5.cell? ⟨g9, 2, none⟩ = some (.int .i64 ty) := GB5.out.cell 2; have nb3 : v5.cell? ⟨g9, 3, none⟩ = some (.int .i64 (n - (sz + 1))) := GB5.out.cell 3; have nb4 : v5.cell? ⟨g9, 4, none⟩ = some (.int .i64 th) := GB5.out.cell 4; have zc0 : v5.cell? ⟨w.heap.size + 1, 0, none⟩ = some (.int .i64 0) := HZ5.out.cell 0; have zf0 := HZ5.out.free 0; have zc1 : v5.cell? ⟨w.heap.size + 1, 1, none⟩ = some (.int .i64 0) := HZ5.out.cell 1; have zf1 := HZ5.out.free 1; have zc2 : v5.cell? ⟨w.heap.size + 1, 2, none⟩ = some (.int .i64 0) := HZ5.out.cell 2; have zf2 := HZ5.out.free 2; have zc3 : v5.cell? ⟨w.heap.size + 1, 3, none⟩ = some (.int .i64 0) := HZ5.out.cell 3; have zf3 := HZ5.out.free 3; have zc4 : v5.cell? ⟨w.heap.size + 1, 4, none⟩ = some (.int .i64 0) := HZ5.out.cell 4; have zf4 := HZ5.out.free 4; have zc5 : v5.cell? ⟨w.heap.size + 1, 5, none⟩ = some (.int .i64 0) := HZ5.out.cell 5; have zf5 := HZ5.out.free 5; have zc6 : v5.cell? ⟨w.heap.size + 1, 6, none⟩ = some (.int .i64 0) := HZ5.out.cell 6; have zf6 := HZ5.out.free 6; have zc7 : v5.cell? ⟨w.heap.size + 1, 7, none⟩ = some (.int .i64 0) := HZ5.out.cell 7; have zf7 := HZ5.out.free 7; have zc8 : v5.cell? ⟨w.heap.size + 1, 8, none⟩ = some (.int .i64 0) := HZ5.out.cell 8; have zf8 := HZ5.out.free 8; have zc9 : v5.cell? ⟨w.heap.size + 1, 9, none⟩ = some (.int .i64 0) := HZ5.out.cell 9; have zf9 := HZ5.out.free 9; have zn1 : g ≠ w.heap.size + 1 := (by omega); have zn2 : g8 ≠ w.heap.size + 1 := (by omega); have zn3 : g9 ≠ w.heap.size + 1 := (by omega)))
      all_goals
        have HBX := Lib.hid (HBW2.out.trans ((hb4.out.trans (hb5.out.mono hs4)).mono (by omega)))
        obtain ⟨W9, hW9⟩ : ∃ W9, W9 = (((((((((v5.setCell ⟨w.heap.size + 1, 0, none⟩ (.int .i64 rA.pane)).setCell ⟨w.heap.size + 1, 1, none⟩ (.int .i64 rA.x)).setCell ⟨w.heap.size + 1, 2, none⟩ (.int .i64 rA.y)).setCell ⟨w.heap.size + 1, 3, none⟩ (.int .i64 rA.w)).setCell ⟨w.heap.size + 1, 4, none⟩ (.int .i64 rA.h)).setCell ⟨w.heap.size + 1, 5, none⟩ (.int .i64 rB.pane)).setCell ⟨w.heap.size + 1, 6, none⟩ (.int .i64 rB.x)).setCell ⟨w.heap.size + 1, 7, none⟩ (.int .i64 rB.y)).setCell ⟨w.heap.size + 1, 8, none⟩ (.int .i64 rB.w)).setCell ⟨w.heap.size + 1, 9, none⟩ (.int .i64 rB.h) := ⟨_, rfl⟩
        have HZ9 := Lib.hid (show RowB W9 (w.heap.size + 1) #[.int .i64 rA.pane, .int .i64 rA.x, .int .i64 rA.y, .int .i64 rA.w, .int .i64 rA.h, .int .i64 rB.pane, .int .i64 rB.x, .int .i64 rB.y, .int .i64 rB.w, .int .i64 rB.h] by rw [hW9]; exact setTen HZ5.out)
        have HB9 := Lib.hid (show Below w.heap.size w W9 by rw [hW9]; exact below10 HBX.out (Nat.le_succ _))
        rw [← hW9]
        clear hW9 zc0 zf0  zc1 zf1  zc2 zf2  zc3 zf3  zc4 zf4  zc5 zf5  zc6 zf6  zc7 zf7  zc8 zf8  zc9 zf9 na0 nb0 la0 lb0 ka0 kb0 na1 nb1 la1 lb1 ka1 kb1 na2 nb2 la2 lb2 ka2 kb2 na3 nb3 la3 lb3 ka3 kb3 na4 nb4 la4 lb4 ka4 kb4 q5 q4 q2
        go_wp2_with fail
        exact bodyPost_ret (v := .tuple #[.agg #[.int .i64 rA.pane, .int .i64 rA.x, .int .i64 rA.y, .int .i64 rA.w, .int .i64 rA.h, .int .i64 rB.pane, .int .i64 rB.x, .int .i64 rB.y, .int .i64 rB.w, .int .i64 rB.h], .bool true]) (results_rt Try.results102 Try.underlying122 rfl sizeRR _ W9 (w.heap.size + 1) #[.int .i64 rA.pane, .int .i64 rA.x, .int .i64 rA.y, .int .i64 rA.w, .int .i64 rA.h, .int .i64 rB.pane, .int .i64 rB.x, .int .i64 rB.y, .int .i64 rB.w, .int .i64 rB.h] rfl rfl HZ9.out rfl) rfl ⟨by rw [HRA.out, HRB.out], HB9.out⟩
end Go.Proofs.Ytgejjdkgeoojmaa.Tr

