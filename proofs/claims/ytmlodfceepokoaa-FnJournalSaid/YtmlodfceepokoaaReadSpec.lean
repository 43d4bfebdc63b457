/- Contract of the reading of a frame, in the model: it writes the frame again and compares. -/
import Derived.Test.YtmlodfceepokoaaFrameRead
import Derived.Test.YtmlodfceepokoaaFrameSpec
import Derived.Test.YtmlodfceepokoaaGetSpec
import Derived.Test.YtmlodfceepokoaaReadBad
namespace Go.Proofs.Ytmlodfceepokoaa.Frame
open Go.RowKit Go.Proofs.Ytmlodfceepokoaa.Bytes Go.Proofs.Ytmlodfceepokoaa.Var Go.Proofs.Ytmlodfceepokoaa.Crc
set_option linter.unusedVariables false

set_option maxRecDepth 100000 in
set_option maxHeartbeats 3200000 in
theorem s_6 (A : Option Addr) (n c : Nat) (zs : List Int) (a P1 P2 P3 S Z C : Nat) (w : World) (hr : Rd w w.heap.size A zs) (hg : Rng zs) (hl : zs.length = n) (hn : n ≤ 1099511627776) (hnc : n ≤ c) (h0 : a < n) (hz : zs.getD a 0 = 167) (hN : Nums zs a P1 P2 P3 S Z C) (hp1 : a + 1 < P1) (hp2 : P1 < P2) (hp3 : P2 < P3) (hp4 : P3 ≤ n) (hS : S ≤ 4294967295) (hZ : Z ≤ 4294967295) (hC : C ≤ 4294967295) (hs1 : 1 ≤ S) (hs2 : S ≤ 1000000000) (hz4 : Z ≤ 60000) (h5 : P3 + Z ≤ n) (h6 : frB S ((zs.drop P3).take Z) ≠ (zs.drop a).take (P3 + Z - a)) :
    Calls Try.prog 23 #[.slice A n c, .int .i64 a] w fun e w' => e = .returned (.tuple #[.int .i64 0, .slice none 0 0, .int .i64 0, .int .i64 6]) ∧ Below w.heap.size w w' := by
  have HL := Lib.hid hl
  have HG := Lib.hid hg
  have HR := Lib.hid hr
  clear hl
  obtain ⟨b, o, rfl, hB, hc⟩ := hr.at_ (k := a) (by rw [HL.out]; exact h0)
  have HZ := Lib.hid hz
  rw [hz] at hc
  clear hz hr
  have h0i : (a : Int) ≤ (n : Int) := by omega
  have hq : ((a : Int) == (n : Int)) = false := by simp; omega
  have hz' : ((167 : Int) != 167) = false := by simp
  have HN := Lib.hid hN
  have HB0 := Lib.hid (Below.refl w.heap.size w)
  clear hN
  have hs1' : (1 : Int) ≤ (S : Int) := by omega
  have hs2' : (S : Int) ≤ 1000000000 := by omega
  have hz4' : (Z : Int) ≤ 60000 := by omega
  have H6 := Lib.hid h6
  clear h6
  have hd5 : (Z : Int) ≤ (n : Int) - (P3 : Int) := by omega
  have HL2 := Lib.hid (show ((zs.drop P3).take Z).length = Z by rw [List.length_take, List.length_drop, HL.out]; omega)
  have HG2 := Lib.hid (rng_sub hg P3 Z)
  have HLA := Lib.hid (show ((zs.drop a).take (P3 + Z - a)).length = P3 + Z - a by rw [List.length_take, List.length_drop, HL.out]; omega)
  have HGA := Lib.hid (rng_sub hg a (P3 + Z - a))
  have HRA := Lib.hid (rd_sub HR.out a (P3 + Z - a) (by rw [HL.out]; omega))
  by_cases hcE : P3 = c
  · subst hcE
    obtain rfl : Z = 0 := by omega
    have hd6 : ¬ (n : Int) - (P3 : Int) < 0 := by omega
    have HR2 := Lib.hid (show Rd w w.heap.size (some ⟨b, o, none⟩) ((zs.drop P3).take 0) by rw [List.take_zero]; exact rd_nil _ _ _)
    generalize hHA : (zs.drop a).take (P3 + 0 - a) = all at *
    generalize hHD : (zs.drop P3).take 0 = dat at *
    clear hHA hHD
    go_enter Try.func23, Try.ntmps23
    go_wp2_with fail
    refine (spec_GetVar_any _ n _ zs ((a : Int) + 1) _ ((HR.out.below (Nat.le_refl _) HB0.out).more HB0.out.size) hg HL.out hn hnc).mono ?_
    rintro e v1 ⟨he, hx1⟩
    unfold gvRet at he
    rw [HN.out.o1, HN.out.e1, HN.out.v1] at he
    subst he
    have HB1 := Lib.hid (HB0.out.trans (hx1.mono HB0.out.size))
    clear hx1
    go_wp2_with fail
    refine (spec_GetVar_any _ n _ zs (P1 : Int) _ ((HR.out.below (Nat.le_refl _) HB1.out).more HB1.out.size) hg HL.out hn hnc).mono ?_
    rintro e v2 ⟨he, hx2⟩
    unfold gvRet at he
    rw [HN.out.o2, HN.out.e2, HN.out.v2] at he
    subst he
    have HB2 := Lib.hid (HB1.out.trans (hx2.mono HB1.out.size))
    clear hx2
    go_wp2_with fail
    refine (spec_GetVar_any _ n _ zs (P2 : Int) _ ((HR.out.below (Nat.le_refl _) HB2.out).more HB2.out.size) hg HL.out hn hnc).mono ?_
    rintro e v3 ⟨he, hx3⟩
    unfold gvRet at he
    rw [HN.out.o3, HN.out.e3, HN.out.v3] at he
    subst he
    have HB3 := Lib.hid (HB2.out.trans (hx3.mono HB2.out.size))
    clear hx3
    have HR3 := Lib.hid ((HR2.out.below (Nat.le_refl _) HB3.out).more HB3.out.size)
    have hown : Own (v3.alloc (.cells #[] 5)) v3.heap.size (some ⟨v3.heap.size, 0, none⟩) 0 0 [] := World.ownsRow_lit v3 #[] 0 (Nat.le_refl _) (by decide) rfl
    have hbw : Below v3.heap.size v3 (v3.alloc (.cells #[] 5)) := (Below.refl _ _).alloc (Nat.le_refl _) _
    have HOW := Lib.hid hown
    have HBW := Lib.hid hbw
    have HR4 := Lib.hid (HR3.out.below (Nat.le_refl _) hbw)
    clear hown hbw
    go_wp2_with (at_builtin; refine append_src rfl _ _ rfl rfl rfl HOW.out HR4.out (fun h => nomatch h) HL2.out (by omega) (by omega) (by simp) ?_)
    intro A4 c4 v4 ho4 hx4
    have HB4 := Lib.hid (HB3.out.trans ((HBW.out.trans hx4).mono HB3.out.size))

    have HO4 := Lib.hid (ho4.more HB3.out.size)
    clear ho4 hx4
    go_wp2_with fail
    refine (spec_yes A4 0 c4 dat S _ (own_none HO4.out) HO4.out.rd HG2.out HL2.out (by omega) hs1 hs2).mono ?_
    rintro e v5 ⟨A5, n5, c5, rfl, ho5, hx5⟩
    have HB5 := Lib.hid (HB4.out.trans (hx5.mono HB4.out.size))
    have HO4' := Lib.hid (HO4.out.below (Nat.le_refl _) hx5)
    have hl5 := ho5.len
    have hp5 : 0 < (frB S dat).length := by unfold frB hd; simp
    obtain ⟨g, rfl, hg1, hg2⟩ := ho5.head (by omega)
    have hcv1 : ∀ nq, (convert 22 9 (.slice (some ⟨g, 0, none⟩) n5 c5)).run Try.prog (v5.drewN nq) = .ok (.string (strOfNums (frB S dat))) (v5.drewN nq) :=
      fun nq => run_convert_bytes_arg (v5.drewN nq) 22 5 Try.underlying22 Try.underlying5 g 0 n5 c5 _ hl5 (fun i hi => by rw [Nat.zero_add]; exact (ho5.spot hi).1) 9 Try.underlying9
    have hra := (HRA.out.below (Nat.le_refl _) HB5.out)
    have hcv2 : ∀ nq, (convert 22 9 (.slice (some ⟨b, o + a, none⟩) (P3 - a) (P3 - a))).run Try.prog (v5.drewN nq) = .ok (.string (strOfNums all)) (v5.drewN nq) :=
      fun nq => run_convert_bytes_arg (v5.drewN nq) 22 5 Try.underlying22 Try.underlying5 b (o + a) (P3 - a) (P3 - a) _ (by rw [HLA.out]; omega) (fun i hi => by
        obtain ⟨b2, o2, e2, _, hc2⟩ := hra.at_ (k := i) (by rw [HLA.out]; omega)
        injection e2 with e2
        injection e2 with e3 e4
        subst e3 e4
        exact hc2) 9 Try.underlying9
    have hle : (P3 : Int) ≤ (P3 : Int) := by omega
    have hsum : IntKind.i64.wrap (P3 : Int) = (P3 : Int) := IntWalk.i64_in _ (by omega)
    clear hl5 hp5 hra ho5 hx5
    obtain ⟨hne1, hne2⟩ := str_ne (ys := all) (frB_rng S dat HG2.out) HGA.out H6.out
    go_wp2_with fail
    go_quiet (fail)
    go_wp2_with fail
    refine bodyPost_ret (v := .tuple #[.int .i64 0, .slice none 0 0, .int .i64 0, .int .i64 6]) (by simp [results, Try.results23, go_sem]) rfl ⟨rfl, below_drewN HB5.out _⟩
  · have hcE' : P3 < c := by omega
    have HR2 := Lib.hid (rd_sub HR.out P3 Z (by rw [HL.out]; exact h5))
    generalize (zs.drop a).take (P3 + Z - a) = all at *
    generalize (zs.drop P3).take Z = dat at *
    clear hcE
    go_enter Try.func23, Try.ntmps23
    go_wp2_with fail
    refine (spec_GetVar_any _ n _ zs ((a : Int) + 1) _ ((HR.out.below (Nat.le_refl _) HB0.out).more HB0.out.size) hg HL.out hn hnc).mono ?_
    rintro e v1 ⟨he, hx1⟩
    unfold gvRet at he
    rw [HN.out.o1, HN.out.e1, HN.out.v1] at he
    subst he
    have HB1 := Lib.hid (HB0.out.trans (hx1.mono HB0.out.size))
    clear hx1
    go_wp2_with fail
    refine (spec_GetVar_any _ n _ zs (P1 : Int) _ ((HR.out.below (Nat.le_refl _) HB1.out).more HB1.out.size) hg HL.out hn hnc).mono ?_
    rintro e v2 ⟨he, hx2⟩
    unfold gvRet at he
    rw [HN.out.o2, HN.out.e2, HN.out.v2] at he
    subst he
    have HB2 := Lib.hid (HB1.out.trans (hx2.mono HB1.out.size))
    clear hx2
    go_wp2_with fail
    refine (spec_GetVar_any _ n _ zs (P2 : Int) _ ((HR.out.below (Nat.le_refl _) HB2.out).more HB2.out.size) hg HL.out hn hnc).mono ?_
    rintro e v3 ⟨he, hx3⟩
    unfold gvRet at he
    rw [HN.out.o3, HN.out.e3, HN.out.v3] at he
    subst he
    have HB3 := Lib.hid (HB2.out.trans (hx3.mono HB2.out.size))
    clear hx3
    have HR3 := Lib.hid ((HR2.out.below (Nat.le_refl _) HB3.out).more HB3.out.size)
    have hown : Own (v3.alloc (.cells #[] 5)) v3.heap.size (some ⟨v3.heap.size, 0, none⟩) 0 0 [] := World.ownsRow_lit v3 #[] 0 (Nat.le_refl _) (by decide) rfl
    have hbw : Below v3.heap.size v3 (v3.alloc (.cells #[] 5)) := (Below.refl _ _).alloc (Nat.le_refl _) _
    have HOW := Lib.hid hown
    have HBW := Lib.hid hbw
    have HR4 := Lib.hid (HR3.out.below (Nat.le_refl _) hbw)
    clear hown hbw
    go_wp2_with (at_builtin; refine append_src rfl _ _ rfl rfl rfl HOW.out HR4.out (fun h => nomatch h) (by rw [HL2.out]; omega) (by omega) (by omega) (by simp) ?_)
    intro A4 c4 v4 ho4 hx4
    have HB4 := Lib.hid (HB3.out.trans ((HBW.out.trans hx4).mono HB3.out.size))

    have HO4 := Lib.hid (ho4.more HB3.out.size)
    clear ho4 hx4
    go_wp2_with fail
    refine (spec_yes A4 Z c4 dat S _ (own_none HO4.out) HO4.out.rd HG2.out HL2.out (by omega) hs1 hs2).mono ?_
    rintro e v5 ⟨A5, n5, c5, rfl, ho5, hx5⟩
    have HB5 := Lib.hid (HB4.out.trans (hx5.mono HB4.out.size))
    have HO4' := Lib.hid (HO4.out.below (Nat.le_refl _) hx5)
    have hl5 := ho5.len
    have hp5 : 0 < (frB S dat).length := by unfold frB hd; simp
    obtain ⟨g, rfl, hg1, hg2⟩ := ho5.head (by omega)
    have hcv1 : ∀ nq, (convert 22 9 (.slice (some ⟨g, 0, none⟩) n5 c5)).run Try.prog (v5.drewN nq) = .ok (.string (strOfNums (frB S dat))) (v5.drewN nq) :=
      fun nq => run_convert_bytes_arg (v5.drewN nq) 22 5 Try.underlying22 Try.underlying5 g 0 n5 c5 _ hl5 (fun i hi => by rw [Nat.zero_add]; exact (ho5.spot hi).1) 9 Try.underlying9
    have hra := (HRA.out.below (Nat.le_refl _) HB5.out)
    have hcv2 : ∀ nq, (convert 22 9 (.slice (some ⟨b, o + a, none⟩) (P3 + Z - a) (c - a))).run Try.prog (v5.drewN nq) = .ok (.string (strOfNums all)) (v5.drewN nq) :=
      fun nq => run_convert_bytes_arg (v5.drewN nq) 22 5 Try.underlying22 Try.underlying5 b (o + a) (P3 + Z - a) (c - a) _ HLA.out (fun i hi => by
        obtain ⟨b2, o2, e2, _, hc2⟩ := hra.at_ (k := i) (by rw [HLA.out]; exact hi)
        injection e2 with e2
        injection e2 with e3 e4
        subst e3 e4
        exact hc2) 9 Try.underlying9
    have hle : (P3 : Int) + (Z : Int) ≤ (c : Int) := by omega
    have hsum : IntKind.i64.wrap ((P3 : Int) + (Z : Int)) = (P3 : Int) + (Z : Int) := IntWalk.i64_in _ (by omega)
    clear hl5 hp5 hra ho5 hx5
    obtain ⟨hne1, hne2⟩ := str_ne (ys := all) (frB_rng S dat HG2.out) HGA.out H6.out
    go_wp2_with fail
    go_quiet (fail)
    go_wp2_with fail
    refine bodyPost_ret (v := .tuple #[.int .i64 0, .slice none 0 0, .int .i64 0, .int .i64 6]) (by simp [results, Try.results23, go_sem]) rfl ⟨rfl, below_drewN HB5.out _⟩

set_option maxRecDepth 100000 in
set_option maxHeartbeats 3200000 in
theorem s_0 (A : Option Addr) (n c : Nat) (zs : List Int) (a P1 P2 P3 S Z C : Nat) (w : World) (hr : Rd w w.heap.size A zs) (hg : Rng zs) (hl : zs.length = n) (hn : n ≤ 1099511627776) (hnc : n ≤ c) (h0 : a < n) (hz : zs.getD a 0 = 167) (hN : Nums zs a P1 P2 P3 S Z C) (hp1 : a + 1 < P1) (hp2 : P1 < P2) (hp3 : P2 < P3) (hp4 : P3 ≤ n) (hS : S ≤ 4294967295) (hZ : Z ≤ 4294967295) (hC : C ≤ 4294967295) (hs1 : 1 ≤ S) (hs2 : S ≤ 1000000000) (hz4 : Z ≤ 60000) (h5 : P3 + Z ≤ n) (h6 : frB S ((zs.drop P3).take Z) = (zs.drop a).take (P3 + Z - a)) :
    Calls Try.prog 23 #[.slice A n c, .int .i64 a] w fun e w' => ∃ A' c', e = .returned (.tuple #[.int .i64 S, .slice A' Z c', .int .i64 ((P3 : Int) + (Z : Int)), .int .i64 0]) ∧ Own w' w.heap.size A' Z c' ((zs.drop P3).take Z) ∧ Below w.heap.size w w' := by
  have HL := Lib.hid hl
  have HG := Lib.hid hg
  have HR := Lib.hid hr
  clear hl
  obtain ⟨b, o, rfl, hB, hc⟩ := hr.at_ (k := a) (by rw [HL.out]; exact h0)
  have HZ := Lib.hid hz
  rw [hz] at hc
  clear hz hr
  have h0i : (a : Int) ≤ (n : Int) := by omega
  have hq : ((a : Int) == (n : Int)) = false := by simp; omega
  have hz' : ((167 : Int) != 167) = false := by simp
  have HN := Lib.hid hN
  have HB0 := Lib.hid (Below.refl w.heap.size w)
  clear hN
  have hs1' : (1 : Int) ≤ (S : Int) := by omega
  have hs2' : (S : Int) ≤ 1000000000 := by omega
  have hz4' : (Z : Int) ≤ 60000 := by omega
  have H6 := Lib.hid h6
  clear h6
  have hd5 : (Z : Int) ≤ (n : Int) - (P3 : Int) := by omega
  have HL2 := Lib.hid (show ((zs.drop P3).take Z).length = Z by rw [List.length_take, List.length_drop, HL.out]; omega)
  have HG2 := Lib.hid (rng_sub hg P3 Z)
  have HLA := Lib.hid (show ((zs.drop a).take (P3 + Z - a)).length = P3 + Z - a by rw [List.length_take, List.length_drop, HL.out]; omega)
  have HGA := Lib.hid (rng_sub hg a (P3 + Z - a))
  have HRA := Lib.hid (rd_sub HR.out a (P3 + Z - a) (by rw [HL.out]; omega))
  by_cases hcE : P3 = c
  · subst hcE
    obtain rfl : Z = 0 := by omega
    have hd6 : ¬ (n : Int) - (P3 : Int) < 0 := by omega
    have HR2 := Lib.hid (show Rd w w.heap.size (some ⟨b, o, none⟩) ((zs.drop P3).take 0) by rw [List.take_zero]; exact rd_nil _ _ _)
    generalize hHA : (zs.drop a).take (P3 + 0 - a) = all at *
    generalize hHD : (zs.drop P3).take 0 = dat at *
    clear hHA hHD
    go_enter Try.func23, Try.ntmps23
    go_wp2_with fail
    refine (spec_GetVar_any _ n _ zs ((a : Int) + 1) _ ((HR.out.below (Nat.le_refl _) HB0.out).more HB0.out.size) hg HL.out hn hnc).mono ?_
    rintro e v1 ⟨he, hx1⟩
    unfold gvRet at he
    rw [HN.out.o1, HN.out.e1, HN.out.v1] at he
    subst he
    have HB1 := Lib.hid (HB0.out.trans (hx1.mono HB0.out.size))
    clear hx1
    go_wp2_with fail
    refine (spec_GetVar_any _ n _ zs (P1 : Int) _ ((HR.out.below (Nat.le_refl _) HB1.out).more HB1.out.size) hg HL.out hn hnc).mono ?_
    rintro e v2 ⟨he, hx2⟩
    unfold gvRet at he
    rw [HN.out.o2, HN.out.e2, HN.out.v2] at he
    subst he
    have HB2 := Lib.hid (HB1.out.trans (hx2.mono HB1.out.size))
    clear hx2
    go_wp2_with fail
    refine (spec_GetVar_any _ n _ zs (P2 : Int) _ ((HR.out.below (Nat.le_refl _) HB2.out).more HB2.out.size) hg HL.out hn hnc).mono ?_
    rintro e v3 ⟨he, hx3⟩
    unfold gvRet at he
    rw [HN.out.o3, HN.out.e3, HN.out.v3] at he
    subst he
    have HB3 := Lib.hid (HB2.out.trans (hx3.mono HB2.out.size))
    clear hx3
    have HR3 := Lib.hid ((HR2.out.below (Nat.le_refl _) HB3.out).more HB3.out.size)
    have hown : Own (v3.alloc (.cells #[] 5)) v3.heap.size (some ⟨v3.heap.size, 0, none⟩) 0 0 [] := World.ownsRow_lit v3 #[] 0 (Nat.le_refl _) (by decide) rfl
    have hbw : Below v3.heap.size v3 (v3.alloc (.cells #[] 5)) := (Below.refl _ _).alloc (Nat.le_refl _) _
    have HOW := Lib.hid hown
    have HBW := Lib.hid hbw
    have HR4 := Lib.hid (HR3.out.below (Nat.le_refl _) hbw)
    clear hown hbw
    go_wp2_with (at_builtin; refine append_src rfl _ _ rfl rfl rfl HOW.out HR4.out (fun h => nomatch h) HL2.out (by omega) (by omega) (by simp) ?_)
    intro A4 c4 v4 ho4 hx4
    have HB4 := Lib.hid (HB3.out.trans ((HBW.out.trans hx4).mono HB3.out.size))

    have HO4 := Lib.hid (ho4.more HB3.out.size)
    clear ho4 hx4
    go_wp2_with fail
    refine (spec_yes A4 0 c4 dat S _ (own_none HO4.out) HO4.out.rd HG2.out HL2.out (by omega) hs1 hs2).mono ?_
    rintro e v5 ⟨A5, n5, c5, rfl, ho5, hx5⟩
    have HB5 := Lib.hid (HB4.out.trans (hx5.mono HB4.out.size))
    have HO4' := Lib.hid (HO4.out.below (Nat.le_refl _) hx5)
    have hl5 := ho5.len
    have hp5 : 0 < (frB S dat).length := by unfold frB hd; simp
    obtain ⟨g, rfl, hg1, hg2⟩ := ho5.head (by omega)
    have hcv1 : ∀ nq, (convert 22 9 (.slice (some ⟨g, 0, none⟩) n5 c5)).run Try.prog (v5.drewN nq) = .ok (.string (strOfNums (frB S dat))) (v5.drewN nq) :=
      fun nq => run_convert_bytes_arg (v5.drewN nq) 22 5 Try.underlying22 Try.underlying5 g 0 n5 c5 _ hl5 (fun i hi => by rw [Nat.zero_add]; exact (ho5.spot hi).1) 9 Try.underlying9
    have hra := (HRA.out.below (Nat.le_refl _) HB5.out)
    have hcv2 : ∀ nq, (convert 22 9 (.slice (some ⟨b, o + a, none⟩) (P3 - a) (P3 - a))).run Try.prog (v5.drewN nq) = .ok (.string (strOfNums all)) (v5.drewN nq) :=
      fun nq => run_convert_bytes_arg (v5.drewN nq) 22 5 Try.underlying22 Try.underlying5 b (o + a) (P3 - a) (P3 - a) _ (by rw [HLA.out]; omega) (fun i hi => by
        obtain ⟨b2, o2, e2, _, hc2⟩ := hra.at_ (k := i) (by rw [HLA.out]; omega)
        injection e2 with e2
        injection e2 with e3 e4
        subst e3 e4
        exact hc2) 9 Try.underlying9
    have hle : (P3 : Int) ≤ (P3 : Int) := by omega
    have hsum : IntKind.i64.wrap (P3 : Int) = (P3 : Int) := IntWalk.i64_in _ (by omega)
    clear hl5 hp5 hra ho5 hx5
    obtain ⟨hne1, hne2⟩ := str_eq (ys := all) H6.out
    go_wp2_with fail
    go_quiet (fail)
    go_wp2_with fail
    refine bodyPost_ret (v := .tuple #[.int .i64 S, .slice A4 0 c4, .int .i64 (P3 : Int), .int .i64 0]) (by simp [results, Try.results23, go_sem]) rfl ⟨_, _, by simp, HO4'.out.below (Nat.le_refl _) (below_drewN (Below.refl _ _) _), below_drewN HB5.out _⟩
  · have hcE' : P3 < c := by omega
    have HR2 := Lib.hid (rd_sub HR.out P3 Z (by rw [HL.out]; exact h5))
    generalize (zs.drop a).take (P3 + Z - a) = all at *
    generalize (zs.drop P3).take Z = dat at *
    clear hcE
    go_enter Try.func23, Try.ntmps23
    go_wp2_with fail
    refine (spec_GetVar_any _ n _ zs ((a : Int) + 1) _ ((HR.out.below (Nat.le_refl _) HB0.out).more HB0.out.size) hg HL.out hn hnc).mono ?_
    rintro e v1 ⟨he, hx1⟩
    unfold gvRet at he
    rw [HN.out.o1, HN.out.e1, HN.out.v1] at he
    subst he
    have HB1 := Lib.hid (HB0.out.trans (hx1.mono HB0.out.size))
    clear hx1
    go_wp2_with fail
    refine (spec_GetVar_any _ n _ zs (P1 : Int) _ ((HR.out.below (Nat.le_refl _) HB1.out).more HB1.out.size) hg HL.out hn hnc).mono ?_
    rintro e v2 ⟨he, hx2⟩
    unfold gvRet at he
    rw [HN.out.o2, HN.out.e2, HN.out.v2] at he
    subst he
    have HB2 := Lib.hid (HB1.out.trans (hx2.mono HB1.out.size))
    clear hx2
    go_wp2_with fail
    refine (spec_GetVar_any _ n _ zs (P2 : Int) _ ((HR.out.below (Nat.le_refl _) HB2.out).more HB2.out.size) hg HL.out hn hnc).mono ?_
    rintro e v3 ⟨he, hx3⟩
    unfold gvRet at he
    rw [HN.out.o3, HN.out.e3, HN.out.v3] at he
    subst he
    have HB3 := Lib.hid (HB2.out.trans (hx3.mono HB2.out.size))
    clear hx3
    have HR3 := Lib.hid ((HR2.out.below (Nat.le_refl _) HB3.out).more HB3.out.size)
    have hown : Own (v3.alloc (.cells #[] 5)) v3.heap.size (some ⟨v3.heap.size, 0, none⟩) 0 0 [] := World.ownsRow_lit v3 #[] 0 (Nat.le_refl _) (by decide) rfl
    have hbw : Below v3.heap.size v3 (v3.alloc (.cells #[] 5)) := (Below.refl _ _).alloc (Nat.le_refl _) _
    have HOW := Lib.hid hown
    have HBW := Lib.hid hbw
    have HR4 := Lib.hid (HR3.out.below (Nat.le_refl _) hbw)
    clear hown hbw
    go_wp2_with (at_builtin; refine append_src rfl _ _ rfl rfl rfl HOW.out HR4.out (fun h => nomatch h) (by rw [HL2.out]; omega) (by omega) (by omega) (by simp) ?_)
    intro A4 c4 v4 ho4 hx4
    have HB4 := Lib.hid (HB3.out.trans ((HBW.out.trans hx4).mono HB3.out.size))

    have HO4 := Lib.hid (ho4.more HB3.out.size)
    clear ho4 hx4
    go_wp2_with fail
    refine (spec_yes A4 Z c4 dat S _ (own_none HO4.out) HO4.out.rd HG2.out HL2.out (by omega) hs1 hs2).mono ?_
    rintro e v5 ⟨A5, n5, c5, rfl, ho5, hx5⟩
    have HB5 := Lib.hid (HB4.out.trans (hx5.mono HB4.out.size))
    have HO4' := Lib.hid (HO4.out.below (Nat.le_refl _) hx5)
    have hl5 := ho5.len
    have hp5 : 0 < (frB S dat).length := by unfold frB hd; simp
    obtain ⟨g, rfl, hg1, hg2⟩ := ho5.head (by omega)
    have hcv1 : ∀ nq, (convert 22 9 (.slice (some ⟨g, 0, none⟩) n5 c5)).run Try.prog (v5.drewN nq) = .ok (.string (strOfNums (frB S dat))) (v5.drewN nq) :=
      fun nq => run_convert_bytes_arg (v5.drewN nq) 22 5 Try.underlying22 Try.underlying5 g 0 n5 c5 _ hl5 (fun i hi => by rw [Nat.zero_add]; exact (ho5.spot hi).1) 9 Try.underlying9
    have hra := (HRA.out.below (Nat.le_refl _) HB5.out)
    have hcv2 : ∀ nq, (convert 22 9 (.slice (some ⟨b, o + a, none⟩) (P3 + Z - a) (c - a))).run Try.prog (v5.drewN nq) = .ok (.string (strOfNums all)) (v5.drewN nq) :=
      fun nq => run_convert_bytes_arg (v5.drewN nq) 22 5 Try.underlying22 Try.underlying5 b (o + a) (P3 + Z - a) (c - a) _ HLA.out (fun i hi => by
        obtain ⟨b2, o2, e2, _, hc2⟩ := hra.at_ (k := i) (by rw [HLA.out]; exact hi)
        injection e2 with e2
        injection e2 with e3 e4
        subst e3 e4
        exact hc2) 9 Try.underlying9
    have hle : (P3 : Int) + (Z : Int) ≤ (c : Int) := by omega
    have hsum : IntKind.i64.wrap ((P3 : Int) + (Z : Int)) = (P3 : Int) + (Z : Int) := IntWalk.i64_in _ (by omega)
    clear hl5 hp5 hra ho5 hx5
    obtain ⟨hne1, hne2⟩ := str_eq (ys := all) H6.out
    go_wp2_with fail
    go_quiet (fail)
    go_wp2_with fail
    refine bodyPost_ret (v := .tuple #[.int .i64 S, .slice A4 Z c4, .int .i64 ((P3 : Int) + (Z : Int)), .int .i64 0]) (by simp [results, Try.results23, go_sem]) rfl ⟨_, _, rfl, HO4'.out.below (Nat.le_refl _) (below_drewN (Below.refl _ _) _), below_drewN HB5.out _⟩


/-! ### at every offset -/
theorem spec_FrameRead_any (A : Option Addr) (n c : Nat) (zs : List Int) (a : Int) (w : World) (hr : Rd w w.heap.size A zs) (hg : Rng zs) (hl : zs.length = n) (hn : n ≤ 1099511627776) (hnc : n ≤ c) (g1 : -9223372036854775808 ≤ a) (g2 : a ≤ 9223372036854775807) :
    Calls Try.prog 23 #[.slice A n c, .int .i64 a] w fun e w' => ∃ A' n' c', e = .returned (.tuple #[.int .i64 (frSeq zs a), .slice A' n' c', .int .i64 (frNext zs a), .int .i64 (frC zs a)]) ∧ Own w' w.heap.size A' n' c' (frData zs a) ∧ Below w.heap.size w w' := by
  have bad : ∀ k : Nat, 0 < k → frC zs a = k → Calls Try.prog 23 #[.slice A n c, .int .i64 a] w (fun e w' => e = .returned (.tuple #[.int .i64 0, .slice none 0 0, .int .i64 0, .int .i64 k]) ∧ Below w.heap.size w w') →
      Calls Try.prog 23 #[.slice A n c, .int .i64 a] w fun e w' => ∃ A' n' c', e = .returned (.tuple #[.int .i64 (frSeq zs a), .slice A' n' c', .int .i64 (frNext zs a), .int .i64 (frC zs a)]) ∧ Own w' w.heap.size A' n' c' (frData zs a) ∧ Below w.heap.size w w' := by
    intro k hp hk hc
    obtain ⟨f1, f2, f3⟩ := fr_bad (zs := zs) (a := a) (by omega)
    rw [f1, f2, f3, hk]
    exact hc.mono fun e w' ⟨h1, h2⟩ => ⟨none, 0, 0, h1, own_nil _ _, h2⟩
  by_cases h1 : a < 0 ∨ (zs.length : Int) < a
  · exact bad 1 (by omega) (frC_1 h1) (s_1 A n c zs a w hr hg hl hn hnc (by rw [← hl]; exact h1))
  · obtain ⟨a, rfl⟩ := Int.eq_ofNat_of_zero_le (show 0 ≤ a by omega)
    by_cases h2 : a = zs.length ∨ zs.getD a 0 ≠ 167
    · exact bad 2 (by omega) (frC_2 (by omega) h2) (s_2 A n c zs a w hr hg hl hn hnc (by omega) (by rw [← hl]; exact h2))
    · have h0 : a < n := by omega
      have hz : zs.getD a 0 = 167 := Classical.byContradiction fun h' => h2 (.inr h')
      have h0' : a < zs.length := by omega
      cases h3 : fOk3 zs (a : Int)
      · exact bad 3 (by omega) (frC_3 h0' hz h3) (s_3 A n c zs a w hr hg hl hn hnc h0 hz h3)
      · obtain ⟨P1, P2, P3, S, Z, C, hN, b1, b2, b3, b4, b5, b6, b7, b8, e1, e2, e3, e4, e5, e6⟩ := nums_of h3
        by_cases h4 : S < 1 ∨ 1000000000 < S ∨ 60000 < Z
        · exact bad 4 (by omega) (frC_4 h0' hz h3 (by rw [e1, e2]; omega)) (s_4 A n c zs a P1 P2 P3 S Z C w hr hg hl hn hnc h0 hz hN b1 b2 b3 (by omega) b6 b7 b8 h4)
        · by_cases h5 : n < P3 + Z
          · exact bad 5 (by omega) (frC_5 h0' hz h3 (by rw [e1, e2]; omega) (by rw [e2, e4]; omega)) (s_5 A n c zs a P1 P2 P3 S Z C w hr hg hl hn hnc h0 hz hN b1 b2 b3 (by omega) b6 b7 b8 (by omega) (by omega) (by omega) h5)
          · have hag := fr_again hg h0' hz h3 (by rw [e2, e4]; omega)
            rw [e1, e3, e4, e2, e5, e6, Int.toNat_natCast, Int.toNat_natCast, Int.toNat_natCast] at hag
            by_cases h6 : C = crcN ((zs.drop a).take (P2 - a) ++ (zs.drop P3).take Z)
            · have h7 := frC_0 h0' hz h3 (by rw [e1, e2]; omega) (by rw [e2, e4]; omega) (by rw [e3, e5, e6, h6])
              obtain ⟨f1, f2, f3⟩ := fr_good h7
              rw [f1, f2, f3, h7, e1, e4, e2, e5]
              refine (s_0 A n c zs a P1 P2 P3 S Z C w hr hg hl hn hnc h0 hz hN b1 b2 b3 (by omega) b6 b7 b8 (by omega) (by omega) (by omega) (by omega) (hag.2 (by omega))).mono ?_
              rintro e w' ⟨A', c', rfl, ho, hb⟩
              exact ⟨A', Z, c', rfl, ho, hb⟩
            · exact bad 6 (by omega) (frC_6 h0' hz h3 (by rw [e1, e2]; omega) (by rw [e2, e4]; omega) (by rw [e3, e5, e6]; intro e; exact h6 (by omega)))
                (s_6 A n c zs a P1 P2 P3 S Z C w hr hg hl hn hnc h0 hz hN b1 b2 b3 (by omega) b6 b7 b8 (by omega) (by omega) (by omega) (by omega) (fun e => h6 (by have := hag.1 e; omega)))
end Go.Proofs.Ytmlodfceepokoaa.Frame
