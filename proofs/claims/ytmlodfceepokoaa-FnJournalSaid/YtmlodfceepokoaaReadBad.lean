/- Contract of the reading of a frame, in the model: the codes 1 to 5. -/
import Derived.Test.YtmlodfceepokoaaFrameRead
import Derived.Test.YtmlodfceepokoaaFrameSpec
import Derived.Test.YtmlodfceepokoaaGetSpec
namespace Go.Proofs.Ytmlodfceepokoaa.Frame
open Go.RowKit Go.Proofs.Ytmlodfceepokoaa.Bytes Go.Proofs.Ytmlodfceepokoaa.Var Go.Proofs.Ytmlodfceepokoaa.Crc
set_option linter.unusedVariables false

set_option maxRecDepth 100000 in
set_option maxHeartbeats 1600000 in
theorem s_1 (A : Option Addr) (n c : Nat) (zs : List Int) (a : Int) (w : World) (hr : Rd w w.heap.size A zs) (hg : Rng zs) (hl : zs.length = n) (hn : n ≤ 1099511627776) (hnc : n ≤ c) (h : a < 0 ∨ (n : Int) < a) :
    Calls Try.prog 23 #[.slice A n c, .int .i64 a] w fun e w' => e = .returned (.tuple #[.int .i64 0, .slice none 0 0, .int .i64 0, .int .i64 1]) ∧ Below w.heap.size w w' := by
  clear hg hr
  by_cases h0 : a < 0
  · clear h
    go_enter Try.func23, Try.ntmps23
    go_wp2_with fail
    refine bodyPost_ret (v := .tuple #[.int .i64 0, .slice none 0 0, .int .i64 0, .int .i64 1]) (by simp [results, Try.results23, go_sem]) rfl ⟨rfl, Below.refl _ _⟩
  · have h0' : 0 ≤ a := by omega
    have h1 : (n : Int) < a := by omega
    clear h h0
    go_enter Try.func23, Try.ntmps23
    go_wp2_with fail
    refine bodyPost_ret (v := .tuple #[.int .i64 0, .slice none 0 0, .int .i64 0, .int .i64 1]) (by simp [results, Try.results23, go_sem]) rfl ⟨rfl, Below.refl _ _⟩

set_option maxRecDepth 100000 in
set_option maxHeartbeats 1600000 in
theorem s_2 (A : Option Addr) (n c : Nat) (zs : List Int) (a : Nat) (w : World) (hr : Rd w w.heap.size A zs) (hg : Rng zs) (hl : zs.length = n) (hn : n ≤ 1099511627776) (hnc : n ≤ c) (h0 : a ≤ n) (h : a = n ∨ zs.getD a 0 ≠ 167) :
    Calls Try.prog 23 #[.slice A n c, .int .i64 a] w fun e w' => e = .returned (.tuple #[.int .i64 0, .slice none 0 0, .int .i64 0, .int .i64 2]) ∧ Below w.heap.size w w' := by
  have HL := Lib.hid hl
  clear hl
  have h0i : (a : Int) ≤ (n : Int) := by omega
  by_cases h1 : a = n
  · subst h1
    clear h h0 hg hr
    have hq : ((a : Int) == (a : Int)) = true := by simp
    go_enter Try.func23, Try.ntmps23
    go_wp2_with fail
    refine bodyPost_ret (v := .tuple #[.int .i64 0, .slice none 0 0, .int .i64 0, .int .i64 2]) (by simp [results, Try.results23, go_sem]) rfl ⟨rfl, Below.refl _ _⟩
  · have h2 : a < n := by omega
    have hz := h.resolve_left h1
    have hq : ((a : Int) == (n : Int)) = false := by simp; omega
    clear h h0 h1
    obtain ⟨b, o, rfl, hB, hc⟩ := hr.at_ (k := a) (by rw [HL.out]; exact h2)
    clear hr hg
    generalize zs.getD a 0 = z at *
    have hz' : (z != 167) = true := by simp; exact hz
    have HZ := Lib.hid hz
    clear hz
    go_enter Try.func23, Try.ntmps23
    go_wp2_with fail
    refine bodyPost_ret (v := .tuple #[.int .i64 0, .slice none 0 0, .int .i64 0, .int .i64 2]) (by simp [results, Try.results23, go_sem]) rfl ⟨rfl, Below.refl _ _⟩

set_option maxRecDepth 100000 in
set_option maxHeartbeats 3200000 in
theorem s_3 (A : Option Addr) (n c : Nat) (zs : List Int) (a : Nat) (w : World) (hr : Rd w w.heap.size A zs) (hg : Rng zs) (hl : zs.length = n) (hn : n ≤ 1099511627776) (hnc : n ≤ c) (h0 : a < n) (hz : zs.getD a 0 = 167) (h : fOk3 zs a = false) :
    Calls Try.prog 23 #[.slice A n c, .int .i64 a] w fun e w' => e = .returned (.tuple #[.int .i64 0, .slice none 0 0, .int .i64 0, .int .i64 3]) ∧ Below w.heap.size w w' := by
  have HL := Lib.hid hl
  have HG := Lib.hid hg
  have HR := Lib.hid hr
  clear hl
  obtain ⟨b, o, rfl, hB, hc⟩ := hr.at_ (k := a) (by rw [HL.out]; exact h0)
  have HZ := Lib.hid hz
  rw [hz] at hc
  clear hz hr
  have h0i : (a : Int) ≤ (n : Int) := by omega
  have hq : ((a : Int) == (n : Int)) = false := by simp; omega
  have hz' : ((167 : Int) != 167) = false := by simp
  have HB0 := Lib.hid (Below.refl w.heap.size w)
  have H3 := Lib.hid h
  obtain ⟨o1, ho1⟩ : ∃ x, x = gvOk zs ((a : Int) + 1) := ⟨_, rfl⟩
  obtain ⟨q1, hq1⟩ : ∃ x, x = gvE zs ((a : Int) + 1) := ⟨_, rfl⟩
  obtain ⟨v1, hv1⟩ : ∃ x, x = gvN zs ((a : Int) + 1) := ⟨_, rfl⟩
  obtain ⟨o2, ho2⟩ : ∃ x, x = gvOk zs q1 := ⟨_, rfl⟩
  obtain ⟨q2, hq2⟩ : ∃ x, x = gvE zs q1 := ⟨_, rfl⟩
  obtain ⟨v2, hv2⟩ : ∃ x, x = gvN zs q1 := ⟨_, rfl⟩
  obtain ⟨o3, ho3⟩ : ∃ x, x = gvOk zs q2 := ⟨_, rfl⟩
  obtain ⟨q3, hq3⟩ : ∃ x, x = gvE zs q2 := ⟨_, rfl⟩
  obtain ⟨v3, hv3⟩ : ∃ x, x = gvN zs q2 := ⟨_, rfl⟩
  have hand : (o1 && o2 && o3) = false := by
    have := H3.out
    unfold fOk3 at this
    rw [show p2 zs a = q2 by rw [hq2, hq1]; rfl, show p1 zs a = q1 by rw [hq1]; rfl] at this
    rw [ho1, ho2, ho3]; exact this
  have E1 := Lib.hid (And.intro ho1.symm (And.intro hq1.symm hv1.symm))
  have E2 := Lib.hid (And.intro ho2.symm (And.intro hq2.symm hv2.symm))
  have E3 := Lib.hid (And.intro ho3.symm (And.intro hq3.symm hv3.symm))
  clear h ho1 hq1 hv1 ho2 hq2 hv2 ho3 hq3 hv3
  rcases o1 with _ | _ <;> rcases o2 with _ | _ <;> rcases o3 with _ | _ <;> first | (exfalso; revert hand; decide) | skip
  all_goals
    clear hand
    go_enter Try.func23, Try.ntmps23
    go_wp2_with fail
    refine (spec_GetVar_any _ n _ zs ((a : Int) + 1) _ ((HR.out.below (Nat.le_refl _) HB0.out).more HB0.out.size) hg HL.out hn hnc).mono ?_
    rintro e v1 ⟨he, hx1⟩
    unfold gvRet at he
    rw [E1.out.1, E1.out.2.1, E1.out.2.2] at he
    subst he
    have HB1 := Lib.hid (HB0.out.trans (hx1.mono HB0.out.size))
    clear hx1
    go_wp2_with fail
    refine (spec_GetVar_any _ n _ zs q1 _ ((HR.out.below (Nat.le_refl _) HB1.out).more HB1.out.size) hg HL.out hn hnc).mono ?_
    rintro e v2 ⟨he, hx2⟩
    unfold gvRet at he
    rw [E2.out.1, E2.out.2.1, E2.out.2.2] at he
    subst he
    have HB2 := Lib.hid (HB1.out.trans (hx2.mono HB1.out.size))
    clear hx2
    go_wp2_with fail
    refine (spec_GetVar_any _ n _ zs q2 _ ((HR.out.below (Nat.le_refl _) HB2.out).more HB2.out.size) hg HL.out hn hnc).mono ?_
    rintro e v3 ⟨he, hx3⟩
    unfold gvRet at he
    rw [E3.out.1, E3.out.2.1, E3.out.2.2] at he
    subst he
    have HB3 := Lib.hid (HB2.out.trans (hx3.mono HB2.out.size))
    clear hx3
    go_wp2_with fail
    refine bodyPost_ret (v := .tuple #[.int .i64 0, .slice none 0 0, .int .i64 0, .int .i64 3]) (by simp [results, Try.results23, go_sem]) rfl ⟨rfl, HB3.out⟩

set_option maxRecDepth 100000 in
set_option maxHeartbeats 1600000 in
theorem s_4 (A : Option Addr) (n c : Nat) (zs : List Int) (a P1 P2 P3 S Z C : Nat) (w : World) (hr : Rd w w.heap.size A zs) (hg : Rng zs) (hl : zs.length = n) (hn : n ≤ 1099511627776) (hnc : n ≤ c) (h0 : a < n) (hz : zs.getD a 0 = 167) (hN : Nums zs a P1 P2 P3 S Z C) (hp1 : a + 1 < P1) (hp2 : P1 < P2) (hp3 : P2 < P3) (hp4 : P3 ≤ n) (hS : S ≤ 4294967295) (hZ : Z ≤ 4294967295) (hC : C ≤ 4294967295) (h : S < 1 ∨ 1000000000 < S ∨ 60000 < Z) :
    Calls Try.prog 23 #[.slice A n c, .int .i64 a] w fun e w' => e = .returned (.tuple #[.int .i64 0, .slice none 0 0, .int .i64 0, .int .i64 4]) ∧ Below w.heap.size w w' := by
  have HL := Lib.hid hl
  have HG := Lib.hid hg
  have HR := Lib.hid hr
  clear hl
  obtain ⟨b, o, rfl, hB, hc⟩ := hr.at_ (k := a) (by rw [HL.out]; exact h0)
  have HZ := Lib.hid hz
  rw [hz] at hc
  clear hz hr
  have h0i : (a : Int) ≤ (n : Int) := by omega
  have hq : ((a : Int) == (n : Int)) = false := by simp; omega
  have hz' : ((167 : Int) != 167) = false := by simp
  have HN := Lib.hid hN
  have HB0 := Lib.hid (Below.refl w.heap.size w)
  clear hN
  by_cases hs1 : S < 1
  · obtain rfl : S = 0 := by omega
    clear h
    go_enter Try.func23, Try.ntmps23
    go_wp2_with fail
    refine (spec_GetVar_any _ n _ zs ((a : Int) + 1) _ ((HR.out.below (Nat.le_refl _) HB0.out).more HB0.out.size) hg HL.out hn hnc).mono ?_
    rintro e v1 ⟨he, hx1⟩
    unfold gvRet at he
    rw [HN.out.o1, HN.out.e1, HN.out.v1] at he
    subst he
    have HB1 := Lib.hid (HB0.out.trans (hx1.mono HB0.out.size))
    clear hx1
    go_wp2_with fail
    refine (spec_GetVar_any _ n _ zs (P1 : Int) _ ((HR.out.below (Nat.le_refl _) HB1.out).more HB1.out.size) hg HL.out hn hnc).mono ?_
    rintro e v2 ⟨he, hx2⟩
    unfold gvRet at he
    rw [HN.out.o2, HN.out.e2, HN.out.v2] at he
    subst he
    have HB2 := Lib.hid (HB1.out.trans (hx2.mono HB1.out.size))
    clear hx2
    go_wp2_with fail
    refine (spec_GetVar_any _ n _ zs (P2 : Int) _ ((HR.out.below (Nat.le_refl _) HB2.out).more HB2.out.size) hg HL.out hn hnc).mono ?_
    rintro e v3 ⟨he, hx3⟩
    unfold gvRet at he
    rw [HN.out.o3, HN.out.e3, HN.out.v3] at he
    subst he
    have HB3 := Lib.hid (HB2.out.trans (hx3.mono HB2.out.size))
    clear hx3
    go_wp2_with fail
    refine bodyPost_ret (v := .tuple #[.int .i64 0, .slice none 0 0, .int .i64 0, .int .i64 4]) (by simp [results, Try.results23, go_sem]) rfl ⟨rfl, HB3.out⟩
  · have hs1' : (1 : Int) ≤ (S : Int) := by omega
    by_cases hs2 : 1000000000 < S
    · have hs2' : (1000000000 : Int) < (S : Int) := by omega
      clear h
      go_enter Try.func23, Try.ntmps23
      go_wp2_with fail
      refine (spec_GetVar_any _ n _ zs ((a : Int) + 1) _ ((HR.out.below (Nat.le_refl _) HB0.out).more HB0.out.size) hg HL.out hn hnc).mono ?_
      rintro e v1 ⟨he, hx1⟩
      unfold gvRet at he
      rw [HN.out.o1, HN.out.e1, HN.out.v1] at he
      subst he
      have HB1 := Lib.hid (HB0.out.trans (hx1.mono HB0.out.size))
      clear hx1
      go_wp2_with fail
      refine (spec_GetVar_any _ n _ zs (P1 : Int) _ ((HR.out.below (Nat.le_refl _) HB1.out).more HB1.out.size) hg HL.out hn hnc).mono ?_
      rintro e v2 ⟨he, hx2⟩
      unfold gvRet at he
      rw [HN.out.o2, HN.out.e2, HN.out.v2] at he
      subst he
      have HB2 := Lib.hid (HB1.out.trans (hx2.mono HB1.out.size))
      clear hx2
      go_wp2_with fail
      refine (spec_GetVar_any _ n _ zs (P2 : Int) _ ((HR.out.below (Nat.le_refl _) HB2.out).more HB2.out.size) hg HL.out hn hnc).mono ?_
      rintro e v3 ⟨he, hx3⟩
      unfold gvRet at he
      rw [HN.out.o3, HN.out.e3, HN.out.v3] at he
      subst he
      have HB3 := Lib.hid (HB2.out.trans (hx3.mono HB2.out.size))
      clear hx3
      go_wp2_with fail
      refine bodyPost_ret (v := .tuple #[.int .i64 0, .slice none 0 0, .int .i64 0, .int .i64 4]) (by simp [results, Try.results23, go_sem]) rfl ⟨rfl, HB3.out⟩
    · have hs2' : (S : Int) ≤ 1000000000 := by omega
      have hz4 : (60000 : Int) < (Z : Int) := by omega
      clear h
      go_enter Try.func23, Try.ntmps23
      go_wp2_with fail
      refine (spec_GetVar_any _ n _ zs ((a : Int) + 1) _ ((HR.out.below (Nat.le_refl _) HB0.out).more HB0.out.size) hg HL.out hn hnc).mono ?_
      rintro e v1 ⟨he, hx1⟩
      unfold gvRet at he
      rw [HN.out.o1, HN.out.e1, HN.out.v1] at he
      subst he
      have HB1 := Lib.hid (HB0.out.trans (hx1.mono HB0.out.size))
      clear hx1
      go_wp2_with fail
      refine (spec_GetVar_any _ n _ zs (P1 : Int) _ ((HR.out.below (Nat.le_refl _) HB1.out).more HB1.out.size) hg HL.out hn hnc).mono ?_
      rintro e v2 ⟨he, hx2⟩
      unfold gvRet at he
      rw [HN.out.o2, HN.out.e2, HN.out.v2] at he
      subst he
      have HB2 := Lib.hid (HB1.out.trans (hx2.mono HB1.out.size))
      clear hx2
      go_wp2_with fail
      refine (spec_GetVar_any _ n _ zs (P2 : Int) _ ((HR.out.below (Nat.le_refl _) HB2.out).more HB2.out.size) hg HL.out hn hnc).mono ?_
      rintro e v3 ⟨he, hx3⟩
      unfold gvRet at he
      rw [HN.out.o3, HN.out.e3, HN.out.v3] at he
      subst he
      have HB3 := Lib.hid (HB2.out.trans (hx3.mono HB2.out.size))
      clear hx3
      go_wp2_with fail
      refine bodyPost_ret (v := .tuple #[.int .i64 0, .slice none 0 0, .int .i64 0, .int .i64 4]) (by simp [results, Try.results23, go_sem]) rfl ⟨rfl, HB3.out⟩

set_option maxRecDepth 100000 in
set_option maxHeartbeats 1600000 in
theorem s_5 (A : Option Addr) (n c : Nat) (zs : List Int) (a P1 P2 P3 S Z C : Nat) (w : World) (hr : Rd w w.heap.size A zs) (hg : Rng zs) (hl : zs.length = n) (hn : n ≤ 1099511627776) (hnc : n ≤ c) (h0 : a < n) (hz : zs.getD a 0 = 167) (hN : Nums zs a P1 P2 P3 S Z C) (hp1 : a + 1 < P1) (hp2 : P1 < P2) (hp3 : P2 < P3) (hp4 : P3 ≤ n) (hS : S ≤ 4294967295) (hZ : Z ≤ 4294967295) (hC : C ≤ 4294967295) (hs1 : 1 ≤ S) (hs2 : S ≤ 1000000000) (hz4 : Z ≤ 60000) (h5 : n < P3 + Z) :
    Calls Try.prog 23 #[.slice A n c, .int .i64 a] w fun e w' => e = .returned (.tuple #[.int .i64 0, .slice none 0 0, .int .i64 0, .int .i64 5]) ∧ Below w.heap.size w w' := by
  have HL := Lib.hid hl
  have HG := Lib.hid hg
  have HR := Lib.hid hr
  clear hl
  obtain ⟨b, o, rfl, hB, hc⟩ := hr.at_ (k := a) (by rw [HL.out]; exact h0)
  have HZ := Lib.hid hz
  rw [hz] at hc
  clear hz hr
  have h0i : (a : Int) ≤ (n : Int) := by omega
  have hq : ((a : Int) == (n : Int)) = false := by simp; omega
  have hz' : ((167 : Int) != 167) = false := by simp
  have HN := Lib.hid hN
  have HB0 := Lib.hid (Below.refl w.heap.size w)
  clear hN
  have hs1' : (1 : Int) ≤ (S : Int) := by omega
  have hs2' : (S : Int) ≤ 1000000000 := by omega
  have hz4' : (Z : Int) ≤ 60000 := by omega
  have hd5 : (n : Int) - (P3 : Int) < (Z : Int) := by omega
  go_enter Try.func23, Try.ntmps23
  go_wp2_with fail
  refine (spec_GetVar_any _ n _ zs ((a : Int) + 1) _ ((HR.out.below (Nat.le_refl _) HB0.out).more HB0.out.size) hg HL.out hn hnc).mono ?_
  rintro e v1 ⟨he, hx1⟩
  unfold gvRet at he
  rw [HN.out.o1, HN.out.e1, HN.out.v1] at he
  subst he
  have HB1 := Lib.hid (HB0.out.trans (hx1.mono HB0.out.size))
  clear hx1
  go_wp2_with fail
  refine (spec_GetVar_any _ n _ zs (P1 : Int) _ ((HR.out.below (Nat.le_refl _) HB1.out).more HB1.out.size) hg HL.out hn hnc).mono ?_
  rintro e v2 ⟨he, hx2⟩
  unfold gvRet at he
  rw [HN.out.o2, HN.out.e2, HN.out.v2] at he
  subst he
  have HB2 := Lib.hid (HB1.out.trans (hx2.mono HB1.out.size))
  clear hx2
  go_wp2_with fail
  refine (spec_GetVar_any _ n _ zs (P2 : Int) _ ((HR.out.below (Nat.le_refl _) HB2.out).more HB2.out.size) hg HL.out hn hnc).mono ?_
  rintro e v3 ⟨he, hx3⟩
  unfold gvRet at he
  rw [HN.out.o3, HN.out.e3, HN.out.v3] at he
  subst he
  have HB3 := Lib.hid (HB2.out.trans (hx3.mono HB2.out.size))
  clear hx3
  go_wp2_with fail
  refine bodyPost_ret (v := .tuple #[.int .i64 0, .slice none 0 0, .int .i64 0, .int .i64 5]) (by simp [results, Try.results23, go_sem]) rfl ⟨rfl, HB3.out⟩

end Go.Proofs.Ytmlodfceepokoaa.Frame
