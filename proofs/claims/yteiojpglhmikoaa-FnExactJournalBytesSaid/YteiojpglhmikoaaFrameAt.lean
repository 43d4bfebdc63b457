/- Contract of the decoding of a frame at an offset, in the program: it answers, or gives up with its code. -/
import Derived.Test.YteiojpglhmikoaaCloneB
import Derived.Test.YteiojpglhmikoaaGiveUp
import Derived.Test.YteiojpglhmikoaaFrameImpl
import Derived.WalkSpells
namespace Go.Proofs.Yteiojpglhmikoaa.Frame
open Go.RowKit Go.Proofs.Yteiojpglhmikoaa.Bytes Go.Proofs.Yteiojpglhmikoaa.Var Go.Proofs.Yteiojpglhmikoaa.Crc
set_option linter.unusedVariables false

theorem rd_sub {w : World} {B b o : Nat} {zs : List Int} (h : Rd w B (some ⟨b, o, none⟩) zs) (E V : Nat) (hE : E + V ≤ zs.length) : Rd w B (some ⟨b, o + E, none⟩) ((zs.drop E).take V) := by
  intro hn
  have hl : ((zs.drop E).take V).length = V := by rw [List.length_take, List.length_drop]; omega
  obtain ⟨b', o', e, hlt, hc⟩ := h (by omega)
  injection e with e
  injection e with e1 e2
  subst e1 e2
  refine ⟨_, _, rfl, hlt, fun k hk => ?_⟩
  rw [Nat.add_assoc, hc (E + k) (by omega)]
  simp [List.getD, show k < V by omega]
theorem rd_nil (w : World) (B : Nat) (A : Option Addr) : Rd w B A [] := fun h => absurd h (by simp)
theorem rng_sub {zs : List Int} (h : Rng zs) (E V : Nat) : Rng ((zs.drop E).take V) := fun z hz => h z (List.mem_of_mem_drop (List.mem_of_mem_take hz))

/-- where the numbers are right: all in natural numbers -/
structure Nums (zs : List Int) (a P1 P2 P3 S Z C : Nat) : Prop where
  o1 : gvOk zs ((a : Int) + 1) = true
  o2 : gvOk zs (P1 : Int) = true
  o3 : gvOk zs (P2 : Int) = true
  e1 : gvE zs ((a : Int) + 1) = (P1 : Int)
  e2 : gvE zs (P1 : Int) = (P2 : Int)
  e3 : gvE zs (P2 : Int) = (P3 : Int)
  v1 : gvN zs ((a : Int) + 1) = (S : Int)
  v2 : gvN zs (P1 : Int) = (Z : Int)
  v3 : gvN zs (P2 : Int) = (C : Int)
theorem nums_of {zs : List Int} {a : Nat} (h3 : fOk3 zs a = true) : ∃ P1 P2 P3 S Z C : Nat, Nums zs a P1 P2 P3 S Z C ∧ a + 1 < P1 ∧ P1 < P2 ∧ P2 < P3 ∧ P3 ≤ zs.length ∧ P3 ≤ a + 16 ∧ S ≤ 4294967295 ∧ Z ≤ 4294967295 ∧ C ≤ 4294967295 ∧
    fSeq zs a = (S : Int) ∧ fSize zs a = (Z : Int) ∧ fCrc zs a = (C : Int) ∧ p3 zs a = (P3 : Int) ∧ fData zs a = (zs.drop P3).take Z ∧ fHead zs a = (zs.drop a).take (P2 - a) := by
  obtain ⟨o1, o2, o3⟩ := fOk3_yes h3
  have hp := fr_places h3
  obtain ⟨P1, hP1⟩ := Int.eq_ofNat_of_zero_le (show 0 ≤ p1 zs a by omega)
  obtain ⟨P2, hP2⟩ := Int.eq_ofNat_of_zero_le (show 0 ≤ p2 zs a by omega)
  obtain ⟨P3, hP3⟩ := Int.eq_ofNat_of_zero_le (show 0 ≤ p3 zs a by omega)
  obtain ⟨S, hS⟩ := Int.eq_ofNat_of_zero_le (show 0 ≤ fSeq zs a by omega)
  obtain ⟨Z, hZ⟩ := Int.eq_ofNat_of_zero_le (show 0 ≤ fSize zs a by omega)
  obtain ⟨C, hC⟩ := Int.eq_ofNat_of_zero_le (show 0 ≤ fCrc zs a by omega)
  refine ⟨P1, P2, P3, S, Z, C, ⟨o1, hP1 ▸ o2, hP2 ▸ o3, hP1, ?_, ?_, hS, ?_, ?_⟩, by omega, by omega, by omega, by omega, by omega, by omega, by omega, by omega, hS, hZ, hC, hP3, ?_, ?_⟩
  · rw [← hP1]; exact hP2
  · rw [← hP2]; exact hP3
  · rw [← hP1]; exact hZ
  · rw [← hP2]; exact hC
  · unfold fData; rw [hP3, hZ, Int.toNat_natCast, Int.toNat_natCast]
  · unfold fHead; rw [hP2, Int.toNat_natCast, Int.toNat_natCast]

set_option maxRecDepth 100000 in
set_option maxHeartbeats 1600000 in
theorem at_1 (A : Option Addr) (n c : Nat) (zs : List Int) (a : Int) (w : World) (hr : Rd w w.heap.size A zs) (hg : Rng zs) (hl : zs.length = n) (hn : n ≤ 1099511627776) (h : a < 0 ∨ (n : Int) < a) (h64 : -9223372036854775808 ≤ a ∧ a ≤ 9223372036854775807) :
    Calls Try.prog 84 #[.slice A n c, .int .i64 a] w fun e w' => e = gives 1 ∧ w = w' := by
  clear hg hr
  by_cases h0 : a < 0
  · clear h
    go_enter Try.func84, Try.ntmps84
    go_wp2_with fail
    refine (giveUp_yes 1 _).mono ?_
    rintro e w0 ⟨he, rfl⟩
    unfold gives at he
    subst he
    go_wp2_with fail
    exact ⟨rfl, rfl, rfl⟩
  · have h0' : 0 ≤ a := by omega
    have h1 : (n : Int) < a := by omega
    clear h h0
    go_enter Try.func84, Try.ntmps84
    go_wp2_with fail
    refine (giveUp_yes 1 _).mono ?_
    rintro e w0 ⟨he, rfl⟩
    unfold gives at he
    subst he
    go_wp2_with fail
    exact ⟨rfl, rfl, rfl⟩

set_option maxRecDepth 100000 in
set_option maxHeartbeats 1600000 in
theorem at_2 (A : Option Addr) (n c : Nat) (zs : List Int) (a : Nat) (w : World) (hr : Rd w w.heap.size A zs) (hg : Rng zs) (hl : zs.length = n) (hn : n ≤ 1099511627776) (h0 : a ≤ n) (h : a = n ∨ zs.getD a 0 ≠ 167) :
    Calls Try.prog 84 #[.slice A n c, .int .i64 a] w fun e w' => e = gives 2 ∧ w = w' := by
  have HL := Lib.hid hl
  clear hl
  have hd1 : decide ((a : Int) < 0) = false := decide_eq_false (by omega)
  have hd2 : decide (n < a) = false := decide_eq_false (by omega)
  have hd3 : decide ((n : Int) < (a : Int)) = false := decide_eq_false (by omega)
  by_cases h1 : a = n
  · subst h1
    clear h h0 hg hr
    have hq : ((a : Int) == (a : Int)) = true := by simp
    go_enter Try.func84, Try.ntmps84
    go_wp2_with fail
    refine (giveUp_no 1 _).mono ?_
    rintro e w0 ⟨rfl, rfl⟩
    go_wp2_with fail
    refine (giveUp_yes 2 _).mono ?_
    rintro e w0 ⟨he, rfl⟩
    unfold gives at he
    subst he
    go_wp2_with fail
    exact ⟨rfl, rfl, rfl⟩
  · have h2 : a < n := by omega
    have hz := h.resolve_left h1
    have hq : ((a : Int) == (n : Int)) = false := by simp; omega
    clear h h0 h1
    obtain ⟨b, o, rfl, hB, hc⟩ := hr.at_ (k := a) (by rw [HL.out]; exact h2)
    clear hr hg
    generalize zs.getD a 0 = z at *
    have hz' : (z != 167) = true := by simp; exact hz
    have HZ := Lib.hid hz
    clear hz
    go_enter Try.func84, Try.ntmps84
    go_wp2_with fail
    refine (giveUp_no 1 _).mono ?_
    rintro e w0 ⟨rfl, rfl⟩
    go_wp2_with fail
    refine (giveUp_yes 2 _).mono ?_
    rintro e w0 ⟨he, rfl⟩
    unfold gives at he
    subst he
    go_wp2_with fail
    exact ⟨rfl, rfl, rfl⟩

set_option maxRecDepth 100000 in
set_option maxHeartbeats 1600000 in
theorem at_3 (A : Option Addr) (n c : Nat) (zs : List Int) (a : Nat) (w : World) (hr : Rd w w.heap.size A zs) (hg : Rng zs) (hl : zs.length = n) (hn : n ≤ 1099511627776) (h0 : a < n) (hz : zs.getD a 0 = 167) (h : fOk3 zs a = false) :
    Calls Try.prog 84 #[.slice A n c, .int .i64 a] w fun e w' => e = gives 3 ∧ w = w' := by
  have HL := Lib.hid hl
  have HG := Lib.hid hg
  have HR := Lib.hid hr
  clear hl
  obtain ⟨b, o, rfl, hB, hc⟩ := hr.at_ (k := a) (by rw [HL.out]; exact h0)
  have HZ := Lib.hid hz
  rw [hz] at hc
  clear hz
  have hq : ((a : Int) == (n : Int)) = false := by simp; omega
  have hz' : ((167 : Int) != 167) = false := by simp
  have hd1 : decide ((a : Int) < 0) = false := decide_eq_false (by omega)
  have hd2 : decide (n < a) = false := decide_eq_false (by omega)
  have hd3 : decide ((n : Int) < (a : Int)) = false := decide_eq_false (by omega)
  by_cases h1 : gvOk zs ((a : Int) + 1) = true
  · by_cases h2 : gvOk zs (p1 zs a) = true
    · have h3 : gvOk zs (p2 zs a) = false := by
        cases e : gvOk zs (p2 zs a)
        · rfl
        · unfold fOk3 at h; rw [h1, h2, e] at h; simp at h
      have H1 := Lib.hid h1
      have H2 := Lib.hid h2
      have H3 := Lib.hid h3
      have E1 := Lib.hid (show gvE zs ((a : Int) + 1) = p1 zs a from rfl)
      have E2 := Lib.hid (show gvE zs (p1 zs a) = p2 zs a from rfl)
      clear h h1 h2 h3
      generalize p1 zs a = q1 at *
      generalize p2 zs a = q2 at *
      go_enter Try.func84, Try.ntmps84
      go_wp2_with fail
      refine (giveUp_no 1 _).mono ?_
      rintro e w0 ⟨rfl, rfl⟩
      go_wp2_with fail
      refine (giveUp_no 2 _).mono ?_
      rintro e w0 ⟨rfl, rfl⟩
      go_wp2_with fail
      refine (number_yes _ n _ zs ((a : Int) + 1) _ hr hg HL.out hn H1.out).mono ?_
      rintro e w0 ⟨he, rfl⟩
      rw [E1.out] at he
      subst he
      go_wp2_with fail
      refine (number_yes _ n _ zs q1 _ hr hg HL.out hn H2.out).mono ?_
      rintro e w0 ⟨he, rfl⟩
      rw [E2.out] at he
      subst he
      go_wp2_with fail
      refine (number_no _ n _ zs q2 _ hr hg HL.out hn H3.out).mono ?_
      rintro e w0 ⟨he, rfl⟩
      unfold gives at he
      subst he
      go_wp2_with fail
      exact ⟨rfl, rfl, rfl⟩
    · have h2' : gvOk zs (p1 zs a) = false := by simpa using h2
      have H1 := Lib.hid h1
      have H2 := Lib.hid h2'
      have E1 := Lib.hid (show gvE zs ((a : Int) + 1) = p1 zs a from rfl)
      clear h h1 h2 h2'
      generalize p1 zs a = q1 at *
      go_enter Try.func84, Try.ntmps84
      go_wp2_with fail
      refine (giveUp_no 1 _).mono ?_
      rintro e w0 ⟨rfl, rfl⟩
      go_wp2_with fail
      refine (giveUp_no 2 _).mono ?_
      rintro e w0 ⟨rfl, rfl⟩
      go_wp2_with fail
      refine (number_yes _ n _ zs ((a : Int) + 1) _ hr hg HL.out hn H1.out).mono ?_
      rintro e w0 ⟨he, rfl⟩
      rw [E1.out] at he
      subst he
      go_wp2_with fail
      refine (number_no _ n _ zs q1 _ hr hg HL.out hn H2.out).mono ?_
      rintro e w0 ⟨he, rfl⟩
      unfold gives at he
      subst he
      go_wp2_with fail
      exact ⟨rfl, rfl, rfl⟩
  · have h1' : gvOk zs ((a : Int) + 1) = false := by simpa using h1
    have H1 := Lib.hid h1'
    clear h h1 h1'
    go_enter Try.func84, Try.ntmps84
    go_wp2_with fail
    refine (giveUp_no 1 _).mono ?_
    rintro e w0 ⟨rfl, rfl⟩
    go_wp2_with fail
    refine (giveUp_no 2 _).mono ?_
    rintro e w0 ⟨rfl, rfl⟩
    go_wp2_with fail
    refine (number_no _ n _ zs ((a : Int) + 1) _ hr hg HL.out hn H1.out).mono ?_
    rintro e w0 ⟨he, rfl⟩
    unfold gives at he
    subst he
    go_wp2_with fail
    exact ⟨rfl, rfl, rfl⟩

set_option maxRecDepth 100000 in
set_option maxHeartbeats 1600000 in
theorem at_4 (A : Option Addr) (n c : Nat) (zs : List Int) (a P1 P2 P3 S Z C : Nat) (w : World) (hr : Rd w w.heap.size A zs) (hg : Rng zs) (hl : zs.length = n) (hn : n ≤ 1099511627776) (h0 : a < n) (hz : zs.getD a 0 = 167) (hN : Nums zs a P1 P2 P3 S Z C) (hp1 : a + 1 < P1) (hp2 : P1 < P2) (hp3 : P2 < P3) (hp4 : P3 ≤ n) (hS : S ≤ 4294967295) (hZ : Z ≤ 4294967295) (hC : C ≤ 4294967295) (h : S < 1 ∨ 1000000000 < S ∨ 60000 < Z) :
    Calls Try.prog 84 #[.slice A n c, .int .i64 a] w fun e w' => e = gives 4 ∧ w = w' := by
  have HL := Lib.hid hl
  have HG := Lib.hid hg
  have HR := Lib.hid hr
  clear hl
  obtain ⟨b, o, rfl, hB, hc⟩ := hr.at_ (k := a) (by rw [HL.out]; exact h0)
  have HZ := Lib.hid hz
  rw [hz] at hc
  clear hz
  have hq : ((a : Int) == (n : Int)) = false := by simp; omega
  have hz' : ((167 : Int) != 167) = false := by simp
  have hd1 : decide ((a : Int) < 0) = false := decide_eq_false (by omega)
  have hd2 : decide (n < a) = false := decide_eq_false (by omega)
  have hd3 : decide ((n : Int) < (a : Int)) = false := decide_eq_false (by omega)
  have HN := Lib.hid hN
  clear hN
  by_cases hs : 1 ≤ S ∧ S ≤ 1000000000
  · have hz4 : 60000 < Z := by omega
    have hd4 : (60000 : Int) < (Z : Int) := by omega
    have hd4' : decide ((60000 : Int) < (Z : Int)) = true := decide_eq_true (by omega)
    obtain ⟨hs1, hs2⟩ := hs
    clear h
    go_enter Try.func84, Try.ntmps84
    go_wp2_with fail
    refine (giveUp_no 1 _).mono ?_
    rintro e w0 ⟨rfl, rfl⟩
    go_wp2_with fail
    refine (giveUp_no 2 _).mono ?_
    rintro e w0 ⟨rfl, rfl⟩
    go_wp2_with fail
    refine (number_yes _ n _ zs ((a : Int) + 1) _ hr hg HL.out hn HN.out.o1).mono ?_
    rintro e w0 ⟨he, rfl⟩
    rw [HN.out.e1, HN.out.v1] at he
    subst he
    go_wp2_with fail
    refine (number_yes _ n _ zs (P1 : Int) _ hr hg HL.out hn HN.out.o2).mono ?_
    rintro e w0 ⟨he, rfl⟩
    rw [HN.out.e2, HN.out.v2] at he
    subst he
    go_wp2_with fail
    refine (number_yes _ n _ zs (P2 : Int) _ hr hg HL.out hn HN.out.o3).mono ?_
    rintro e w0 ⟨he, rfl⟩
    rw [HN.out.e3, HN.out.v3] at he
    subst he
    go_wp2_with fail
    refine (isSeq_yes _ _ (by omega) (by omega)).mono ?_
    rintro e w0 ⟨rfl, rfl⟩
    go_wp2_with fail
    refine (giveUp_yes 4 _).mono ?_
    rintro e w0 ⟨he, rfl⟩
    unfold gives at he
    subst he
    go_wp2_with fail
    exact ⟨rfl, rfl, rfl⟩
  · have HS := Lib.hid hs
    have HH := Lib.hid h
    clear h hs
    go_enter Try.func84, Try.ntmps84
    go_wp2_with fail
    refine (giveUp_no 1 _).mono ?_
    rintro e w0 ⟨rfl, rfl⟩
    go_wp2_with fail
    refine (giveUp_no 2 _).mono ?_
    rintro e w0 ⟨rfl, rfl⟩
    go_wp2_with fail
    refine (number_yes _ n _ zs ((a : Int) + 1) _ hr hg HL.out hn HN.out.o1).mono ?_
    rintro e w0 ⟨he, rfl⟩
    rw [HN.out.e1, HN.out.v1] at he
    subst he
    go_wp2_with fail
    refine (number_yes _ n _ zs (P1 : Int) _ hr hg HL.out hn HN.out.o2).mono ?_
    rintro e w0 ⟨he, rfl⟩
    rw [HN.out.e2, HN.out.v2] at he
    subst he
    go_wp2_with fail
    refine (number_yes _ n _ zs (P2 : Int) _ hr hg HL.out hn HN.out.o3).mono ?_
    rintro e w0 ⟨he, rfl⟩
    rw [HN.out.e3, HN.out.v3] at he
    subst he
    go_wp2_with fail
    refine (isSeq_no _ _ (by have := HS.out; omega)).mono ?_
    rintro e w0 ⟨rfl, rfl⟩
    go_wp2_with fail
    refine (giveUp_yes 4 _).mono ?_
    rintro e w0 ⟨he, rfl⟩
    unfold gives at he
    subst he
    go_wp2_with fail
    exact ⟨rfl, rfl, rfl⟩

set_option maxRecDepth 100000 in
set_option maxHeartbeats 1600000 in
theorem at_5 (A : Option Addr) (n c : Nat) (zs : List Int) (a P1 P2 P3 S Z C : Nat) (w : World) (hr : Rd w w.heap.size A zs) (hg : Rng zs) (hl : zs.length = n) (hn : n ≤ 1099511627776) (h0 : a < n) (hz : zs.getD a 0 = 167) (hN : Nums zs a P1 P2 P3 S Z C) (hp1 : a + 1 < P1) (hp2 : P1 < P2) (hp3 : P2 < P3) (hp4 : P3 ≤ n) (hS : S ≤ 4294967295) (hZ : Z ≤ 4294967295) (hC : C ≤ 4294967295) (hs1 : 1 ≤ S) (hs2 : S ≤ 1000000000) (hz4 : Z ≤ 60000) (h5 : n < P3 + Z) :
    Calls Try.prog 84 #[.slice A n c, .int .i64 a] w fun e w' => e = gives 5 ∧ w = w' := by
  have HL := Lib.hid hl
  have HG := Lib.hid hg
  have HR := Lib.hid hr
  clear hl
  obtain ⟨b, o, rfl, hB, hc⟩ := hr.at_ (k := a) (by rw [HL.out]; exact h0)
  have HZ := Lib.hid hz
  rw [hz] at hc
  clear hz
  have hq : ((a : Int) == (n : Int)) = false := by simp; omega
  have hz' : ((167 : Int) != 167) = false := by simp
  have hd1 : decide ((a : Int) < 0) = false := decide_eq_false (by omega)
  have hd2 : decide (n < a) = false := decide_eq_false (by omega)
  have hd3 : decide ((n : Int) < (a : Int)) = false := decide_eq_false (by omega)
  have HN := Lib.hid hN
  clear hN
  have hd4 : decide (60000 < Z) = false := decide_eq_false (by omega)
  have hd4' : decide ((60000 : Int) < (Z : Int)) = false := decide_eq_false (by omega)
  have hd5 : decide ((n : Int) - (P3 : Int) < (Z : Int)) = true := decide_eq_true (by omega)
  go_enter Try.func84, Try.ntmps84
  go_wp2_with fail
  refine (giveUp_no 1 _).mono ?_
  rintro e w0 ⟨rfl, rfl⟩
  go_wp2_with fail
  refine (giveUp_no 2 _).mono ?_
  rintro e w0 ⟨rfl, rfl⟩
  go_wp2_with fail
  refine (number_yes _ n _ zs ((a : Int) + 1) _ hr hg HL.out hn HN.out.o1).mono ?_
  rintro e w0 ⟨he, rfl⟩
  rw [HN.out.e1, HN.out.v1] at he
  subst he
  go_wp2_with fail
  refine (number_yes _ n _ zs (P1 : Int) _ hr hg HL.out hn HN.out.o2).mono ?_
  rintro e w0 ⟨he, rfl⟩
  rw [HN.out.e2, HN.out.v2] at he
  subst he
  go_wp2_with fail
  refine (number_yes _ n _ zs (P2 : Int) _ hr hg HL.out hn HN.out.o3).mono ?_
  rintro e w0 ⟨he, rfl⟩
  rw [HN.out.e3, HN.out.v3] at he
  subst he
  go_wp2_with fail
  refine (isSeq_yes _ _ (by omega) (by omega)).mono ?_
  rintro e w0 ⟨rfl, rfl⟩
  go_wp2_with fail
  refine (giveUp_no 4 _).mono ?_
  rintro e w0 ⟨rfl, rfl⟩
  go_wp2_with fail
  refine (giveUp_yes 5 _).mono ?_
  rintro e w0 ⟨he, rfl⟩
  unfold gives at he
  subst he
  go_wp2_with fail
  exact ⟨rfl, rfl, rfl⟩

set_option maxRecDepth 100000 in
set_option maxHeartbeats 3200000 in
theorem at_6 (A : Option Addr) (n c : Nat) (zs : List Int) (a P1 P2 P3 S Z C : Nat) (w : World) (hr : Rd w w.heap.size A zs) (hg : Rng zs) (hl : zs.length = n) (hn : n ≤ 1099511627776) (h0 : a < n) (hz : zs.getD a 0 = 167) (hN : Nums zs a P1 P2 P3 S Z C) (hp1 : a + 1 < P1) (hp2 : P1 < P2) (hp3 : P2 < P3) (hp4 : P3 ≤ n) (hS : S ≤ 4294967295) (hZ : Z ≤ 4294967295) (hC : C ≤ 4294967295) (hs1 : 1 ≤ S) (hs2 : S ≤ 1000000000) (hz4 : Z ≤ 60000) (h5 : P3 + Z ≤ n) (hnc : n ≤ c) (h6 : C ≠ crcN ((zs.drop a).take (P2 - a) ++ (zs.drop P3).take Z)) :
    Calls Try.prog 84 #[.slice A n c, .int .i64 a] w fun e w' => e = gives 6 ∧ Below w.heap.size w w' := by
  have HL := Lib.hid hl
  have HG := Lib.hid hg
  have HR := Lib.hid hr
  clear hl
  obtain ⟨b, o, rfl, hB, hc⟩ := hr.at_ (k := a) (by rw [HL.out]; exact h0)
  have HZ := Lib.hid hz
  rw [hz] at hc
  clear hz
  have hq : ((a : Int) == (n : Int)) = false := by simp; omega
  have hz' : ((167 : Int) != 167) = false := by simp
  have hd1 : decide ((a : Int) < 0) = false := decide_eq_false (by omega)
  have hd2 : decide (n < a) = false := decide_eq_false (by omega)
  have hd3 : decide ((n : Int) < (a : Int)) = false := decide_eq_false (by omega)
  have HN := Lib.hid hN
  clear hN
  have H6 := Lib.hid h6
  clear h6
  have hd4 : decide (60000 < Z) = false := decide_eq_false (by omega)
  have hd4' : decide ((60000 : Int) < (Z : Int)) = false := decide_eq_false (by omega)
  have hd5 : decide ((n : Int) - (P3 : Int) < (Z : Int)) = false := decide_eq_false (by omega)
  have hr1 := rd_sub HR.out a (P2 - a) (by rw [HL.out]; omega)
  have HL1 := Lib.hid (show ((zs.drop a).take (P2 - a)).length = P2 - a by rw [List.length_take, List.length_drop, HL.out]; omega)
  have HL2 := Lib.hid (show ((zs.drop P3).take Z).length = Z by rw [List.length_take, List.length_drop, HL.out]; omega)
  have HG1 := Lib.hid (rng_sub hg a (P2 - a))
  have HG2 := Lib.hid (rng_sub hg P3 Z)
  have HR1 := Lib.hid hr1
  clear hr1
  by_cases hcE : P3 = c
  · subst hcE
    obtain rfl : Z = 0 := by omega
    have hd6 : decide ((n : Int) - (P3 : Int) < 0) = false := decide_eq_false (by omega)
    have HR2 := Lib.hid (show Rd w w.heap.size (some ⟨b, o, none⟩) ((zs.drop P3).take 0) by rw [List.take_zero]; exact rd_nil _ _ _)
    generalize hH : (zs.drop a).take (P2 - a) = hds at *
    generalize hD : (zs.drop P3).take 0 = dat at *
    clear hH hD
    go_enter Try.func84, Try.ntmps84
    go_wp2_with fail
    refine (giveUp_no 1 _).mono ?_
    rintro e w0 ⟨rfl, rfl⟩
    go_wp2_with fail
    refine (giveUp_no 2 _).mono ?_
    rintro e w0 ⟨rfl, rfl⟩
    go_wp2_with fail
    refine (number_yes _ n _ zs ((a : Int) + 1) _ hr hg HL.out hn HN.out.o1).mono ?_
    rintro e w0 ⟨he, rfl⟩
    rw [HN.out.e1, HN.out.v1] at he
    subst he
    go_wp2_with fail
    refine (number_yes _ n _ zs (P1 : Int) _ hr hg HL.out hn HN.out.o2).mono ?_
    rintro e w0 ⟨he, rfl⟩
    rw [HN.out.e2, HN.out.v2] at he
    subst he
    go_wp2_with fail
    refine (number_yes _ n _ zs (P2 : Int) _ hr hg HL.out hn HN.out.o3).mono ?_
    rintro e w0 ⟨he, rfl⟩
    rw [HN.out.e3, HN.out.v3] at he
    subst he
    go_wp2_with fail
    refine (isSeq_yes _ _ (by omega) (by omega)).mono ?_
    rintro e w0 ⟨rfl, rfl⟩
    go_wp2_with fail
    refine (giveUp_no 4 _).mono ?_
    rintro e w0 ⟨rfl, rfl⟩
    go_wp2_with fail
    refine (giveUp_no 5 _).mono ?_
    rintro e w0 ⟨rfl, rfl⟩
    go_wp2_with fail
    refine (crcOfBoth_any _ _ _ _ _ _ hds dat _ HR1.out HR2.out HG1.out HG2.out HL1.out HL2.out (by omega) (by omega)).mono ?_
    rintro e w1 ⟨rfl, hb1⟩
    have hk := crcN_le (hds ++ dat)
    obtain ⟨K, hK⟩ : ∃ K, K = crcN (hds ++ dat) := ⟨_, rfl⟩
    rw [← hK] at hk
    rw [← hK]
    have HK := Lib.hid hK
    clear hK
    have hne : ((C : Int) != (K : Int)) = true := by have h1 := H6.out; have h2 := HK.out; simp; omega
    go_wp2_with fail
    refine (giveUp_yes 6 _).mono ?_
    rintro e w0 ⟨he, rfl⟩
    unfold gives at he
    subst he
    go_wp2_with fail
    exact ⟨rfl, rfl, hb1⟩
  · have hcE' : P3 < c := by omega
    have HR2 := Lib.hid (rd_sub HR.out P3 Z (by rw [HL.out]; exact h5))
    generalize hH : (zs.drop a).take (P2 - a) = hds at *
    generalize hD : (zs.drop P3).take Z = dat at *
    clear hH hD hcE
    go_enter Try.func84, Try.ntmps84
    go_wp2_with fail
    refine (giveUp_no 1 _).mono ?_
    rintro e w0 ⟨rfl, rfl⟩
    go_wp2_with fail
    refine (giveUp_no 2 _).mono ?_
    rintro e w0 ⟨rfl, rfl⟩
    go_wp2_with fail
    refine (number_yes _ n _ zs ((a : Int) + 1) _ hr hg HL.out hn HN.out.o1).mono ?_
    rintro e w0 ⟨he, rfl⟩
    rw [HN.out.e1, HN.out.v1] at he
    subst he
    go_wp2_with fail
    refine (number_yes _ n _ zs (P1 : Int) _ hr hg HL.out hn HN.out.o2).mono ?_
    rintro e w0 ⟨he, rfl⟩
    rw [HN.out.e2, HN.out.v2] at he
    subst he
    go_wp2_with fail
    refine (number_yes _ n _ zs (P2 : Int) _ hr hg HL.out hn HN.out.o3).mono ?_
    rintro e w0 ⟨he, rfl⟩
    rw [HN.out.e3, HN.out.v3] at he
    subst he
    go_wp2_with fail
    refine (isSeq_yes _ _ (by omega) (by omega)).mono ?_
    rintro e w0 ⟨rfl, rfl⟩
    go_wp2_with fail
    refine (giveUp_no 4 _).mono ?_
    rintro e w0 ⟨rfl, rfl⟩
    go_wp2_with fail
    refine (giveUp_no 5 _).mono ?_
    rintro e w0 ⟨rfl, rfl⟩
    go_wp2_with fail
    refine (crcOfBoth_any _ _ _ _ _ _ hds dat _ HR1.out HR2.out HG1.out HG2.out HL1.out HL2.out (by omega) (by omega)).mono ?_
    rintro e w1 ⟨rfl, hb1⟩
    have hk := crcN_le (hds ++ dat)
    obtain ⟨K, hK⟩ : ∃ K, K = crcN (hds ++ dat) := ⟨_, rfl⟩
    rw [← hK] at hk
    rw [← hK]
    have HK := Lib.hid hK
    clear hK
    have hne : ((C : Int) != (K : Int)) = true := by have h1 := H6.out; have h2 := HK.out; simp; omega
    go_wp2_with fail
    refine (giveUp_yes 6 _).mono ?_
    rintro e w0 ⟨he, rfl⟩
    unfold gives at he
    subst he
    go_wp2_with fail
    exact ⟨rfl, rfl, hb1⟩

set_option maxRecDepth 100000 in
set_option maxHeartbeats 3200000 in
theorem at_0 (A : Option Addr) (n c : Nat) (zs : List Int) (a P1 P2 P3 S Z C : Nat) (w : World) (hr : Rd w w.heap.size A zs) (hg : Rng zs) (hl : zs.length = n) (hn : n ≤ 1099511627776) (h0 : a < n) (hz : zs.getD a 0 = 167) (hN : Nums zs a P1 P2 P3 S Z C) (hp1 : a + 1 < P1) (hp2 : P1 < P2) (hp3 : P2 < P3) (hp4 : P3 ≤ n) (hS : S ≤ 4294967295) (hZ : Z ≤ 4294967295) (hC : C ≤ 4294967295) (hs1 : 1 ≤ S) (hs2 : S ≤ 1000000000) (hz4 : Z ≤ 60000) (h5 : P3 + Z ≤ n) (hnc : n ≤ c) (h6 : C = crcN ((zs.drop a).take (P2 - a) ++ (zs.drop P3).take Z)) :
    Calls Try.prog 84 #[.slice A n c, .int .i64 a] w fun e w' => ∃ A' c', e = .returned (.tuple #[.int .i64 S, .slice A' Z c', .int .i64 ((P3 : Int) + (Z : Int))]) ∧ Own w' w.heap.size A' Z c' ((zs.drop P3).take Z) ∧ Below w.heap.size w w' := by
  have HL := Lib.hid hl
  have HG := Lib.hid hg
  have HR := Lib.hid hr
  clear hl
  obtain ⟨b, o, rfl, hB, hc⟩ := hr.at_ (k := a) (by rw [HL.out]; exact h0)
  have HZ := Lib.hid hz
  rw [hz] at hc
  clear hz
  have hq : ((a : Int) == (n : Int)) = false := by simp; omega
  have hz' : ((167 : Int) != 167) = false := by simp
  have hd1 : decide ((a : Int) < 0) = false := decide_eq_false (by omega)
  have hd2 : decide (n < a) = false := decide_eq_false (by omega)
  have hd3 : decide ((n : Int) < (a : Int)) = false := decide_eq_false (by omega)
  have HN := Lib.hid hN
  clear hN
  have H6 := Lib.hid h6
  clear h6
  have hd4 : decide (60000 < Z) = false := decide_eq_false (by omega)
  have hd4' : decide ((60000 : Int) < (Z : Int)) = false := decide_eq_false (by omega)
  have hd5 : decide ((n : Int) - (P3 : Int) < (Z : Int)) = false := decide_eq_false (by omega)
  have hr1 := rd_sub HR.out a (P2 - a) (by rw [HL.out]; omega)
  have HL1 := Lib.hid (show ((zs.drop a).take (P2 - a)).length = P2 - a by rw [List.length_take, List.length_drop, HL.out]; omega)
  have HL2 := Lib.hid (show ((zs.drop P3).take Z).length = Z by rw [List.length_take, List.length_drop, HL.out]; omega)
  have HG1 := Lib.hid (rng_sub hg a (P2 - a))
  have HG2 := Lib.hid (rng_sub hg P3 Z)
  have HR1 := Lib.hid hr1
  clear hr1
  by_cases hcE : P3 = c
  · subst hcE
    obtain rfl : Z = 0 := by omega
    have hd6 : decide ((n : Int) - (P3 : Int) < 0) = false := decide_eq_false (by omega)
    have HR2 := Lib.hid (show Rd w w.heap.size (some ⟨b, o, none⟩) ((zs.drop P3).take 0) by rw [List.take_zero]; exact rd_nil _ _ _)
    generalize hH : (zs.drop a).take (P2 - a) = hds at *
    generalize hD : (zs.drop P3).take 0 = dat at *
    clear hH hD
    go_enter Try.func84, Try.ntmps84
    go_wp2_with fail
    refine (giveUp_no 1 _).mono ?_
    rintro e w0 ⟨rfl, rfl⟩
    go_wp2_with fail
    refine (giveUp_no 2 _).mono ?_
    rintro e w0 ⟨rfl, rfl⟩
    go_wp2_with fail
    refine (number_yes _ n _ zs ((a : Int) + 1) _ hr hg HL.out hn HN.out.o1).mono ?_
    rintro e w0 ⟨he, rfl⟩
    rw [HN.out.e1, HN.out.v1] at he
    subst he
    go_wp2_with fail
    refine (number_yes _ n _ zs (P1 : Int) _ hr hg HL.out hn HN.out.o2).mono ?_
    rintro e w0 ⟨he, rfl⟩
    rw [HN.out.e2, HN.out.v2] at he
    subst he
    go_wp2_with fail
    refine (number_yes _ n _ zs (P2 : Int) _ hr hg HL.out hn HN.out.o3).mono ?_
    rintro e w0 ⟨he, rfl⟩
    rw [HN.out.e3, HN.out.v3] at he
    subst he
    go_wp2_with fail
    refine (isSeq_yes _ _ (by omega) (by omega)).mono ?_
    rintro e w0 ⟨rfl, rfl⟩
    go_wp2_with fail
    refine (giveUp_no 4 _).mono ?_
    rintro e w0 ⟨rfl, rfl⟩
    go_wp2_with fail
    refine (giveUp_no 5 _).mono ?_
    rintro e w0 ⟨rfl, rfl⟩
    go_wp2_with fail
    refine (crcOfBoth_any _ _ _ _ _ _ hds dat _ HR1.out HR2.out HG1.out HG2.out HL1.out HL2.out (by omega) (by omega)).mono ?_
    rintro e w1 ⟨rfl, hb1⟩
    have hk := crcN_le (hds ++ dat)
    obtain ⟨K, hK⟩ : ∃ K, K = crcN (hds ++ dat) := ⟨_, rfl⟩
    rw [← hK] at hk
    rw [← hK]
    have HK := Lib.hid hK
    clear hK
    have hne : ((C : Int) != (K : Int)) = false := by have h1 := H6.out; have h2 := HK.out; simp; omega
    go_wp2_with fail
    refine (giveUp_no 6 _).mono ?_
    rintro e w0 ⟨rfl, rfl⟩
    have HB1 := Lib.hid hb1
    have hs1' := hb1.size
    clear hb1
    go_wp2_with fail
    refine (clone_any _ _ _ dat _ (by intro h; cases h) (HR2.out.below (Nat.le_refl _) HB1.out |>.more hs1') HL2.out (by omega)).mono ?_
    rintro e w2 ⟨A2, c2, rfl, ho2, hb2⟩
    have HO2 := Lib.hid (ho2.more hs1')
    have HB2 := Lib.hid (HB1.out.trans (hb2.mono hs1'))
    clear ho2 hb2
    go_wp2_with fail
    go_ret3
    exact ⟨_, _, rfl, HO2.out, HB2.out⟩
  · have hcE' : P3 < c := by omega
    have HR2 := Lib.hid (rd_sub HR.out P3 Z (by rw [HL.out]; exact h5))
    generalize hH : (zs.drop a).take (P2 - a) = hds at *
    generalize hD : (zs.drop P3).take Z = dat at *
    clear hH hD hcE
    go_enter Try.func84, Try.ntmps84
    go_wp2_with fail
    refine (giveUp_no 1 _).mono ?_
    rintro e w0 ⟨rfl, rfl⟩
    go_wp2_with fail
    refine (giveUp_no 2 _).mono ?_
    rintro e w0 ⟨rfl, rfl⟩
    go_wp2_with fail
    refine (number_yes _ n _ zs ((a : Int) + 1) _ hr hg HL.out hn HN.out.o1).mono ?_
    rintro e w0 ⟨he, rfl⟩
    rw [HN.out.e1, HN.out.v1] at he
    subst he
    go_wp2_with fail
    refine (number_yes _ n _ zs (P1 : Int) _ hr hg HL.out hn HN.out.o2).mono ?_
    rintro e w0 ⟨he, rfl⟩
    rw [HN.out.e2, HN.out.v2] at he
    subst he
    go_wp2_with fail
    refine (number_yes _ n _ zs (P2 : Int) _ hr hg HL.out hn HN.out.o3).mono ?_
    rintro e w0 ⟨he, rfl⟩
    rw [HN.out.e3, HN.out.v3] at he
    subst he
    go_wp2_with fail
    refine (isSeq_yes _ _ (by omega) (by omega)).mono ?_
    rintro e w0 ⟨rfl, rfl⟩
    go_wp2_with fail
    refine (giveUp_no 4 _).mono ?_
    rintro e w0 ⟨rfl, rfl⟩
    go_wp2_with fail
    refine (giveUp_no 5 _).mono ?_
    rintro e w0 ⟨rfl, rfl⟩
    go_wp2_with fail
    refine (crcOfBoth_any _ _ _ _ _ _ hds dat _ HR1.out HR2.out HG1.out HG2.out HL1.out HL2.out (by omega) (by omega)).mono ?_
    rintro e w1 ⟨rfl, hb1⟩
    have hk := crcN_le (hds ++ dat)
    obtain ⟨K, hK⟩ : ∃ K, K = crcN (hds ++ dat) := ⟨_, rfl⟩
    rw [← hK] at hk
    rw [← hK]
    have HK := Lib.hid hK
    clear hK
    have hne : ((C : Int) != (K : Int)) = false := by have h1 := H6.out; have h2 := HK.out; simp; omega
    go_wp2_with fail
    refine (giveUp_no 6 _).mono ?_
    rintro e w0 ⟨rfl, rfl⟩
    have HB1 := Lib.hid hb1
    have hs1' := hb1.size
    clear hb1
    go_wp2_with fail
    refine (clone_any _ _ _ dat _ (by intro h; cases h) (HR2.out.below (Nat.le_refl _) HB1.out |>.more hs1') HL2.out (by omega)).mono ?_
    rintro e w2 ⟨A2, c2, rfl, ho2, hb2⟩
    have HO2 := Lib.hid (ho2.more hs1')
    have HB2 := Lib.hid (HB1.out.trans (hb2.mono hs1'))
    clear ho2 hb2
    go_wp2_with fail
    go_ret3
    exact ⟨_, _, rfl, HO2.out, HB2.out⟩

end Go.Proofs.Yteiojpglhmikoaa.Frame

