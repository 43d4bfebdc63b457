/- CellsRead in the model: it answers as the program, at every list of bytes, offset and number. -/
import Derived.Test.YtbifbeahakchjaaCrImpl2
import Derived.Test.YtbifbeahakchjaaCbSpec
import Derived.Test.YtbifbeahakchjaaGetSpec
import Derived.Test.YtbifbeahakchjaaConv
import Derived.Deep.QuietTactic
import Derived.BigQuiet
namespace Go.Proofs.Ytbifbeahakchjaa.Cb
open Go.RowKit Go.Proofs.Ytbifbeahakchjaa.Bytes Go.Proofs.Ytbifbeahakchjaa.Rows_ Go.Proofs.Ytbifbeahakchjaa.RowK Go.Proofs.Ytbifbeahakchjaa.Var Go.Proofs.Ytbifbeahakchjaa.Gr Go.Proofs.Ytbifbeahakchjaa.Attr Go.Proofs.Ytbifbeahakchjaa.Rune
set_option linter.unusedVariables false
theorem gvS_any (A : Option Addr) (n c : Nat) (zs : List Int) (a : Int) (b : Bool) (K Q : Int) (w : World) (hr : Rd w w.heap.size A zs) (hg : Rng zs) (hl : zs.length = n) (hn : n ≤ 1099511627776) (hc : n ≤ c) (hb : b = gvOk zs a) (hK : K = gvN zs a) (hQ : Q = gvE zs a) :
    Calls Try.prog 52 #[.slice A n c, .int .i64 a] w fun e w' => e = .returned (.tuple #[.int .i64 K, .int .i64 Q, .bool b]) ∧ Below w.heap.size w w' := by
  subst hb hK hQ
  exact spec_GetVar_any A n c zs a w hr hg hl hn hc
theorem numAttr_tot (N : Int) (h0 : 0 ≤ N) : ∃ (f1 g1 : Int) (b5 u5 t5 b4 : Bool), b4 = decide (N < 648) ∧ (b4 = true → ∀ R, atC R N = ⟨R, f1, g1, b5, u5, t5⟩) ∧ ∀ V, Calls Try.prog 53 #[.int .i64 N] V (fun e w' => e = .returned (.tuple #[.agg #[.int .i64 f1, .int .i64 g1, .bool b5, .bool u5, .bool t5], .bool b4]) ∧ Below V.heap.size V w') := by
  by_cases h : N < 648
  · exact ⟨N / 8 % 9, N / 72, N % 2 == 1, N / 2 % 2 == 1, N / 4 % 2 == 1, true, (decide_eq_true h).symm, fun _ R => rfl, fun V => spec_NumAttr_yes N V h0 h _ _ _ _ _ rfl⟩
  · exact ⟨0, 0, false, false, false, false, (decide_eq_false h).symm, (fun h => by cases h), fun V => spec_NumAttr_no N V (by omega)⟩
theorem rs_step {zs : List Int} {f n : Nat} {p : Int} (h : hOk zs p = true) (hk : 1 ≤ cK zs p ∧ cK zs p ≤ (n : Int) + 1) : rs zs (f + 1) p (n + 1) = (rs zs f (cY zs p) (n + 1 - (cK zs p).toNat)).map fun q => (((cK zs p).toNat, cC zs p) :: q.1, q.2) := by
  rw [rs, if_pos (by rw [h, decide_eq_true hk]; rfl)]
theorem rs_stop {zs : List Int} {f n : Nat} {p : Int} (h : hOk zs p = false ∨ cK zs p < 1 ∨ (n : Int) + 1 < cK zs p) : rs zs (f + 1) p (n + 1) = none := by
  rw [rs, if_neg]
  intro h1
  rw [Bool.and_eq_true] at h1
  have h3 := of_decide_eq_true h1.2
  rcases h with h | h | h
  · rw [h] at h1; exact absurd h1.1 (by decide)
  · omega
  · omega
theorem rd_seg {w : World} {B b o : Nat} {zs : List Int} (h : Rd w B (some ⟨b, o, none⟩) zs) (lo k : Nat) (hk : lo + k ≤ zs.length) : Rd w B (some ⟨b, o + lo, none⟩) ((zs.drop lo).take k) := by
  intro hp
  have hl : ((zs.drop lo).take k).length = k := by simp; omega
  obtain ⟨b', o', e, hlt, hc⟩ := h (by omega)
  injection e with e; injection e with e1 e2; subst e1 e2
  refine ⟨b, o + lo, rfl, hlt, fun i hi => ?_⟩
  rw [hl] at hi
  have h1 := hc (lo + i) (by omega)
  have e3 : ((zs.drop lo).take k).getD i 0 = zs.getD (lo + i) 0 := by simp [List.getD, hi]
  rw [e3, Nat.add_assoc]; exact h1
theorem rd_nil' (w : World) (B : Nat) (A : Option Addr) : Rd w B A [] := fun h => by simp at h
def SrIn (zs : List Int) (a : Int) (M : Nat) (w : World) (R : List (Nat × CellD)) (pp : Int) (f rem m c2 : Nat) (A2 : Option Addr) (wr : World) : Prop := (expand R).length = m ∧ m + rem = M ∧ rem ≤ f ∧ OwnC wr w.heap.size A2 m c2 (expand R) ∧ rs zs M a M = (rs zs f pp rem).map (fun q => (R ++ q.1, q.2)) ∧ w.heap.size ≤ wr.heap.size ∧ Below w.heap.size w wr
/-- the inner loop -/
def SunIn (w : World) (cs : List CellD) (z : CellD) (g j m3 c3 : Nat) (A3 : Option Addr) (w3 : World) : Prop := OwnC w3 w.heap.size A3 m3 c3 (cs ++ List.replicate j z) ∧ Opq.RowB w3 g #[.int .i64 z.fg, .int .i64 z.bg, .bool z.b, .bool z.u, .bool z.t] ∧ (Value.slice A3 m3 c3).ownBlock ≠ some g ∧ w.heap.size ≤ w3.heap.size ∧ Below w.heap.size w w3
set_option maxRecDepth 100000 in
set_option maxHeartbeats 6400000 in
theorem spec_CellsRead_any (A : Option Addr) (n c : Nat) (zs : List Int) (a N : Int) (w : World) (hr : Rd w w.heap.size A zs) (hg : Rng zs) (hl : zs.length = n) (hn : n ≤ 1099511627776) (hnc : n ≤ c) (hA : (A = none ∧ n = 0 ∧ c = 0) ∨ ∃ g, A = some ⟨g, 0, none⟩) :
    Calls Try.prog 20 #[.slice A n c, .int .i64 a, .int .i64 N] w (CrA zs a N w) := by
  have HNO := Lib.hid (fun (h : ¬ (0 ≤ a ∧ a ≤ (n : Int) ∧ 0 ≤ N ∧ N ≤ 4000)) => show crV zs a N = none by unfold crV; rw [if_neg (by rw [hl]; exact h)])
  have NO := Lib.hid (fun (h : ¬ (0 ≤ a ∧ a ≤ (n : Int) ∧ 0 ≤ N ∧ N ≤ 4000)) => crA_no (w := w) (w' := w) (HNO.out h) (Below.refl _ _))
  by_cases h1 : a < 0
  · have NOW := Lib.hid (NO.out (by omega))
    clear NO HNO
    go_enter Try.func20, Try.ntmps20
    go_wp2_with fail
    go_ret3
    exact NOW.out
  by_cases h2 : (n : Int) < a
  · have NOW := Lib.hid (NO.out (by omega))
    clear NO HNO
    go_enter Try.func20, Try.ntmps20
    go_wp2_with fail
    go_ret3
    exact NOW.out
  by_cases h3 : N < 0
  · have NOW := Lib.hid (NO.out (by omega))
    clear NO HNO
    go_enter Try.func20, Try.ntmps20
    go_wp2_with fail
    go_ret3
    exact NOW.out
  by_cases h4 : 4000 < N
  · have NOW := Lib.hid (NO.out (by omega))
    clear NO HNO
    go_enter Try.func20, Try.ntmps20
    go_wp2_with fail
    go_ret3
    exact NOW.out
  obtain ⟨M, hM⟩ : ∃ M : Nat, N = (M : Int) := ⟨N.toNat, by omega⟩
  obtain ⟨a0, ha0⟩ : ∃ a0 : Nat, a = (a0 : Int) := ⟨a.toNat, by omega⟩
  subst hM ha0
  have hM4 : M ≤ 4000 := by omega
  have han : a0 ≤ n := by omega
  have HCV := Lib.hid (show crV zs (a0 : Int) (M : Int) = (rs zs M (a0 : Int) M).bind (fun q => if goodR none q.1 = true then some q else none) by
    unfold crV; rw [if_pos ⟨by omega, by rw [hl]; omega, by omega, by omega⟩, Int.toNat_natCast]; exact rd_rs zs M none (a0 : Int) M)
  have HCN := Lib.hid (fun (h : rs zs M (a0 : Int) M = none) => show crV zs (a0 : Int) (M : Int) = none by rw [HCV.out, h]; rfl)
  have hb0 : Below w.heap.size w (w.alloc (.cells #[] 69)) := (Below.refl w.heap.size w).alloc (Nat.le_refl _) (.cells #[] 69)
  have H0 := Lib.hid (show SrIn zs (a0 : Int) M w [] (a0 : Int) M M 0 0 (some ⟨w.heap.size, 0, none⟩) (w.alloc (.cells #[] 69)) from ⟨rfl, by omega, Nat.le_refl _, own_empty w 69 6, by cases rs zs M (a0 : Int) M <;> rfl, hb0.size, hb0⟩)
  have HRD := Lib.hid (fun V (h : Below w.heap.size w V) => show Rd V V.heap.size A zs from (hr.below (Nat.le_refl _) h).more h.size)
  have HG := Lib.hid hg
  have HL := Lib.hid hl
  have HAS := Lib.hid hA
  clear hr hg hl HNO NO hA hb0
  go_enter Try.func20, Try.ntmps20
  go_wp2_with fail
  go_loopw [9, 10] (fun y x wr => ∃ (R : List (Nat × CellD)) (pp : Int) (f rem m c2 : Nat) (A2 : Option Addr), y = .slice A2 m c2 ∧ x = .int .i64 pp ∧ SrIn zs (a0 : Int) M w R pp f rem m c2 A2 wr) (fun y _ _ => M - lenW y)
  case atStart => exact ⟨[], (a0 : Int), M, M, 0, 0, _, rfl, rfl, H0.out⟩
  case round =>
    obtain ⟨R, pp, f, rem, m, c2, A2, rfl, rfl, hle, hmr, hf, ho2, hcr, hz, hb⟩ := hrel
    clear H0
    have HB := Lib.hid hb
    have HO := Lib.hid ho2
    have HLE := Lib.hid hle
    have HRS := Lib.hid hcr
    clear hb ho2 hle hcr
    by_cases hlt : m < M
    · obtain ⟨r, hrm⟩ : ∃ r, rem = r + 1 := ⟨rem - 1, by omega⟩
      obtain ⟨f', hff⟩ : ∃ f', f = f' + 1 := ⟨f - 1, by omega⟩
      subst hrm hff
      obtain ⟨b1, hb1⟩ : ∃ b, b = gvOk zs pp := ⟨_, rfl⟩
      obtain ⟨K, hK⟩ : ∃ b, b = gvN zs pp := ⟨_, rfl⟩
      obtain ⟨Q, hQ⟩ : ∃ b, b = gvE zs pp := ⟨_, rfl⟩
      obtain ⟨b2, hb2⟩ : ∃ b, b = gvOk zs Q := ⟨_, rfl⟩
      obtain ⟨R2, hR⟩ : ∃ b, b = gvN zs Q := ⟨_, rfl⟩
      obtain ⟨X, hX⟩ : ∃ b, b = gvE zs Q := ⟨_, rfl⟩
      obtain ⟨b3, hb3⟩ : ∃ b, b = gvOk zs X := ⟨_, rfl⟩
      obtain ⟨N, hN⟩ : ∃ b, b = gvN zs X := ⟨_, rfl⟩
      obtain ⟨Y, hY⟩ : ∃ b, b = gvE zs X := ⟨_, rfl⟩
      have hN0 : 0 ≤ N := by rw [hN]; unfold gvN; split <;> omega
      have hK0 : 0 ≤ K := by rw [hK]; unfold gvN; split <;> omega
      obtain ⟨f1, g1, b5, u5, t5, b4, hb4, hat, hna⟩ := numAttr_tot N hN0
      have G1 := Lib.hid (fun V (h : Below w.heap.size w V) => gvS_any A n c zs pp b1 K Q V (HRD.out V h) HG.out HL.out hn hnc hb1 hK hQ)
      have G2 := Lib.hid (fun V (h : Below w.heap.size w V) => gvS_any A n c zs Q b2 R2 X V (HRD.out V h) HG.out HL.out hn hnc hb2 hR hX)
      have G3 := Lib.hid (fun V (h : Below w.heap.size w V) => gvS_any A n c zs X b3 N Y V (HRD.out V h) HG.out HL.out hn hnc hb3 hN hY)
      have G4 := Lib.hid hna
      have HAT := Lib.hid hat
      have eQ : cQ zs pp = Q := hQ.symm
      have eX : cX zs pp = X := by unfold cX; rw [eQ, hX]
      have eY : cY zs pp = Y := by unfold cY; rw [eX, hY]
      have eA : cA zs pp = N := by unfold cA; rw [eX, hN]
      have eK : cK zs pp = K := hK.symm
      have eC : cC zs pp = atC R2 N := by unfold cC; rw [eQ, eA, hR]
      have HOKE := Lib.hid (show hOk zs pp = (b1 && (b2 && (b3 && b4))) by unfold hOk; rw [eQ, eX, eA, ← hb1, ← hb2, ← hb3, hb4])
      have HSTP := Lib.hid (fun (h : hOk zs pp = false ∨ K < 1 ∨ (r : Int) + 1 < K) => HCN.out (by rw [HRS.out, rs_stop (by rw [eK]; exact h)]; rfl))
      have HSTEP := Lib.hid (fun (h : hOk zs pp = true) (hk : 1 ≤ K ∧ K ≤ (r : Int) + 1) => show rs zs M (a0 : Int) M = ((rs zs f' Y (r + 1 - K.toNat)).map fun q => ((K.toNat, atC R2 N) :: q.1, q.2)).map (fun q => (R ++ q.1, q.2)) by
        rw [HRS.out, rs_step h (by rw [eK]; exact hk), eK, eY, eC])
      have hms : IntKind.i64.wrap ((M : Int) - (m : Int)) = (r : Int) + 1 := by rw [IntWalk.i64_in _ (by omega)]; omega
      clear hb1 hK hQ hb2 hR hX hb3 hN hY hb4 hat hna eQ eX eY eA eK eC HRS
      cases b1
      · have HN := Lib.hid (HSTP.out (.inl (by rw [HOKE.out]; simp)))
        clear HSTP HSTEP HOKE HAT
        go_wp2_with fail
        refine (G1.out _ HB.out).mono ?_
        rintro e v1 ⟨rfl, hb1⟩
        have HB1 := Lib.hid (HB.out.trans (hb1.mono hz))
        have HO1 := Lib.hid (HO.out.below (Nat.le_refl _) hb1)
        clear hb1
        go_wp2_with fail
        refine (G2.out _ HB1.out).mono ?_
        rintro e v2 ⟨rfl, hb2⟩
        have HB2 := Lib.hid (HB1.out.trans (hb2.mono HB1.out.size))
        have HO2 := Lib.hid (HO1.out.below (Nat.le_refl _) hb2)
        clear hb2
        go_wp2_with fail
        refine (G3.out _ HB2.out).mono ?_
        rintro e v3 ⟨rfl, hb3⟩
        have HB3 := Lib.hid (HB2.out.trans (hb3.mono HB2.out.size))
        have HO3 := Lib.hid (HO2.out.below (Nat.le_refl _) hb3)
        clear hb3
        go_wp2_with fail
        refine (G4.out _).mono ?_
        rintro e v4 ⟨rfl, hb4⟩
        have HB4 := Lib.hid (HB3.out.trans (hb4.mono HB3.out.size))
        have HO4 := Lib.hid (HO3.out.below (Nat.le_refl _) hb4)
        have hz4 := HB4.out.size
        clear hb4
        go_wp2_with fail
        go_ret3
        refine crA_no HN.out ?_
        have h9 := HB4.out
        exact h9.alloc h9.size _
      cases b2
      · have HN := Lib.hid (HSTP.out (.inl (by rw [HOKE.out]; simp)))
        clear HSTP HSTEP HOKE HAT
        go_wp2_with fail
        refine (G1.out _ HB.out).mono ?_
        rintro e v1 ⟨rfl, hb1⟩
        have HB1 := Lib.hid (HB.out.trans (hb1.mono hz))
        have HO1 := Lib.hid (HO.out.below (Nat.le_refl _) hb1)
        clear hb1
        go_wp2_with fail
        refine (G2.out _ HB1.out).mono ?_
        rintro e v2 ⟨rfl, hb2⟩
        have HB2 := Lib.hid (HB1.out.trans (hb2.mono HB1.out.size))
        have HO2 := Lib.hid (HO1.out.below (Nat.le_refl _) hb2)
        clear hb2
        go_wp2_with fail
        refine (G3.out _ HB2.out).mono ?_
        rintro e v3 ⟨rfl, hb3⟩
        have HB3 := Lib.hid (HB2.out.trans (hb3.mono HB2.out.size))
        have HO3 := Lib.hid (HO2.out.below (Nat.le_refl _) hb3)
        clear hb3
        go_wp2_with fail
        refine (G4.out _).mono ?_
        rintro e v4 ⟨rfl, hb4⟩
        have HB4 := Lib.hid (HB3.out.trans (hb4.mono HB3.out.size))
        have HO4 := Lib.hid (HO3.out.below (Nat.le_refl _) hb4)
        have hz4 := HB4.out.size
        clear hb4
        go_wp2_with fail
        go_ret3
        refine crA_no HN.out ?_
        have h9 := HB4.out
        exact h9.alloc h9.size _
      cases b3
      · have HN := Lib.hid (HSTP.out (.inl (by rw [HOKE.out]; simp)))
        clear HSTP HSTEP HOKE HAT
        go_wp2_with fail
        refine (G1.out _ HB.out).mono ?_
        rintro e v1 ⟨rfl, hb1⟩
        have HB1 := Lib.hid (HB.out.trans (hb1.mono hz))
        have HO1 := Lib.hid (HO.out.below (Nat.le_refl _) hb1)
        clear hb1
        go_wp2_with fail
        refine (G2.out _ HB1.out).mono ?_
        rintro e v2 ⟨rfl, hb2⟩
        have HB2 := Lib.hid (HB1.out.trans (hb2.mono HB1.out.size))
        have HO2 := Lib.hid (HO1.out.below (Nat.le_refl _) hb2)
        clear hb2
        go_wp2_with fail
        refine (G3.out _ HB2.out).mono ?_
        rintro e v3 ⟨rfl, hb3⟩
        have HB3 := Lib.hid (HB2.out.trans (hb3.mono HB2.out.size))
        have HO3 := Lib.hid (HO2.out.below (Nat.le_refl _) hb3)
        clear hb3
        go_wp2_with fail
        refine (G4.out _).mono ?_
        rintro e v4 ⟨rfl, hb4⟩
        have HB4 := Lib.hid (HB3.out.trans (hb4.mono HB3.out.size))
        have HO4 := Lib.hid (HO3.out.below (Nat.le_refl _) hb4)
        have hz4 := HB4.out.size
        clear hb4
        go_wp2_with fail
        go_ret3
        refine crA_no HN.out ?_
        have h9 := HB4.out
        exact h9.alloc h9.size _
      cases b4
      · have HN := Lib.hid (HSTP.out (.inl (by rw [HOKE.out]; simp)))
        clear HSTP HSTEP HOKE HAT
        go_wp2_with fail
        refine (G1.out _ HB.out).mono ?_
        rintro e v1 ⟨rfl, hb1⟩
        have HB1 := Lib.hid (HB.out.trans (hb1.mono hz))
        have HO1 := Lib.hid (HO.out.below (Nat.le_refl _) hb1)
        clear hb1
        go_wp2_with fail
        refine (G2.out _ HB1.out).mono ?_
        rintro e v2 ⟨rfl, hb2⟩
        have HB2 := Lib.hid (HB1.out.trans (hb2.mono HB1.out.size))
        have HO2 := Lib.hid (HO1.out.below (Nat.le_refl _) hb2)
        clear hb2
        go_wp2_with fail
        refine (G3.out _ HB2.out).mono ?_
        rintro e v3 ⟨rfl, hb3⟩
        have HB3 := Lib.hid (HB2.out.trans (hb3.mono HB2.out.size))
        have HO3 := Lib.hid (HO2.out.below (Nat.le_refl _) hb3)
        clear hb3
        go_wp2_with fail
        refine (G4.out _).mono ?_
        rintro e v4 ⟨rfl, hb4⟩
        have HB4 := Lib.hid (HB3.out.trans (hb4.mono HB3.out.size))
        have HO4 := Lib.hid (HO3.out.below (Nat.le_refl _) hb4)
        have hz4 := HB4.out.size
        clear hb4
        go_wp2_with fail
        go_ret3
        refine crA_no HN.out ?_
        have h9 := HB4.out
        exact h9.alloc h9.size _
      by_cases hk1 : K < 1
      · have HN := Lib.hid (HSTP.out (.inr (.inl hk1)))
        clear HSTP HSTEP HOKE HAT
        go_wp2_with fail
        refine (G1.out _ HB.out).mono ?_
        rintro e v1 ⟨rfl, hb1⟩
        have HB1 := Lib.hid (HB.out.trans (hb1.mono hz))
        have HO1 := Lib.hid (HO.out.below (Nat.le_refl _) hb1)
        clear hb1
        go_wp2_with fail
        refine (G2.out _ HB1.out).mono ?_
        rintro e v2 ⟨rfl, hb2⟩
        have HB2 := Lib.hid (HB1.out.trans (hb2.mono HB1.out.size))
        have HO2 := Lib.hid (HO1.out.below (Nat.le_refl _) hb2)
        clear hb2
        go_wp2_with fail
        refine (G3.out _ HB2.out).mono ?_
        rintro e v3 ⟨rfl, hb3⟩
        have HB3 := Lib.hid (HB2.out.trans (hb3.mono HB2.out.size))
        have HO3 := Lib.hid (HO2.out.below (Nat.le_refl _) hb3)
        clear hb3
        go_wp2_with fail
        refine (G4.out _).mono ?_
        rintro e v4 ⟨rfl, hb4⟩
        have HB4 := Lib.hid (HB3.out.trans (hb4.mono HB3.out.size))
        have HO4 := Lib.hid (HO3.out.below (Nat.le_refl _) hb4)
        have hz4 := HB4.out.size
        clear hb4
        go_wp2_with fail
        go_ret3
        refine crA_no HN.out ?_
        have h9 := HB4.out
        exact h9.alloc h9.size _
      by_cases hk2 : (r : Int) + 1 < K
      · have HN := Lib.hid (HSTP.out (.inr (.inr hk2)))
        have hkr2 : (M : Int) - (m : Int) < K := by omega
        clear HSTP HSTEP HOKE HAT
        go_wp2_with fail
        refine (G1.out _ HB.out).mono ?_
        rintro e v1 ⟨rfl, hb1⟩
        have HB1 := Lib.hid (HB.out.trans (hb1.mono hz))
        have HO1 := Lib.hid (HO.out.below (Nat.le_refl _) hb1)
        clear hb1
        go_wp2_with fail
        refine (G2.out _ HB1.out).mono ?_
        rintro e v2 ⟨rfl, hb2⟩
        have HB2 := Lib.hid (HB1.out.trans (hb2.mono HB1.out.size))
        have HO2 := Lib.hid (HO1.out.below (Nat.le_refl _) hb2)
        clear hb2
        go_wp2_with fail
        refine (G3.out _ HB2.out).mono ?_
        rintro e v3 ⟨rfl, hb3⟩
        have HB3 := Lib.hid (HB2.out.trans (hb3.mono HB2.out.size))
        have HO3 := Lib.hid (HO2.out.below (Nat.le_refl _) hb3)
        clear hb3
        go_wp2_with fail
        refine (G4.out _).mono ?_
        rintro e v4 ⟨rfl, hb4⟩
        have HB4 := Lib.hid (HB3.out.trans (hb4.mono HB3.out.size))
        have HO4 := Lib.hid (HO3.out.below (Nat.le_refl _) hb4)
        have hz4 := HB4.out.size
        clear hb4
        go_wp2_with fail
        go_ret3
        refine crA_no HN.out ?_
        have h9 := HB4.out
        exact h9.alloc h9.size _
      have hkr2 : ¬ (M : Int) - (m : Int) < K := by omega
      obtain ⟨k0, hk0⟩ : ∃ k0 : Nat, K = (k0 : Int) := ⟨K.toNat, by omega⟩
      subst hk0
      have HG3 := Lib.hid (HSTEP.out (by rw [HOKE.out]; rfl) ⟨by omega, by omega⟩)
      rw [Int.toNat_natCast, HAT.out (by trivial)] at HG3
      clear HSTP HSTEP HOKE HAT
      go_wp2_with fail
      refine (G1.out _ HB.out).mono ?_
      rintro e v1 ⟨rfl, hb1⟩
      have HB1 := Lib.hid (HB.out.trans (hb1.mono hz))
      have HO1 := Lib.hid (HO.out.below (Nat.le_refl _) hb1)
      clear hb1
      go_wp2_with fail
      refine (G2.out _ HB1.out).mono ?_
      rintro e v2 ⟨rfl, hb2⟩
      have HB2 := Lib.hid (HB1.out.trans (hb2.mono HB1.out.size))
      have HO2 := Lib.hid (HO1.out.below (Nat.le_refl _) hb2)
      clear hb2
      go_wp2_with fail
      refine (G3.out _ HB2.out).mono ?_
      rintro e v3 ⟨rfl, hb3⟩
      have HB3 := Lib.hid (HB2.out.trans (hb3.mono HB2.out.size))
      have HO3 := Lib.hid (HO2.out.below (Nat.le_refl _) hb3)
      clear hb3
      go_wp2_with fail
      refine (G4.out _).mono ?_
      rintro e v4 ⟨rfl, hb4⟩
      have HB4 := Lib.hid (HB3.out.trans (hb4.mono HB3.out.size))
      have HO4 := Lib.hid (HO3.out.below (Nat.le_refl _) hb4)
      have hz4 := HB4.out.size
      clear hb4
      go_wp2_with fail
      have HI0 := Lib.hid (show SunIn w (expand R) ⟨R2, f1, g1, b5, u5, t5⟩ v4.heap.size 0 m c2 A2 (v4.alloc (.cells #[.int .i64 f1, .int .i64 g1, .bool b5, .bool u5, .bool t5] 49)) from ⟨by rw [List.replicate_zero, List.append_nil]; exact HO4.out.below (Nat.le_refl _) ((Below.refl v4.heap.size v4).alloc (Nat.le_refl _) _), Opq.RowB.new v4 _ _, fun e => by have := (HO4.out.blk _ e).2; omega, by simp; omega, HB4.out.alloc hz4 _⟩)
      clear HO1 HO2 HO3 HO4 HB1 HB2 HB3 HB4
      go_loopw [9, 11] (fun y i w3 => ∃ (j m3 c3 : Nat) (A3 : Option Addr), y = .slice A3 m3 c3 ∧ i = .int .i64 ((k0 : Int) - (j : Int)) ∧ j ≤ k0 ∧ m3 = m + j ∧ SunIn w (expand R) ⟨R2, f1, g1, b5, u5, t5⟩ v4.heap.size j m3 c3 A3 w3) (fun _ i _ => (intOf i).toNat)
      case atStart => exact ⟨0, m, c2, A2, rfl, by go_num, Nat.zero_le _, rfl, HI0.out⟩
      case round =>
        obtain ⟨j, m3, c3, A3, rfl, rfl, hj, hm3, ho3, hr3, hne3, hz3, hb3⟩ := hrel
        clear HI0
        have HO3 := Lib.hid ho3
        have HR3 := Lib.hid hr3
        have HN3 := Lib.hid hne3
        have HB3 := Lib.hid hb3
        have HM3 := Lib.hid hm3
        have hm3b : m3 ≤ 8000 := by omega
        have hgl : v4.heap.size < wr.heap.size := hr3.lt
        clear ho3 hr3 hne3 hb3 hm3
        by_cases hjk : j < k0
        · have b0 : wr.cell? ⟨v4.heap.size, 0, none⟩ = some (.int .i64 f1) := HR3.out.cell 0
          have b1 : wr.cell? ⟨v4.heap.size, 1, none⟩ = some (.int .i64 g1) := HR3.out.cell 1
          have b2 : wr.cell? ⟨v4.heap.size, 2, none⟩ = some (.bool b5) := HR3.out.cell 2
          have b3 : wr.cell? ⟨v4.heap.size, 3, none⟩ = some (.bool u5) := HR3.out.cell 3
          have b4 : wr.cell? ⟨v4.heap.size, 4, none⟩ = some (.bool t5) := HR3.out.cell 4
          have hpos : 0 < (k0 : Int) - (j : Int) := by omega
          go_wp2_with (at_builtin; refine append_cellG rfl _ _ rfl rfl _ rfl rfl HO3.out (by omega) hz3 ?_)
          intro A4 c4 w4 ho4 hg4
          have HI := Lib.hid (show SunIn w (expand R) ⟨R2, f1, g1, b5, u5, t5⟩ v4.heap.size (j + 1) (m3 + 1) c4 A4 w4 from ⟨by rw [List.replicate_succ']; exact ho4, (hg4.row HR3.out HN3.out).1, (hg4.row HR3.out HN3.out).2, Nat.le_trans hz3 hg4.1.size, HB3.out.trans (hg4.below hz3 (fun g hg => (HO3.out.blk g hg).1))⟩)
          clear ho4 hg4 b0 b1 b2 b3 b4
          go_wp2_with fail
          exact ⟨⟨j + 1, m3 + 1, c4, A4, rfl, by go_num, by omega, by have := HM3.out; omega, HI.out⟩, by simp [intOf]; omega⟩
        · obtain rfl : k0 = j := by omega
          have hnp : ¬ 0 < (k0 : Int) - (k0 : Int) := by omega
          have HF := Lib.hid (show SrIn zs (a0 : Int) M w (R ++ [(k0, ⟨R2, f1, g1, b5, u5, t5⟩)]) Y f' (r + 1 - k0) m3 c3 A3 wr from by
            have e1 : expand (R ++ [(k0, (⟨R2, f1, g1, b5, u5, t5⟩ : CellD))]) = expand R ++ List.replicate k0 ⟨R2, f1, g1, b5, u5, t5⟩ := expand_snoc _ _ _
            refine ⟨?_, by have := HM3.out; omega, by omega, by rw [e1]; exact HO3.out, ?_, hz3, HB3.out⟩
            · rw [e1, List.length_append, List.length_replicate, HLE.out, HM3.out]
            · rw [HG3.out]
              cases rs zs f' Y (r + 1 - k0) with
              | none => rfl
              | some q => simp)
          go_wp2_with fail
          exact ⟨⟨_, _, _, _, _, _, _, rfl, rfl, HF.out⟩, by have := HM3.out; simp [lenW]; omega⟩
    · obtain rfl : m = M := by omega
      obtain rfl : rem = 0 := by omega
      have hrs : rs zs m (a0 : Int) m = some (R, pp) := by rw [HRS.out, rs_zero]; show some (R ++ [], pp) = _; rw [List.append_nil]
      obtain ⟨e0, he0, hae, hen, hRl, hR1, hseg⟩ := rs_seg HG.out m a0 m R pp (by rw [HL.out]; exact han) hrs
      subst he0
      rw [HL.out] at hen
      have hlt9 := last_test HG.out (by rw [HL.out]; exact han) hrs
      rw [Int.toNat_natCast] at hlt9
      have HV := Lib.hid (show crV zs (a0 : Int) (m : Int) = if goodR none R = true then some (R, (e0 : Int)) else none by rw [HCV.out, hrs]; rfl)
      have hcb : cbB (expand R) = (expand R).all okC := by unfold cbB; rw [HLE.out, decide_eq_true hM4, Bool.true_and]
      have HCBS := Lib.hid (fun V (h : OwnC V w.heap.size A2 m c2 (expand R)) => spec_CellsBytes_any A2 m c2 (expand R) V h.rd HLE.out (by omega))
      have HSG := Lib.hid (fun V (h : Below w.heap.size w V) => HRD.out V h)
      obtain ⟨SEG, hSEG⟩ : ∃ S, S = (zs.drop a0).take (e0 - a0) := ⟨_, rfl⟩
      have hSl : SEG.length = e0 - a0 := by rw [hSEG]; simp; have := HL.out; omega
      have HRNG := Lib.hid (show Rng SEG from fun z hz => HG.out z (by rw [hSEG] at hz; exact List.mem_of_mem_drop (List.mem_of_mem_take hz)))
      rw [← hSEG] at hlt9
      have HSEG := Lib.hid hSEG
      have HSL := Lib.hid hSl
      cases hall : (expand R).all okC
      · have HN := Lib.hid (show crV zs (a0 : Int) (m : Int) = none by rw [HV.out, hlt9, hall]; rfl)
        rw [hcb, hall] at HCBS
        clear hlt9 hcb hall hSEG hSl hrs hseg HV
        go_wp2_with fail
        refine (HCBS.out _ HO.out).mono ?_
        rintro e v1 ⟨A9, c9, rfl, ho9, hb9⟩
        have HB9 := Lib.hid (HB.out.trans (hb9.mono hz))
        clear ho9 hb9 HCBS
        go_upto_region 17 with fail
        go_quiet (fail)
        go_wp2_with fail
        go_ret3
        exact crA_no HN.out (below_drewN HB9.out nq)
      · have heO : cbO (expand R) = encR (expand R) := by unfold cbO; rw [if_pos (by rw [hcb, hall])]
        have hel := encR_len 4000 (expand R) (by rw [HLE.out]; omega) (by omega) hall
        rw [hcb, hall, heO] at HCBS
        obtain ⟨ENC, hENC⟩ : ∃ E, E = encR (expand R) := ⟨_, rfl⟩
        have HENR := Lib.hid (show ∀ x ∈ ENC, 0 ≤ x ∧ x < 256 by rw [hENC]; exact encR_rng _ _ (Nat.le_refl _))
        rw [hall, Bool.true_and, ← hENC] at hlt9
        rw [← hENC] at HCBS
        have hel2 : ENC.length ≤ 60000 := by rw [hENC]; rw [HLE.out] at hel; omega
        clear hcb hall hSEG hSl hrs hseg heO hel hENC
        rcases HAS.out with ⟨rfl, hn0, hc0⟩ | ⟨gA, rfl⟩
        · obtain rfl : a0 = 0 := by omega
          obtain rfl : e0 = 0 := by omega
          obtain rfl : n = 0 := hn0
          obtain rfl : c = 0 := hc0
          have HSN := Lib.hid (show SEG = [] from List.eq_nil_of_length_eq_zero HSL.out)
          go_wp2_with fail
          refine (HCBS.out _ HO.out).mono ?_
          rintro e v1 ⟨A9, c9, rfl, ho9, hb9⟩
          have HB9 := Lib.hid (HB.out.trans (hb9.mono hz))
          have hcv1 : ∀ nq, (convert 24 9 (.slice A9 ENC.length c9)).run Try.prog (v1.drewN nq) = .ok (.string (strOfNums ENC)) (v1.drewN nq) := fun nq => conv_any ho9.rd ho9.len (own_none ho9) (v1.drewN nq) (fun p u h => h)
          have hrs9 : Rd v1 v1.heap.size (none) SEG := by rw [HSN.out]; exact rd_nil' _ _ _
          have hcv2 : ∀ nq, (convert 24 9 (.slice (none) (0) (0))).run Try.prog (v1.drewN nq) = .ok (.string (strOfNums SEG)) (v1.drewN nq) := fun nq => conv_any hrs9 (by rw [HSN.out]; rfl) (fun _ => ⟨rfl, rfl⟩) (v1.drewN nq) (fun p u h => h)
          have HO9_ := Lib.hid (HO.out.below (Nat.le_refl _) hb9)
          clear ho9 hb9 HCBS hrs9
          by_cases heq : ENC = SEG
          · obtain ⟨hne1, hne2⟩ := str_eq heq
            have HY := Lib.hid (show crV zs ((0 : Nat) : Int) (m : Int) = some (R, ((0 : Nat) : Int)) by rw [HV.out, hlt9, decide_eq_true heq]; rfl)
            have HO9 := HO9_
            clear heq hlt9 HV
            go_upto_region 17 with fail
            go_quiet (fail)
            go_wp2_with fail
            go_ret3
            exact crA_yes (w' := v1.drewN nq) HY.out HLE.out (show OwnC (v1.drewN nq) w.heap.size A2 m c2 (expand R) from HO9.out) (below_drewN HB9.out nq)
          · obtain ⟨hne1, hne2⟩ := str_ne HENR.out HRNG.out heq
            have HN := Lib.hid (show crV zs ((0 : Nat) : Int) (m : Int) = none by rw [HV.out, hlt9, decide_eq_false heq]; rfl)
            clear heq hlt9 HV
            go_upto_region 17 with fail
            go_quiet (fail)
            go_wp2_with fail
            go_ret3
            exact crA_no HN.out (below_drewN HB9.out nq)
        · by_cases hca : c = a0
          · subst hca
            obtain rfl : e0 = c := by omega
            have HSN := Lib.hid (show SEG = [] from List.eq_nil_of_length_eq_zero (by have := HSL.out; omega))
            go_wp2_with fail
            refine (HCBS.out _ HO.out).mono ?_
            rintro e v1 ⟨A9, c9, rfl, ho9, hb9⟩
            have HB9 := Lib.hid (HB.out.trans (hb9.mono hz))
            have hcv1 : ∀ nq, (convert 24 9 (.slice A9 ENC.length c9)).run Try.prog (v1.drewN nq) = .ok (.string (strOfNums ENC)) (v1.drewN nq) := fun nq => conv_any ho9.rd ho9.len (own_none ho9) (v1.drewN nq) (fun p u h => h)
            have hrs9 : Rd v1 v1.heap.size (some ⟨gA, 0, none⟩) SEG := by rw [HSN.out]; exact rd_nil' _ _ _
            have hcv2 : ∀ nq, (convert 24 9 (.slice (some ⟨gA, 0, none⟩) (0) (0))).run Try.prog (v1.drewN nq) = .ok (.string (strOfNums SEG)) (v1.drewN nq) := fun nq => conv_any hrs9 (by rw [HSN.out]; rfl) (fun h => by cases h) (v1.drewN nq) (fun p u h => h)
            have HO9_ := Lib.hid (HO.out.below (Nat.le_refl _) hb9)
            clear ho9 hb9 HCBS hrs9
            by_cases heq : ENC = SEG
            · obtain ⟨hne1, hne2⟩ := str_eq heq
              have HY := Lib.hid (show crV zs (e0 : Int) (m : Int) = some (R, (e0 : Int)) by rw [HV.out, hlt9, decide_eq_true heq]; rfl)
              have HO9 := HO9_
              clear heq hlt9 HV
              go_upto_region 17 with fail
              go_quiet (fail)
              go_wp2_with fail
              go_ret3
              exact crA_yes (w' := v1.drewN nq) HY.out HLE.out (show OwnC (v1.drewN nq) w.heap.size A2 m c2 (expand R) from HO9.out) (below_drewN HB9.out nq)
            · obtain ⟨hne1, hne2⟩ := str_ne HENR.out HRNG.out heq
              have HN := Lib.hid (show crV zs (e0 : Int) (m : Int) = none by rw [HV.out, hlt9, decide_eq_false heq]; rfl)
              clear heq hlt9 HV
              go_upto_region 17 with fail
              go_quiet (fail)
              go_wp2_with fail
              go_ret3
              exact crA_no HN.out (below_drewN HB9.out nq)
          · have hec : (e0 : Int) ≤ (c : Int) := by omega
            have hae2 : (a0 : Int) ≤ (e0 : Int) := by omega
            go_wp2_with fail
            refine (HCBS.out _ HO.out).mono ?_
            rintro e v1 ⟨A9, c9, rfl, ho9, hb9⟩
            have HB9 := Lib.hid (HB.out.trans (hb9.mono hz))
            have hcv1 : ∀ nq, (convert 24 9 (.slice A9 ENC.length c9)).run Try.prog (v1.drewN nq) = .ok (.string (strOfNums ENC)) (v1.drewN nq) := fun nq => conv_any ho9.rd ho9.len (own_none ho9) (v1.drewN nq) (fun p u h => h)
            have hrs9 : Rd v1 v1.heap.size (some ⟨gA, a0, none⟩) SEG := by have h := rd_seg (HSG.out v1 HB9.out) a0 (e0 - a0) (by rw [HL.out]; omega); rw [Nat.zero_add, ← HSEG.out] at h; exact h
            have hcv2 : ∀ nq, (convert 24 9 (.slice (some ⟨gA, a0, none⟩) (e0 - a0) (c - a0))).run Try.prog (v1.drewN nq) = .ok (.string (strOfNums SEG)) (v1.drewN nq) := fun nq => conv_any hrs9 (HSL.out) (fun h => by cases h) (v1.drewN nq) (fun p u h => h)
            have HO9_ := Lib.hid (HO.out.below (Nat.le_refl _) hb9)
            clear ho9 hb9 HCBS hrs9
            by_cases heq : ENC = SEG
            · obtain ⟨hne1, hne2⟩ := str_eq heq
              have HY := Lib.hid (show crV zs (a0 : Int) (m : Int) = some (R, (e0 : Int)) by rw [HV.out, hlt9, decide_eq_true heq]; rfl)
              have HO9 := HO9_
              clear heq hlt9 HV
              go_upto_region 17 with fail
              go_quiet (fail)
              go_wp2_with fail
              go_ret3
              exact crA_yes (w' := v1.drewN nq) HY.out HLE.out (show OwnC (v1.drewN nq) w.heap.size A2 m c2 (expand R) from HO9.out) (below_drewN HB9.out nq)
            · obtain ⟨hne1, hne2⟩ := str_ne HENR.out HRNG.out heq
              have HN := Lib.hid (show crV zs (a0 : Int) (m : Int) = none by rw [HV.out, hlt9, decide_eq_false heq]; rfl)
              clear heq hlt9 HV
              go_upto_region 17 with fail
              go_quiet (fail)
              go_wp2_with fail
              go_ret3
              exact crA_no HN.out (below_drewN HB9.out nq)
end Go.Proofs.Ytbifbeahakchjaa.Cb
