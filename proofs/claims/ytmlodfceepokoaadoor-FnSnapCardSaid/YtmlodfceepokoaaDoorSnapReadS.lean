/- Contract of the reading of a snapshot, in the model: it writes the snapshot again and compares. -/
import Derived.Test.YtmlodfceepokoaaDoorSnapSpec
import Derived.Test.YtmlodfceepokoaaDoorGetSpec
namespace Go.Proofs.YtmlodfceepokoaaDoor.Snap
open Go.RowKit Go.Proofs.YtmlodfceepokoaaDoor.Bytes Go.Proofs.YtmlodfceepokoaaDoor.Var Go.Proofs.YtmlodfceepokoaaDoor.Crc Go.Proofs.YtmlodfceepokoaaDoor.Frame
set_option linter.unusedVariables false

theorem rdS_drop {w : World} {B b o : Nat} {zs : List Int} (h : Rd w B (some ⟨b, o, none⟩) zs) (E : Nat) (hE : E ≤ zs.length) : Rd w B (some ⟨b, o + E, none⟩) (zs.drop E) := by
  intro hn
  rw [List.length_drop] at hn
  obtain ⟨b', o', e, hlt, hc⟩ := h (by omega)
  injection e with e
  injection e with e1 e2
  subst e1 e2
  refine ⟨_, _, rfl, hlt, fun k hk => ?_⟩
  rw [List.length_drop] at hk
  rw [Nat.add_assoc, hc (E + k) (by omega)]
  simp [List.getD]
theorem rngS_drop {zs : List Int} (h : Rng zs) (E : Nat) : Rng (zs.drop E) := fun z hz => h z (List.mem_of_mem_drop hz)
theorem rngS_take {zs : List Int} (h : Rng zs) (E : Nat) : Rng (zs.take E) := fun z hz => h z (List.mem_of_mem_take hz)
theorem s4_text : (strOfNums s4).toList = [83, 78, 65, 80] := by rw [ByteArray.toList_eq]; decide
theorem not_of_bne {a : Bool} (h : a = true) : (!a) = false := by rw [h]; rfl
theorem rd_conv {W : World} {B b o n c : Nat} {zs : List Int} (h : Rd W B (some ⟨b, o, none⟩) zs) (m : Nat) (hm : m ≤ zs.length) (hn : n = m) :
    (convert 22 9 (.slice (some ⟨b, o, none⟩) n c)).run Tryd.prog W = .ok (.string (strOfNums (zs.take m))) W := by
  subst hn
  refine run_convert_bytes_arg W 22 5 Tryd.underlying22 Tryd.underlying5 b o n c (zs.take n) (by rw [List.length_take]; omega) (fun i hi => ?_) 9 Tryd.underlying9
  obtain ⟨b2, o2, e2, _, hc2⟩ := h.at_ (k := i) (by omega)
  injection e2 with e2
  injection e2 with e3 e4
  subst e3 e4
  rw [hc2]; simp [List.getD, hi]

/-- where the numbers are right: all in natural numbers -/
structure SNums (zs : List Int) (P1 P2 P3 P4 G S Z C : Nat) : Prop where
  o0 : gvOk zs 4 = true
  o1 : gvOk zs (P1 : Int) = true
  o2 : gvOk zs (P2 : Int) = true
  o3 : gvOk zs (P3 : Int) = true
  e0 : gvE zs 4 = (P1 : Int)
  e1 : gvE zs (P1 : Int) = (P2 : Int)
  e2 : gvE zs (P2 : Int) = (P3 : Int)
  e3 : gvE zs (P3 : Int) = (P4 : Int)
  v0 : gvN zs 4 = (G : Int)
  v1 : gvN zs (P1 : Int) = (S : Int)
  v2 : gvN zs (P2 : Int) = (Z : Int)
  v3 : gvN zs (P3 : Int) = (C : Int)
theorem snums_of {zs : List Int} (h : ok4 zs = true) : ∃ P1 P2 P3 P4 G S Z C : Nat, SNums zs P1 P2 P3 P4 G S Z C ∧ 4 < P1 ∧ P1 < P2 ∧ P2 < P3 ∧ P3 < P4 ∧ P4 ≤ zs.length ∧ P4 ≤ 24 ∧ G ≤ 4294967295 ∧ S ≤ 4294967295 ∧ Z ≤ 4294967295 ∧ C ≤ 4294967295 ∧
    num zs 0 = (G : Int) ∧ num zs 1 = (S : Int) ∧ num zs 2 = (Z : Int) ∧ num zs 3 = (C : Int) ∧ pos zs 4 = (P4 : Int) ∧ pos zs 3 = (P3 : Int) ∧ sData zs = zs.drop P4 ∧ sHead zs = zs.take P3 := by
  obtain ⟨o0, o1, o2, o3⟩ := ok4_yes h
  have hp := sn_places h
  obtain ⟨P1, hP1⟩ := Int.eq_ofNat_of_zero_le (show 0 ≤ pos zs 1 by omega)
  obtain ⟨P2, hP2⟩ := Int.eq_ofNat_of_zero_le (show 0 ≤ pos zs 2 by omega)
  obtain ⟨P3, hP3⟩ := Int.eq_ofNat_of_zero_le (show 0 ≤ pos zs 3 by omega)
  obtain ⟨P4, hP4⟩ := Int.eq_ofNat_of_zero_le (show 0 ≤ pos zs 4 by omega)
  obtain ⟨G, hG⟩ := Int.eq_ofNat_of_zero_le (show 0 ≤ num zs 0 by omega)
  obtain ⟨S, hS⟩ := Int.eq_ofNat_of_zero_le (show 0 ≤ num zs 1 by omega)
  obtain ⟨Z, hZ⟩ := Int.eq_ofNat_of_zero_le (show 0 ≤ num zs 2 by omega)
  obtain ⟨C, hC⟩ := Int.eq_ofNat_of_zero_le (show 0 ≤ num zs 3 by omega)
  refine ⟨P1, P2, P3, P4, G, S, Z, C, ⟨o0, hP1 ▸ o1, hP2 ▸ o2, hP3 ▸ o3, hP1, ?_, ?_, ?_, hG, ?_, ?_, ?_⟩, by omega, by omega, by omega, by omega, by omega, by omega, by omega, by omega, by omega, by omega, hG, hS, hZ, hC, hP4, hP3, ?_, ?_⟩
  · rw [← hP1]; exact hP2
  · rw [← hP2]; exact hP3
  · rw [← hP3]; exact hP4
  · rw [← hP1]; exact hS
  · rw [← hP2]; exact hZ
  · rw [← hP3]; exact hC
  · unfold sData; rw [hP4, Int.toNat_natCast]
  · unfold sHead; rw [hP3, Int.toNat_natCast]

set_option maxRecDepth 100000 in
set_option maxHeartbeats 1600000 in
theorem s_1 (A : Option Addr) (n c : Nat) (zs : List Int)  (w : World) (hr : Rd w w.heap.size A zs) (hg : Rng zs) (hl : zs.length = n) (hn : n ≤ 1099511627776) (hnc : n ≤ c) (h : isS zs = false) :
    Calls Tryd.prog 14 #[.slice A n c] w fun e w' => e = .returned (.tuple #[.int .i64 0, .int .i64 0, .slice none 0 0, .int .i64 1]) ∧ Below w.heap.size w w' := by
  have HL := Lib.hid hl
  by_cases h4 : n < 4
  · clear h hl
    have h4' : (n : Int) < 4 := by omega
    go_enter Tryd.func14, Tryd.ntmps14
    go_wp2_with fail
    refine bodyPost_ret (v := .tuple #[.int .i64 0, .int .i64 0, .slice none 0 0, .int .i64 1]) (by simp [results, Tryd.results14, go_sem]) rfl ⟨rfl, Below.refl _ _⟩
  · have h4' : (4 : Int) ≤ (n : Int) := by omega
    have h4n : 4 ≤ c := by omega
    obtain ⟨b, o, rfl, hB, _⟩ := hr.at_ (k := 0) (by omega)
    have hcv := rd_conv (c := c) hr 4 (by omega) rfl
    have hne : zs.take 4 ≠ s4 := of_decide_eq_false h
    obtain ⟨q1, q2⟩ := str_ne (rngS_take hg 4) s4_rng hne
    rw [s4_text] at q1 q2
    generalize strOfNums (zs.take 4) = X at *
    clear h hl hne h4
    go_enter Tryd.func14, Tryd.ntmps14
    go_wp2_with fail
    refine bodyPost_ret (v := .tuple #[.int .i64 0, .int .i64 0, .slice none 0 0, .int .i64 1]) (by simp [results, Tryd.results14, go_sem]) rfl ⟨rfl, Below.refl _ _⟩

set_option maxRecDepth 100000 in
set_option maxHeartbeats 3200000 in
theorem s_2 (A : Option Addr) (n c : Nat) (zs : List Int)  (w : World) (hr : Rd w w.heap.size A zs) (hg : Rng zs) (hl : zs.length = n) (hn : n ≤ 1099511627776) (hnc : n ≤ c) (hS4 : isS zs = true) (h : ok4 zs = false) :
    Calls Tryd.prog 14 #[.slice A n c] w fun e w' => e = .returned (.tuple #[.int .i64 0, .int .i64 0, .slice none 0 0, .int .i64 2]) ∧ Below w.heap.size w w' := by
  have HL := Lib.hid hl
  have HG := Lib.hid hg
  have HR := Lib.hid hr
  have hn4 := isS_len hS4
  have h4' : (4 : Int) ≤ (n : Int) := by omega
  have h4n : 4 ≤ c := by omega
  obtain ⟨b, o, rfl, hB, _⟩ := hr.at_ (k := 0) (by omega)
  have hcv := rd_conv (c := c) hr 4 (by omega) rfl
  obtain ⟨f1, f2⟩ := str_eq (of_decide_eq_true hS4)
  rw [s4_text] at f1 f2
  have fq3 := not_of_bne f1
  generalize strOfNums (zs.take 4) = X at *
  clear hl hS4 hn4 hr
  have HB0 := Lib.hid (Below.refl w.heap.size w)
  have H3 := Lib.hid h
  obtain ⟨o0, ho0⟩ : ∃ x, x = gvOk zs 4 := ⟨_, rfl⟩
  obtain ⟨q1, hq1⟩ : ∃ x, x = gvE zs 4 := ⟨_, rfl⟩
  obtain ⟨x0, hv0⟩ : ∃ x, x = gvN zs 4 := ⟨_, rfl⟩
  obtain ⟨o1, ho1⟩ : ∃ x, x = gvOk zs q1 := ⟨_, rfl⟩
  obtain ⟨q2, hq2⟩ : ∃ x, x = gvE zs q1 := ⟨_, rfl⟩
  obtain ⟨x1, hv1⟩ : ∃ x, x = gvN zs q1 := ⟨_, rfl⟩
  obtain ⟨o2, ho2⟩ : ∃ x, x = gvOk zs q2 := ⟨_, rfl⟩
  obtain ⟨q3, hq3⟩ : ∃ x, x = gvE zs q2 := ⟨_, rfl⟩
  obtain ⟨x2, hv2⟩ : ∃ x, x = gvN zs q2 := ⟨_, rfl⟩
  obtain ⟨o3, ho3⟩ : ∃ x, x = gvOk zs q3 := ⟨_, rfl⟩
  obtain ⟨q4, hq4⟩ : ∃ x, x = gvE zs q3 := ⟨_, rfl⟩
  obtain ⟨x3, hv3⟩ : ∃ x, x = gvN zs q3 := ⟨_, rfl⟩
  have hand : (o0 && o1 && o2 && o3) = false := by
    have := H3.out
    unfold ok4 okn at this
    rw [show pos zs 3 = q3 by rw [hq3, hq2, hq1]; rfl, show pos zs 2 = q2 by rw [hq2, hq1]; rfl, show pos zs 1 = q1 by rw [hq1]; rfl, show pos zs 0 = 4 from rfl] at this
    rw [ho0, ho1, ho2, ho3]; exact this
  have E0 := Lib.hid (And.intro ho0.symm (And.intro hq1.symm hv0.symm))
  have E1 := Lib.hid (And.intro ho1.symm (And.intro hq2.symm hv1.symm))
  have E2 := Lib.hid (And.intro ho2.symm (And.intro hq3.symm hv2.symm))
  have E3 := Lib.hid (And.intro ho3.symm (And.intro hq4.symm hv3.symm))
  clear h ho0 hq1 hv0 ho1 hq2 hv1 ho2 hq3 hv2 ho3 hq4 hv3
  rcases o0 with _ | _
  · clear hand
    go_enter Tryd.func14, Tryd.ntmps14
    go_wp2_with fail
    refine (spec_GetVar_any _ n _ zs 4 _ ((HR.out.below (Nat.le_refl _) HB0.out).more HB0.out.size) HG.out HL.out hn hnc).mono ?_
    rintro e v1 ⟨he, hx1⟩
    unfold gvRet at he
    rw [E0.out.1, E0.out.2.1, E0.out.2.2] at he
    subst he
    have HB1 := Lib.hid (HB0.out.trans (hx1.mono HB0.out.size))
    clear hx1
    go_wp2_with fail
    refine (spec_GetVar_any _ n _ zs q1 _ ((HR.out.below (Nat.le_refl _) HB1.out).more HB1.out.size) HG.out HL.out hn hnc).mono ?_
    rintro e v2 ⟨he, hx2⟩
    unfold gvRet at he
    rw [E1.out.1, E1.out.2.1, E1.out.2.2] at he
    subst he
    have HB2 := Lib.hid (HB1.out.trans (hx2.mono HB1.out.size))
    clear hx2
    go_wp2_with fail
    refine (spec_GetVar_any _ n _ zs q2 _ ((HR.out.below (Nat.le_refl _) HB2.out).more HB2.out.size) HG.out HL.out hn hnc).mono ?_
    rintro e v3 ⟨he, hx3⟩
    unfold gvRet at he
    rw [E2.out.1, E2.out.2.1, E2.out.2.2] at he
    subst he
    have HB3 := Lib.hid (HB2.out.trans (hx3.mono HB2.out.size))
    clear hx3
    go_wp2_with fail
    refine (spec_GetVar_any _ n _ zs q3 _ ((HR.out.below (Nat.le_refl _) HB3.out).more HB3.out.size) HG.out HL.out hn hnc).mono ?_
    rintro e v4 ⟨he, hx4⟩
    unfold gvRet at he
    rw [E3.out.1, E3.out.2.1, E3.out.2.2] at he
    subst he
    have HB4 := Lib.hid (HB3.out.trans (hx4.mono HB3.out.size))
    clear hx4
    go_wp2_with fail
    refine bodyPost_ret (v := .tuple #[.int .i64 0, .int .i64 0, .slice none 0 0, .int .i64 2]) (by simp [results, Tryd.results14, go_sem]) rfl ⟨rfl, HB4.out⟩
  rcases o1 with _ | _
  · clear hand
    go_enter Tryd.func14, Tryd.ntmps14
    go_wp2_with fail
    refine (spec_GetVar_any _ n _ zs 4 _ ((HR.out.below (Nat.le_refl _) HB0.out).more HB0.out.size) HG.out HL.out hn hnc).mono ?_
    rintro e v1 ⟨he, hx1⟩
    unfold gvRet at he
    rw [E0.out.1, E0.out.2.1, E0.out.2.2] at he
    subst he
    have HB1 := Lib.hid (HB0.out.trans (hx1.mono HB0.out.size))
    clear hx1
    go_wp2_with fail
    refine (spec_GetVar_any _ n _ zs q1 _ ((HR.out.below (Nat.le_refl _) HB1.out).more HB1.out.size) HG.out HL.out hn hnc).mono ?_
    rintro e v2 ⟨he, hx2⟩
    unfold gvRet at he
    rw [E1.out.1, E1.out.2.1, E1.out.2.2] at he
    subst he
    have HB2 := Lib.hid (HB1.out.trans (hx2.mono HB1.out.size))
    clear hx2
    go_wp2_with fail
    refine (spec_GetVar_any _ n _ zs q2 _ ((HR.out.below (Nat.le_refl _) HB2.out).more HB2.out.size) HG.out HL.out hn hnc).mono ?_
    rintro e v3 ⟨he, hx3⟩
    unfold gvRet at he
    rw [E2.out.1, E2.out.2.1, E2.out.2.2] at he
    subst he
    have HB3 := Lib.hid (HB2.out.trans (hx3.mono HB2.out.size))
    clear hx3
    go_wp2_with fail
    refine (spec_GetVar_any _ n _ zs q3 _ ((HR.out.below (Nat.le_refl _) HB3.out).more HB3.out.size) HG.out HL.out hn hnc).mono ?_
    rintro e v4 ⟨he, hx4⟩
    unfold gvRet at he
    rw [E3.out.1, E3.out.2.1, E3.out.2.2] at he
    subst he
    have HB4 := Lib.hid (HB3.out.trans (hx4.mono HB3.out.size))
    clear hx4
    go_wp2_with fail
    refine bodyPost_ret (v := .tuple #[.int .i64 0, .int .i64 0, .slice none 0 0, .int .i64 2]) (by simp [results, Tryd.results14, go_sem]) rfl ⟨rfl, HB4.out⟩
  rcases o2 with _ | _
  · clear hand
    go_enter Tryd.func14, Tryd.ntmps14
    go_wp2_with fail
    refine (spec_GetVar_any _ n _ zs 4 _ ((HR.out.below (Nat.le_refl _) HB0.out).more HB0.out.size) HG.out HL.out hn hnc).mono ?_
    rintro e v1 ⟨he, hx1⟩
    unfold gvRet at he
    rw [E0.out.1, E0.out.2.1, E0.out.2.2] at he
    subst he
    have HB1 := Lib.hid (HB0.out.trans (hx1.mono HB0.out.size))
    clear hx1
    go_wp2_with fail
    refine (spec_GetVar_any _ n _ zs q1 _ ((HR.out.below (Nat.le_refl _) HB1.out).more HB1.out.size) HG.out HL.out hn hnc).mono ?_
    rintro e v2 ⟨he, hx2⟩
    unfold gvRet at he
    rw [E1.out.1, E1.out.2.1, E1.out.2.2] at he
    subst he
    have HB2 := Lib.hid (HB1.out.trans (hx2.mono HB1.out.size))
    clear hx2
    go_wp2_with fail
    refine (spec_GetVar_any _ n _ zs q2 _ ((HR.out.below (Nat.le_refl _) HB2.out).more HB2.out.size) HG.out HL.out hn hnc).mono ?_
    rintro e v3 ⟨he, hx3⟩
    unfold gvRet at he
    rw [E2.out.1, E2.out.2.1, E2.out.2.2] at he
    subst he
    have HB3 := Lib.hid (HB2.out.trans (hx3.mono HB2.out.size))
    clear hx3
    go_wp2_with fail
    refine (spec_GetVar_any _ n _ zs q3 _ ((HR.out.below (Nat.le_refl _) HB3.out).more HB3.out.size) HG.out HL.out hn hnc).mono ?_
    rintro e v4 ⟨he, hx4⟩
    unfold gvRet at he
    rw [E3.out.1, E3.out.2.1, E3.out.2.2] at he
    subst he
    have HB4 := Lib.hid (HB3.out.trans (hx4.mono HB3.out.size))
    clear hx4
    go_wp2_with fail
    refine bodyPost_ret (v := .tuple #[.int .i64 0, .int .i64 0, .slice none 0 0, .int .i64 2]) (by simp [results, Tryd.results14, go_sem]) rfl ⟨rfl, HB4.out⟩
  rcases o3 with _ | _
  · clear hand
    go_enter Tryd.func14, Tryd.ntmps14
    go_wp2_with fail
    refine (spec_GetVar_any _ n _ zs 4 _ ((HR.out.below (Nat.le_refl _) HB0.out).more HB0.out.size) HG.out HL.out hn hnc).mono ?_
    rintro e v1 ⟨he, hx1⟩
    unfold gvRet at he
    rw [E0.out.1, E0.out.2.1, E0.out.2.2] at he
    subst he
    have HB1 := Lib.hid (HB0.out.trans (hx1.mono HB0.out.size))
    clear hx1
    go_wp2_with fail
    refine (spec_GetVar_any _ n _ zs q1 _ ((HR.out.below (Nat.le_refl _) HB1.out).more HB1.out.size) HG.out HL.out hn hnc).mono ?_
    rintro e v2 ⟨he, hx2⟩
    unfold gvRet at he
    rw [E1.out.1, E1.out.2.1, E1.out.2.2] at he
    subst he
    have HB2 := Lib.hid (HB1.out.trans (hx2.mono HB1.out.size))
    clear hx2
    go_wp2_with fail
    refine (spec_GetVar_any _ n _ zs q2 _ ((HR.out.below (Nat.le_refl _) HB2.out).more HB2.out.size) HG.out HL.out hn hnc).mono ?_
    rintro e v3 ⟨he, hx3⟩
    unfold gvRet at he
    rw [E2.out.1, E2.out.2.1, E2.out.2.2] at he
    subst he
    have HB3 := Lib.hid (HB2.out.trans (hx3.mono HB2.out.size))
    clear hx3
    go_wp2_with fail
    refine (spec_GetVar_any _ n _ zs q3 _ ((HR.out.below (Nat.le_refl _) HB3.out).more HB3.out.size) HG.out HL.out hn hnc).mono ?_
    rintro e v4 ⟨he, hx4⟩
    unfold gvRet at he
    rw [E3.out.1, E3.out.2.1, E3.out.2.2] at he
    subst he
    have HB4 := Lib.hid (HB3.out.trans (hx4.mono HB3.out.size))
    clear hx4
    go_wp2_with fail
    refine bodyPost_ret (v := .tuple #[.int .i64 0, .int .i64 0, .slice none 0 0, .int .i64 2]) (by simp [results, Tryd.results14, go_sem]) rfl ⟨rfl, HB4.out⟩
  exact absurd hand (by decide)

set_option maxRecDepth 100000 in
set_option maxHeartbeats 6400000 in
theorem s_3 (A : Option Addr) (n c : Nat) (zs : List Int) (P1 P2 P3 P4 G S Z C : Nat) (w : World) (hr : Rd w w.heap.size A zs) (hg : Rng zs) (hl : zs.length = n) (hn : n ≤ 1099511627776) (hnc : n ≤ c) (hS4 : isS zs = true) (hN : SNums zs P1 P2 P3 P4 G S Z C) (hp0 : 4 < P1) (hp1 : P1 < P2) (hp2 : P2 < P3) (hp3 : P3 < P4) (hp4 : P4 ≤ n) (hG : G ≤ 4294967295) (hS : S ≤ 4294967295) (hZ : Z ≤ 4294967295) (hC : C ≤ 4294967295) (h : G < 1 ∨ 1000000000 < G ∨ S < 1 ∨ 1000000000 < S ∨ (Z : Int) ≠ (n : Int) - (P4 : Int) ∨ 150000 < Z) :
    Calls Tryd.prog 14 #[.slice A n c] w fun e w' => e = .returned (.tuple #[.int .i64 0, .int .i64 0, .slice none 0 0, .int .i64 3]) ∧ Below w.heap.size w w' := by
  have HL := Lib.hid hl
  have HG := Lib.hid hg
  have HR := Lib.hid hr
  have hn4 := isS_len hS4
  have h4' : (4 : Int) ≤ (n : Int) := by omega
  have h4n : 4 ≤ c := by omega
  obtain ⟨b, o, rfl, hB, _⟩ := hr.at_ (k := 0) (by omega)
  have hcv := rd_conv (c := c) hr 4 (by omega) rfl
  obtain ⟨f1, f2⟩ := str_eq (of_decide_eq_true hS4)
  rw [s4_text] at f1 f2
  have fq3 := not_of_bne f1
  generalize strOfNums (zs.take 4) = X at *
  clear hl hS4 hn4 hr
  have HB0 := Lib.hid (Below.refl w.heap.size w)
  have HN := Lib.hid hN
  clear hN
  have hsum : IntKind.i64.wrap ((n : Int) - (P4 : Int)) = (n : Int) - (P4 : Int) := IntWalk.i64_in _ (by omega)
  by_cases h1 : G < 1
  · have g1 : (G : Int) < 1 := by omega
    clear h h1
    go_enter Tryd.func14, Tryd.ntmps14
    go_wp2_with fail
    refine (spec_GetVar_any _ n _ zs 4 _ ((HR.out.below (Nat.le_refl _) HB0.out).more HB0.out.size) HG.out HL.out hn hnc).mono ?_
    rintro e v1 ⟨he, hx1⟩
    unfold gvRet at he
    rw [HN.out.o0, HN.out.e0, HN.out.v0] at he
    subst he
    have HB1 := Lib.hid (HB0.out.trans (hx1.mono HB0.out.size))
    clear hx1
    go_wp2_with fail
    refine (spec_GetVar_any _ n _ zs (P1 : Int) _ ((HR.out.below (Nat.le_refl _) HB1.out).more HB1.out.size) HG.out HL.out hn hnc).mono ?_
    rintro e v2 ⟨he, hx2⟩
    unfold gvRet at he
    rw [HN.out.o1, HN.out.e1, HN.out.v1] at he
    subst he
    have HB2 := Lib.hid (HB1.out.trans (hx2.mono HB1.out.size))
    clear hx2
    go_wp2_with fail
    refine (spec_GetVar_any _ n _ zs (P2 : Int) _ ((HR.out.below (Nat.le_refl _) HB2.out).more HB2.out.size) HG.out HL.out hn hnc).mono ?_
    rintro e v3 ⟨he, hx3⟩
    unfold gvRet at he
    rw [HN.out.o2, HN.out.e2, HN.out.v2] at he
    subst he
    have HB3 := Lib.hid (HB2.out.trans (hx3.mono HB2.out.size))
    clear hx3
    go_wp2_with fail
    refine (spec_GetVar_any _ n _ zs (P3 : Int) _ ((HR.out.below (Nat.le_refl _) HB3.out).more HB3.out.size) HG.out HL.out hn hnc).mono ?_
    rintro e v4 ⟨he, hx4⟩
    unfold gvRet at he
    rw [HN.out.o3, HN.out.e3, HN.out.v3] at he
    subst he
    have HB4 := Lib.hid (HB3.out.trans (hx4.mono HB3.out.size))
    clear hx4
    go_wp2_with fail
    refine bodyPost_ret (v := .tuple #[.int .i64 0, .int .i64 0, .slice none 0 0, .int .i64 3]) (by simp [results, Tryd.results14, go_sem]) rfl ⟨rfl, HB4.out⟩
  have a1 : (1 : Int) ≤ (G : Int) := by omega
  clear h1
  by_cases h1 : 1000000000 < G
  · have g1 : (1000000000 : Int) < (G : Int) := by omega
    clear h h1
    go_enter Tryd.func14, Tryd.ntmps14
    go_wp2_with fail
    refine (spec_GetVar_any _ n _ zs 4 _ ((HR.out.below (Nat.le_refl _) HB0.out).more HB0.out.size) HG.out HL.out hn hnc).mono ?_
    rintro e v1 ⟨he, hx1⟩
    unfold gvRet at he
    rw [HN.out.o0, HN.out.e0, HN.out.v0] at he
    subst he
    have HB1 := Lib.hid (HB0.out.trans (hx1.mono HB0.out.size))
    clear hx1
    go_wp2_with fail
    refine (spec_GetVar_any _ n _ zs (P1 : Int) _ ((HR.out.below (Nat.le_refl _) HB1.out).more HB1.out.size) HG.out HL.out hn hnc).mono ?_
    rintro e v2 ⟨he, hx2⟩
    unfold gvRet at he
    rw [HN.out.o1, HN.out.e1, HN.out.v1] at he
    subst he
    have HB2 := Lib.hid (HB1.out.trans (hx2.mono HB1.out.size))
    clear hx2
    go_wp2_with fail
    refine (spec_GetVar_any _ n _ zs (P2 : Int) _ ((HR.out.below (Nat.le_refl _) HB2.out).more HB2.out.size) HG.out HL.out hn hnc).mono ?_
    rintro e v3 ⟨he, hx3⟩
    unfold gvRet at he
    rw [HN.out.o2, HN.out.e2, HN.out.v2] at he
    subst he
    have HB3 := Lib.hid (HB2.out.trans (hx3.mono HB2.out.size))
    clear hx3
    go_wp2_with fail
    refine (spec_GetVar_any _ n _ zs (P3 : Int) _ ((HR.out.below (Nat.le_refl _) HB3.out).more HB3.out.size) HG.out HL.out hn hnc).mono ?_
    rintro e v4 ⟨he, hx4⟩
    unfold gvRet at he
    rw [HN.out.o3, HN.out.e3, HN.out.v3] at he
    subst he
    have HB4 := Lib.hid (HB3.out.trans (hx4.mono HB3.out.size))
    clear hx4
    go_wp2_with fail
    refine bodyPost_ret (v := .tuple #[.int .i64 0, .int .i64 0, .slice none 0 0, .int .i64 3]) (by simp [results, Tryd.results14, go_sem]) rfl ⟨rfl, HB4.out⟩
  have a2 : (G : Int) ≤ 1000000000 := by omega
  clear h1
  by_cases h1 : S < 1
  · have g1 : (S : Int) < 1 := by omega
    clear h h1
    go_enter Tryd.func14, Tryd.ntmps14
    go_wp2_with fail
    refine (spec_GetVar_any _ n _ zs 4 _ ((HR.out.below (Nat.le_refl _) HB0.out).more HB0.out.size) HG.out HL.out hn hnc).mono ?_
    rintro e v1 ⟨he, hx1⟩
    unfold gvRet at he
    rw [HN.out.o0, HN.out.e0, HN.out.v0] at he
    subst he
    have HB1 := Lib.hid (HB0.out.trans (hx1.mono HB0.out.size))
    clear hx1
    go_wp2_with fail
    refine (spec_GetVar_any _ n _ zs (P1 : Int) _ ((HR.out.below (Nat.le_refl _) HB1.out).more HB1.out.size) HG.out HL.out hn hnc).mono ?_
    rintro e v2 ⟨he, hx2⟩
    unfold gvRet at he
    rw [HN.out.o1, HN.out.e1, HN.out.v1] at he
    subst he
    have HB2 := Lib.hid (HB1.out.trans (hx2.mono HB1.out.size))
    clear hx2
    go_wp2_with fail
    refine (spec_GetVar_any _ n _ zs (P2 : Int) _ ((HR.out.below (Nat.le_refl _) HB2.out).more HB2.out.size) HG.out HL.out hn hnc).mono ?_
    rintro e v3 ⟨he, hx3⟩
    unfold gvRet at he
    rw [HN.out.o2, HN.out.e2, HN.out.v2] at he
    subst he
    have HB3 := Lib.hid (HB2.out.trans (hx3.mono HB2.out.size))
    clear hx3
    go_wp2_with fail
    refine (spec_GetVar_any _ n _ zs (P3 : Int) _ ((HR.out.below (Nat.le_refl _) HB3.out).more HB3.out.size) HG.out HL.out hn hnc).mono ?_
    rintro e v4 ⟨he, hx4⟩
    unfold gvRet at he
    rw [HN.out.o3, HN.out.e3, HN.out.v3] at he
    subst he
    have HB4 := Lib.hid (HB3.out.trans (hx4.mono HB3.out.size))
    clear hx4
    go_wp2_with fail
    refine bodyPost_ret (v := .tuple #[.int .i64 0, .int .i64 0, .slice none 0 0, .int .i64 3]) (by simp [results, Tryd.results14, go_sem]) rfl ⟨rfl, HB4.out⟩
  have a3 : (1 : Int) ≤ (S : Int) := by omega
  clear h1
  by_cases h1 : 1000000000 < S
  · have g1 : (1000000000 : Int) < (S : Int) := by omega
    clear h h1
    go_enter Tryd.func14, Tryd.ntmps14
    go_wp2_with fail
    refine (spec_GetVar_any _ n _ zs 4 _ ((HR.out.below (Nat.le_refl _) HB0.out).more HB0.out.size) HG.out HL.out hn hnc).mono ?_
    rintro e v1 ⟨he, hx1⟩
    unfold gvRet at he
    rw [HN.out.o0, HN.out.e0, HN.out.v0] at he
    subst he
    have HB1 := Lib.hid (HB0.out.trans (hx1.mono HB0.out.size))
    clear hx1
    go_wp2_with fail
    refine (spec_GetVar_any _ n _ zs (P1 : Int) _ ((HR.out.below (Nat.le_refl _) HB1.out).more HB1.out.size) HG.out HL.out hn hnc).mono ?_
    rintro e v2 ⟨he, hx2⟩
    unfold gvRet at he
    rw [HN.out.o1, HN.out.e1, HN.out.v1] at he
    subst he
    have HB2 := Lib.hid (HB1.out.trans (hx2.mono HB1.out.size))
    clear hx2
    go_wp2_with fail
    refine (spec_GetVar_any _ n _ zs (P2 : Int) _ ((HR.out.below (Nat.le_refl _) HB2.out).more HB2.out.size) HG.out HL.out hn hnc).mono ?_
    rintro e v3 ⟨he, hx3⟩
    unfold gvRet at he
    rw [HN.out.o2, HN.out.e2, HN.out.v2] at he
    subst he
    have HB3 := Lib.hid (HB2.out.trans (hx3.mono HB2.out.size))
    clear hx3
    go_wp2_with fail
    refine (spec_GetVar_any _ n _ zs (P3 : Int) _ ((HR.out.below (Nat.le_refl _) HB3.out).more HB3.out.size) HG.out HL.out hn hnc).mono ?_
    rintro e v4 ⟨he, hx4⟩
    unfold gvRet at he
    rw [HN.out.o3, HN.out.e3, HN.out.v3] at he
    subst he
    have HB4 := Lib.hid (HB3.out.trans (hx4.mono HB3.out.size))
    clear hx4
    go_wp2_with fail
    refine bodyPost_ret (v := .tuple #[.int .i64 0, .int .i64 0, .slice none 0 0, .int .i64 3]) (by simp [results, Tryd.results14, go_sem]) rfl ⟨rfl, HB4.out⟩
  have a4 : (S : Int) ≤ 1000000000 := by omega
  clear h1
  by_cases h1 : (Z : Int) ≠ (n : Int) - (P4 : Int)
  · have g1 : ((Z : Int) != (n : Int) - (P4 : Int)) = true := by simpa using h1
    clear h h1
    go_enter Tryd.func14, Tryd.ntmps14
    go_wp2_with fail
    refine (spec_GetVar_any _ n _ zs 4 _ ((HR.out.below (Nat.le_refl _) HB0.out).more HB0.out.size) HG.out HL.out hn hnc).mono ?_
    rintro e v1 ⟨he, hx1⟩
    unfold gvRet at he
    rw [HN.out.o0, HN.out.e0, HN.out.v0] at he
    subst he
    have HB1 := Lib.hid (HB0.out.trans (hx1.mono HB0.out.size))
    clear hx1
    go_wp2_with fail
    refine (spec_GetVar_any _ n _ zs (P1 : Int) _ ((HR.out.below (Nat.le_refl _) HB1.out).more HB1.out.size) HG.out HL.out hn hnc).mono ?_
    rintro e v2 ⟨he, hx2⟩
    unfold gvRet at he
    rw [HN.out.o1, HN.out.e1, HN.out.v1] at he
    subst he
    have HB2 := Lib.hid (HB1.out.trans (hx2.mono HB1.out.size))
    clear hx2
    go_wp2_with fail
    refine (spec_GetVar_any _ n _ zs (P2 : Int) _ ((HR.out.below (Nat.le_refl _) HB2.out).more HB2.out.size) HG.out HL.out hn hnc).mono ?_
    rintro e v3 ⟨he, hx3⟩
    unfold gvRet at he
    rw [HN.out.o2, HN.out.e2, HN.out.v2] at he
    subst he
    have HB3 := Lib.hid (HB2.out.trans (hx3.mono HB2.out.size))
    clear hx3
    go_wp2_with fail
    refine (spec_GetVar_any _ n _ zs (P3 : Int) _ ((HR.out.below (Nat.le_refl _) HB3.out).more HB3.out.size) HG.out HL.out hn hnc).mono ?_
    rintro e v4 ⟨he, hx4⟩
    unfold gvRet at he
    rw [HN.out.o3, HN.out.e3, HN.out.v3] at he
    subst he
    have HB4 := Lib.hid (HB3.out.trans (hx4.mono HB3.out.size))
    clear hx4
    go_wp2_with fail
    refine bodyPost_ret (v := .tuple #[.int .i64 0, .int .i64 0, .slice none 0 0, .int .i64 3]) (by simp [results, Tryd.results14, go_sem]) rfl ⟨rfl, HB4.out⟩
  have a5 : ((Z : Int) != (n : Int) - (P4 : Int)) = false := by simpa using h1
  clear h1
  have g0 : (Z : Int) = (n : Int) - (P4 : Int) := by simpa using a5
  have g1 : (150000 : Int) < (Z : Int) := by omega
  clear h g0
  go_enter Tryd.func14, Tryd.ntmps14
  go_wp2_with fail
  refine (spec_GetVar_any _ n _ zs 4 _ ((HR.out.below (Nat.le_refl _) HB0.out).more HB0.out.size) HG.out HL.out hn hnc).mono ?_
  rintro e v1 ⟨he, hx1⟩
  unfold gvRet at he
  rw [HN.out.o0, HN.out.e0, HN.out.v0] at he
  subst he
  have HB1 := Lib.hid (HB0.out.trans (hx1.mono HB0.out.size))
  clear hx1
  go_wp2_with fail
  refine (spec_GetVar_any _ n _ zs (P1 : Int) _ ((HR.out.below (Nat.le_refl _) HB1.out).more HB1.out.size) HG.out HL.out hn hnc).mono ?_
  rintro e v2 ⟨he, hx2⟩
  unfold gvRet at he
  rw [HN.out.o1, HN.out.e1, HN.out.v1] at he
  subst he
  have HB2 := Lib.hid (HB1.out.trans (hx2.mono HB1.out.size))
  clear hx2
  go_wp2_with fail
  refine (spec_GetVar_any _ n _ zs (P2 : Int) _ ((HR.out.below (Nat.le_refl _) HB2.out).more HB2.out.size) HG.out HL.out hn hnc).mono ?_
  rintro e v3 ⟨he, hx3⟩
  unfold gvRet at he
  rw [HN.out.o2, HN.out.e2, HN.out.v2] at he
  subst he
  have HB3 := Lib.hid (HB2.out.trans (hx3.mono HB2.out.size))
  clear hx3
  go_wp2_with fail
  refine (spec_GetVar_any _ n _ zs (P3 : Int) _ ((HR.out.below (Nat.le_refl _) HB3.out).more HB3.out.size) HG.out HL.out hn hnc).mono ?_
  rintro e v4 ⟨he, hx4⟩
  unfold gvRet at he
  rw [HN.out.o3, HN.out.e3, HN.out.v3] at he
  subst he
  have HB4 := Lib.hid (HB3.out.trans (hx4.mono HB3.out.size))
  clear hx4
  go_wp2_with fail
  refine bodyPost_ret (v := .tuple #[.int .i64 0, .int .i64 0, .slice none 0 0, .int .i64 3]) (by simp [results, Tryd.results14, go_sem]) rfl ⟨rfl, HB4.out⟩

end Go.Proofs.YtmlodfceepokoaaDoor.Snap
