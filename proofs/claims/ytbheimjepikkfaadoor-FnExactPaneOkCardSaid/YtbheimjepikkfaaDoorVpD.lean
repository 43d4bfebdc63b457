/- VpOk in the model, at every state. -/
import Derived.Test.YtbheimjepikkfaaDoorVpC
import Derived.LoopN
namespace Go.Proofs.YtbheimjepikkfaaDoor.Vp
open Go.RowKit Go.Proofs.YtbheimjepikkfaaDoor.Bytes Go.Proofs.YtbheimjepikkfaaDoor.DOk Go.Proofs.YtbheimjepikkfaaDoor.Rune Go.Proofs.YtbheimjepikkfaaDoor.RowK Go.Proofs.YtbheimjepikkfaaDoor.Gr
set_option linter.unusedVariables false

set_option maxRecDepth 100000 in
set_option maxHeartbeats 1600000 in
theorem spec_VpOk_0 (mk : Bool) (A : Option Addr) (na ca : Nat) (zs : List Int) (P : Option Addr) (np cp : Nat) (bs : List Int) (w : World) (hr : RdI w w.heap.size A zs) (hl : zs.length = na) (hn : na ≤ 1099511627776) (hp : Rd w w.heap.size P bs) (hg : Rng bs) (hpl : bs.length = np) (hPA : P = none → np = 0 ∧ cp = 0) (hpn : np ≤ 1099511627776) (hpc : np ≤ cp) :
    Calls Tryd.prog 17 #[.agg #[.int .i64 0, .bool mk, .slice A na ca, .slice P np cp]] w fun e w' => e = .returned (.bool (okVp 0 mk zs bs)) ∧ Below w.heap.size w w' := by
  have hb0 := Lib.hid ((Below.refl w.heap.size w).alloc (Nat.le_refl _) (.cells #[.int .i64 0, .bool mk, .slice A na ca, .slice P np cp] 38))
  have X0 := Lib.hid (BoxV.new w #[.int .i64 0, .bool mk, .slice A na ca, .slice P np cp])
  have HP := Lib.hid (fun V (h : Below w.heap.size w V) => spec_RuneBegin_any P np cp bs V ((hp.below (Nat.le_refl _) h).more h.size) hg hpl hPA hpn hpc)
  have HR := Lib.hid (hr.below (Nat.le_refl _) hb0.out)
  have HL := Lib.hid hl
  have HPL := Lib.hid hpl
  clear hr hl hp hg hpl hPA
  by_cases h8 : na ≤ 8
  · cases mk
    · by_cases h0 : na = 0
      · subst h0
        obtain rfl : zs = [] := List.eq_nil_of_length_eq_zero HL.out
        by_cases hn0 : np = 0
        · subst hn0
          have HE := Lib.hid (show okVp 0 false [] bs = true by rw [okVp_0, HPL.out]; rfl)
          go_enter Tryd.func17, Tryd.ntmps17
          go_wp2_with fail
          (with_reducible refine (keeps_any 0 _).mono ?_)
          rintro e v ⟨rfl, rfl⟩
          rw [show decide ((0 : Int) = 2 ∨ (0 : Int) = 3) = false from rfl]
          go_wp2_with fail
          refine wp_loop_rounds 1 ?_
          rw [rounds_succ]
          go_wp2_with fail
          go_ret
          exact ⟨ret_bool (by rw [HE.out]), hb0.out⟩
        · have e0 : ((np : Int) == 0) = false := by simpa using hn0
          have HE := Lib.hid (show okVp 0 false [] bs = begB bs by rw [okVp_0, HPL.out, decide_eq_false hn0]; simp [hpB])
          go_enter Tryd.func17, Tryd.ntmps17
          go_wp2_with fail
          (with_reducible refine (keeps_any 0 _).mono ?_)
          rintro e v ⟨rfl, rfl⟩
          rw [show decide ((0 : Int) = 2 ∨ (0 : Int) = 3) = false from rfl]
          go_wp2_with fail
          refine wp_loop_rounds 1 ?_
          rw [rounds_succ]
          go_wp2_with fail
          refine (HP.out _ hb0.out).mono ?_
          rintro e v2 ⟨rfl, hb2⟩
          have HB2 := Lib.hid (hb0.out.trans (hb2.mono (by simp)))
          clear hb2
          go_wp2_with fail
          go_ret
          exact ⟨ret_bool (by rw [HE.out]), HB2.out⟩
      · have h0' : 0 < na := by omega
        have HE := Lib.hid (show okVp 0 false zs bs = false by rw [okVp_0, HL.out]; simp [hpB, h0'])
        go_enter Tryd.func17, Tryd.ntmps17
        go_wp2_with fail
        (with_reducible refine (keeps_any 0 _).mono ?_)
        rintro e v ⟨rfl, rfl⟩
        rw [show decide ((0 : Int) = 2 ∨ (0 : Int) = 3) = false from rfl]
        go_wp2_with fail
        go_ret
        exact ⟨ret_bool (by rw [HE.out]), hb0.out⟩
    · have HE := Lib.hid (show okVp 0 true zs bs = false by rw [okVp_0]; simp [hpB])
      go_enter Tryd.func17, Tryd.ntmps17
      go_wp2_with fail
      (with_reducible refine (keeps_any 0 _).mono ?_)
      rintro e v ⟨rfl, rfl⟩
      rw [show decide ((0 : Int) = 2 ∨ (0 : Int) = 3) = false from rfl]
      go_wp2_with fail
      go_ret
      exact ⟨ret_bool (by rw [HE.out]), hb0.out⟩
  · have h8' : 8 < na := by omega
    have HE := Lib.hid (show okVp 0 mk zs bs = false by rw [okVp_0, HL.out, show hpB mk na = true by simp [hpB]; omega]; rfl)
    go_enter Tryd.func17, Tryd.ntmps17
    go_wp2_with fail
    go_ret
    exact ⟨ret_bool (by rw [HE.out]), hb0.out⟩

set_option maxRecDepth 100000 in
set_option maxHeartbeats 1600000 in
theorem spec_VpOk_1 (mk : Bool) (A : Option Addr) (na ca : Nat) (zs : List Int) (P : Option Addr) (np cp : Nat) (bs : List Int) (w : World) (hr : RdI w w.heap.size A zs) (hl : zs.length = na) (hn : na ≤ 1099511627776) (hp : Rd w w.heap.size P bs) (hg : Rng bs) (hpl : bs.length = np) (hPA : P = none → np = 0 ∧ cp = 0) (hpn : np ≤ 1099511627776) (hpc : np ≤ cp) :
    Calls Tryd.prog 17 #[.agg #[.int .i64 1, .bool mk, .slice A na ca, .slice P np cp]] w fun e w' => e = .returned (.bool (okVp 1 mk zs bs)) ∧ Below w.heap.size w w' := by
  have hb0 := Lib.hid ((Below.refl w.heap.size w).alloc (Nat.le_refl _) (.cells #[.int .i64 1, .bool mk, .slice A na ca, .slice P np cp] 38))
  have X0 := Lib.hid (BoxV.new w #[.int .i64 1, .bool mk, .slice A na ca, .slice P np cp])
  have HP := Lib.hid (fun V (h : Below w.heap.size w V) => spec_RuneBegin_any P np cp bs V ((hp.below (Nat.le_refl _) h).more h.size) hg hpl hPA hpn hpc)
  have HR := Lib.hid (hr.below (Nat.le_refl _) hb0.out)
  have HL := Lib.hid hl
  have HPL := Lib.hid hpl
  clear hr hl hp hg hpl hPA
  by_cases h8 : na ≤ 8
  · cases mk
    · by_cases h0 : na = 0
      · subst h0
        obtain rfl : zs = [] := List.eq_nil_of_length_eq_zero HL.out
        by_cases hn0 : np = 0
        · subst hn0
          have HE := Lib.hid (show okVp 1 false [] bs = true by rw [okVp_1, HPL.out]; rfl)
          go_enter Tryd.func17, Tryd.ntmps17
          go_wp2_with fail
          (with_reducible refine (keeps_any 1 _).mono ?_)
          rintro e v ⟨rfl, rfl⟩
          rw [show decide ((1 : Int) = 2 ∨ (1 : Int) = 3) = false from rfl]
          go_wp2_with fail
          refine wp_loop_rounds 1 ?_
          rw [rounds_succ]
          go_wp2_with fail
          go_ret
          exact ⟨ret_bool (by rw [HE.out]), hb0.out⟩
        · have e0 : ((np : Int) == 0) = false := by simpa using hn0
          have HE := Lib.hid (show okVp 1 false [] bs = false by rw [okVp_1, HPL.out, decide_eq_false hn0]; simp)
          go_enter Tryd.func17, Tryd.ntmps17
          go_wp2_with fail
          (with_reducible refine (keeps_any 1 _).mono ?_)
          rintro e v ⟨rfl, rfl⟩
          rw [show decide ((1 : Int) = 2 ∨ (1 : Int) = 3) = false from rfl]
          go_wp2_with fail
          refine wp_loop_rounds 1 ?_
          rw [rounds_succ]
          go_wp2_with fail
          go_ret
          exact ⟨ret_bool (by rw [HE.out]), hb0.out⟩
      · have h0' : 0 < na := by omega
        have HE := Lib.hid (show okVp 1 false zs bs = false by rw [okVp_1, HL.out]; simp [hpB, h0'])
        go_enter Tryd.func17, Tryd.ntmps17
        go_wp2_with fail
        (with_reducible refine (keeps_any 1 _).mono ?_)
        rintro e v ⟨rfl, rfl⟩
        rw [show decide ((1 : Int) = 2 ∨ (1 : Int) = 3) = false from rfl]
        go_wp2_with fail
        go_ret
        exact ⟨ret_bool (by rw [HE.out]), hb0.out⟩
    · have HE := Lib.hid (show okVp 1 true zs bs = false by rw [okVp_1]; simp [hpB])
      go_enter Tryd.func17, Tryd.ntmps17
      go_wp2_with fail
      (with_reducible refine (keeps_any 1 _).mono ?_)
      rintro e v ⟨rfl, rfl⟩
      rw [show decide ((1 : Int) = 2 ∨ (1 : Int) = 3) = false from rfl]
      go_wp2_with fail
      go_ret
      exact ⟨ret_bool (by rw [HE.out]), hb0.out⟩
  · have h8' : 8 < na := by omega
    have HE := Lib.hid (show okVp 1 mk zs bs = false by rw [okVp_1, HL.out, show hpB mk na = true by simp [hpB]; omega]; rfl)
    go_enter Tryd.func17, Tryd.ntmps17
    go_wp2_with fail
    go_ret
    exact ⟨ret_bool (by rw [HE.out]), hb0.out⟩

set_option maxRecDepth 100000 in
set_option maxHeartbeats 1600000 in
theorem spec_VpOk_2 (mk : Bool) (A : Option Addr) (na ca : Nat) (zs : List Int) (P : Option Addr) (np cp : Nat) (bs : List Int) (w : World) (hr : RdI w w.heap.size A zs) (hl : zs.length = na) (hn : na ≤ 1099511627776) (hp : Rd w w.heap.size P bs) (hg : Rng bs) (hpl : bs.length = np) (hPA : P = none → np = 0 ∧ cp = 0) (hpn : np ≤ 1099511627776) (hpc : np ≤ cp) :
    Calls Tryd.prog 17 #[.agg #[.int .i64 2, .bool mk, .slice A na ca, .slice P np cp]] w fun e w' => e = .returned (.bool (okVp 2 mk zs bs)) ∧ Below w.heap.size w w' := by
  have hb0 := Lib.hid ((Below.refl w.heap.size w).alloc (Nat.le_refl _) (.cells #[.int .i64 2, .bool mk, .slice A na ca, .slice P np cp] 38))
  have X0 := Lib.hid (BoxV.new w #[.int .i64 2, .bool mk, .slice A na ca, .slice P np cp])
  have HP := Lib.hid (fun V (h : Below w.heap.size w V) => spec_RuneBegin_any P np cp bs V ((hp.below (Nat.le_refl _) h).more h.size) hg hpl hPA hpn hpc)
  have HR := Lib.hid (hr.below (Nat.le_refl _) hb0.out)
  have HL := Lib.hid hl
  have HPL := Lib.hid hpl
  clear hr hl hp hg hpl hPA
  by_cases h8 : na ≤ 8
  · go_enter Tryd.func17, Tryd.ntmps17
    go_wp2_with fail
    (with_reducible refine (keeps_any 2 _).mono ?_)
    rintro e v ⟨rfl, rfl⟩
    rw [show decide ((2 : Int) = 2 ∨ (2 : Int) = 3) = true from rfl]
    go_wp2_with fail
    go_loop [38] (fun i => ∃ k : Nat, k ≤ na ∧ i = .int .i64 k ∧ (zs.take k).all okArg = true) (fun i => na - (intOf i).toNat)
    case atStart => exact ⟨0, Nat.zero_le _, rfl, by simp⟩
    case round =>
      obtain ⟨k, hk, rfl, ha⟩ := hrel
      have HA := Lib.hid ha
      clear ha
      by_cases hlt : k < na
      · have hlf : k < zs.length := by rw [HL.out]; exact hlt
        obtain ⟨b, o, rfl, hB, hc0⟩ := HR.out.at_ hlf
        have HNX := Lib.hid (fun h => argsB_next hlf HA.out h)
        have HNO := Lib.hid (fun h => (show okVp 2 mk zs bs = false by rw [okVp_2, argsB_no hlf h]; rfl))
        generalize zs[k] = z at *
        by_cases hz : 0 ≤ z ∧ z ≤ 9999
        · have HOK := Lib.hid (show okArg z = true from decide_eq_true hz)
          obtain ⟨z0, z1⟩ := hz
          go_wp2_with fail
          go_round
          case rel => exact ⟨k + 1, by omega, by go_num, HNX.out HOK.out⟩
          case measure => simp [intOf]; omega
        · have HE := Lib.hid (HNO.out (show okArg z = false from decide_eq_false hz))
          by_cases hz0 : z < 0
          · go_wp2_with fail
            go_ret
            exact ⟨ret_bool (by rw [HE.out]), hb0.out⟩
          · have hz1 : 9999 < z := by omega
            have hz2 : 0 ≤ z := by omega
            go_wp2_with fail
            go_ret
            exact ⟨ret_bool (by rw [HE.out]), hb0.out⟩
      · obtain rfl : na = k := by omega
        have HE0 := Lib.hid (show okVp 2 mk zs bs = decide (np = 0) by rw [okVp_2, argsB_end HL.out HA.out, decide_eq_true h8, HPL.out]; rfl)
        by_cases hn0 : np = 0
        · subst hn0
          have HE := Lib.hid (show okVp 2 mk zs bs = true by rw [HE0.out]; rfl)
          go_wp2_with fail
          go_ret
          exact ⟨ret_bool (by rw [HE.out]), hb0.out⟩
        · have e0 : ((np : Int) == 0) = false := by simpa using hn0
          have HE := Lib.hid (show okVp 2 mk zs bs = false by rw [HE0.out, decide_eq_false hn0])
          go_wp2_with fail
          go_ret
          exact ⟨ret_bool (by rw [HE.out]), hb0.out⟩
  · have h8' : 8 < na := by omega
    have HE := Lib.hid (show okVp 2 mk zs bs = false by rw [okVp_2, argsB_long HL.out h8]; rfl)
    go_enter Tryd.func17, Tryd.ntmps17
    go_wp2_with fail
    go_ret
    exact ⟨ret_bool (by rw [HE.out]), hb0.out⟩

set_option maxRecDepth 100000 in
set_option maxHeartbeats 1600000 in
theorem spec_VpOk_3 (mk : Bool) (A : Option Addr) (na ca : Nat) (zs : List Int) (P : Option Addr) (np cp : Nat) (bs : List Int) (w : World) (hr : RdI w w.heap.size A zs) (hl : zs.length = na) (hn : na ≤ 1099511627776) (hp : Rd w w.heap.size P bs) (hg : Rng bs) (hpl : bs.length = np) (hPA : P = none → np = 0 ∧ cp = 0) (hpn : np ≤ 1099511627776) (hpc : np ≤ cp) :
    Calls Tryd.prog 17 #[.agg #[.int .i64 3, .bool mk, .slice A na ca, .slice P np cp]] w fun e w' => e = .returned (.bool (okVp 3 mk zs bs)) ∧ Below w.heap.size w w' := by
  have hb0 := Lib.hid ((Below.refl w.heap.size w).alloc (Nat.le_refl _) (.cells #[.int .i64 3, .bool mk, .slice A na ca, .slice P np cp] 38))
  have X0 := Lib.hid (BoxV.new w #[.int .i64 3, .bool mk, .slice A na ca, .slice P np cp])
  have HP := Lib.hid (fun V (h : Below w.heap.size w V) => spec_RuneBegin_any P np cp bs V ((hp.below (Nat.le_refl _) h).more h.size) hg hpl hPA hpn hpc)
  have HR := Lib.hid (hr.below (Nat.le_refl _) hb0.out)
  have HL := Lib.hid hl
  have HPL := Lib.hid hpl
  clear hr hl hp hg hpl hPA
  by_cases h8 : na ≤ 8
  · go_enter Tryd.func17, Tryd.ntmps17
    go_wp2_with fail
    (with_reducible refine (keeps_any 3 _).mono ?_)
    rintro e v ⟨rfl, rfl⟩
    rw [show decide ((3 : Int) = 2 ∨ (3 : Int) = 3) = true from rfl]
    go_wp2_with fail
    go_loop [38] (fun i => ∃ k : Nat, k ≤ na ∧ i = .int .i64 k ∧ (zs.take k).all okArg = true) (fun i => na - (intOf i).toNat)
    case atStart => exact ⟨0, Nat.zero_le _, rfl, by simp⟩
    case round =>
      obtain ⟨k, hk, rfl, ha⟩ := hrel
      have HA := Lib.hid ha
      clear ha
      by_cases hlt : k < na
      · have hlf : k < zs.length := by rw [HL.out]; exact hlt
        obtain ⟨b, o, rfl, hB, hc0⟩ := HR.out.at_ hlf
        have HNX := Lib.hid (fun h => argsB_next hlf HA.out h)
        have HNO := Lib.hid (fun h => (show okVp 3 mk zs bs = false by rw [okVp_3, argsB_no hlf h]; rfl))
        generalize zs[k] = z at *
        by_cases hz : 0 ≤ z ∧ z ≤ 9999
        · have HOK := Lib.hid (show okArg z = true from decide_eq_true hz)
          obtain ⟨z0, z1⟩ := hz
          go_wp2_with fail
          go_round
          case rel => exact ⟨k + 1, by omega, by go_num, HNX.out HOK.out⟩
          case measure => simp [intOf]; omega
        · have HE := Lib.hid (HNO.out (show okArg z = false from decide_eq_false hz))
          by_cases hz0 : z < 0
          · go_wp2_with fail
            go_ret
            exact ⟨ret_bool (by rw [HE.out]), hb0.out⟩
          · have hz1 : 9999 < z := by omega
            have hz2 : 0 ≤ z := by omega
            go_wp2_with fail
            go_ret
            exact ⟨ret_bool (by rw [HE.out]), hb0.out⟩
      · obtain rfl : na = k := by omega
        have HE0 := Lib.hid (show okVp 3 mk zs bs = decide (np = 0) by rw [okVp_3, argsB_end HL.out HA.out, decide_eq_true h8, HPL.out]; rfl)
        by_cases hn0 : np = 0
        · subst hn0
          have HE := Lib.hid (show okVp 3 mk zs bs = true by rw [HE0.out]; rfl)
          go_wp2_with fail
          go_ret
          exact ⟨ret_bool (by rw [HE.out]), hb0.out⟩
        · have e0 : ((np : Int) == 0) = false := by simpa using hn0
          have HE := Lib.hid (show okVp 3 mk zs bs = false by rw [HE0.out, decide_eq_false hn0])
          go_wp2_with fail
          go_ret
          exact ⟨ret_bool (by rw [HE.out]), hb0.out⟩
  · have h8' : 8 < na := by omega
    have HE := Lib.hid (show okVp 3 mk zs bs = false by rw [okVp_3, argsB_long HL.out h8]; rfl)
    go_enter Tryd.func17, Tryd.ntmps17
    go_wp2_with fail
    go_ret
    exact ⟨ret_bool (by rw [HE.out]), hb0.out⟩

set_option maxRecDepth 100000 in
set_option maxHeartbeats 1600000 in
theorem spec_VpOk_st (st : Int) (hst : ¬ (0 ≤ st ∧ st ≤ 3)) (mk : Bool) (A : Option Addr) (na ca : Nat) (zs : List Int) (P : Option Addr) (np cp : Nat) (bs : List Int) (w : World) (hr : RdI w w.heap.size A zs) (hl : zs.length = na) (hn : na ≤ 1099511627776) (hp : Rd w w.heap.size P bs) (hg : Rng bs) (hpl : bs.length = np) (hPA : P = none → np = 0 ∧ cp = 0) (hpn : np ≤ 1099511627776) (hpc : np ≤ cp) :
    Calls Tryd.prog 17 #[.agg #[.int .i64 st, .bool mk, .slice A na ca, .slice P np cp]] w fun e w' => e = .returned (.bool (okVp st mk zs bs)) ∧ Below w.heap.size w w' := by
  have hb0 := Lib.hid ((Below.refl w.heap.size w).alloc (Nat.le_refl _) (.cells #[.int .i64 st, .bool mk, .slice A na ca, .slice P np cp] 38))
  have X0 := Lib.hid (BoxV.new w #[.int .i64 st, .bool mk, .slice A na ca, .slice P np cp])
  have HP := Lib.hid (fun V (h : Below w.heap.size w V) => spec_RuneBegin_any P np cp bs V ((hp.below (Nat.le_refl _) h).more h.size) hg hpl hPA hpn hpc)
  have HR := Lib.hid (hr.below (Nat.le_refl _) hb0.out)
  have HL := Lib.hid hl
  have HPL := Lib.hid hpl
  clear hr hl hp hg hpl hPA
  have HE := Lib.hid (okVp_no (st := st) mk zs bs hst)
  by_cases h0 : st < 0
  · clear hst
    go_enter Tryd.func17, Tryd.ntmps17
    go_wp2_with fail
    go_ret
    exact ⟨ret_bool (by rw [HE.out]), hb0.out⟩
  · have h0' : 0 ≤ st := by omega
    have h3 : 3 < st := by omega
    clear hst
    go_enter Tryd.func17, Tryd.ntmps17
    go_wp2_with fail
    go_ret
    exact ⟨ret_bool (by rw [HE.out]), hb0.out⟩

theorem spec_VpOk_any (st : Int) (mk : Bool) (A : Option Addr) (na ca : Nat) (zs : List Int) (P : Option Addr) (np cp : Nat) (bs : List Int) (w : World) (hr : RdI w w.heap.size A zs) (hl : zs.length = na) (hn : na ≤ 1099511627776) (hp : Rd w w.heap.size P bs) (hg : Rng bs) (hpl : bs.length = np) (hPA : P = none → np = 0 ∧ cp = 0) (hpn : np ≤ 1099511627776) (hpc : np ≤ cp) :
    Calls Tryd.prog 17 #[.agg #[.int .i64 st, .bool mk, .slice A na ca, .slice P np cp]] w fun e w' => e = .returned (.bool (okVp st mk zs bs)) ∧ Below w.heap.size w w' := by
  rcases st_cases st with rfl | rfl | rfl | rfl | h
  · exact spec_VpOk_0 mk A na ca zs P np cp bs w hr hl hn hp hg hpl hPA hpn hpc
  · exact spec_VpOk_1 mk A na ca zs P np cp bs w hr hl hn hp hg hpl hPA hpn hpc
  · exact spec_VpOk_2 mk A na ca zs P np cp bs w hr hl hn hp hg hpl hPA hpn hpc
  · exact spec_VpOk_3 mk A na ca zs P np cp bs w hr hl hn hp hg hpl hPA hpn hpc
  · exact spec_VpOk_st st h mk A na ca zs P np cp bs w hr hl hn hp hg hpl hPA hpn hpc
end Go.Proofs.YtbheimjepikkfaaDoor.Vp
