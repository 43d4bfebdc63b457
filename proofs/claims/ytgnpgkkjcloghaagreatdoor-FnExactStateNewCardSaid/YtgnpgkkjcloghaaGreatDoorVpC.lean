/- VpOk in the program and in the model: one answer, at every state. -/
import Derived.Test.YtgnpgkkjcloghaaGreatDoorKm14
namespace Go.Proofs.YtgnpgkkjcloghaaGreatDoor.Vp
open Go.RowKit Go.Proofs.YtgnpgkkjcloghaaGreatDoor.Bytes Go.Proofs.YtgnpgkkjcloghaaGreatDoor.DOk Go.Proofs.YtgnpgkkjcloghaaGreatDoor.Rune Go.Proofs.YtgnpgkkjcloghaaGreatDoor.RowK Go.Proofs.YtgnpgkkjcloghaaGreatDoor.Gr
set_option linter.unusedVariables false
def BoxV (w : World) (b : Nat) (cs : Array Value) : Prop := w.heap[b]? = some (.cells cs 99 (0, 0))
theorem BoxV.lt {w : World} {b : Nat} {cs : Array Value} (h : BoxV w b cs) : b < w.heap.size := (Array.getElem?_eq_some_iff.1 h).1
theorem BoxV.cell {w : World} {b : Nat} {cs : Array Value} (h : BoxV w b cs) (j : Nat) : w.cell? ⟨b, j, none⟩ = cs[j]? := by unfold BoxV at h; simp [World.cell?, h]
theorem BoxV.free {w : World} {b : Nat} {cs : Array Value} (h : BoxV w b cs) (j : Nat) : w.frozen? ⟨b, j, none⟩ = false := by unfold BoxV at h; simp [World.frozen?, h]
theorem BoxV.below {w w' : World} {b B : Nat} {cs : Array Value} (h : BoxV w b cs) (hb : Below B w w') (hB : b < B) : BoxV w' b cs := by unfold BoxV at h ⊢; rw [hb.block b hB]; exact h
theorem BoxV.only {S : Nat → Prop} {w w' : World} {b : Nat} {cs : Array Value} (h : BoxV w b cs) (on : Only S w w') (hn : ¬ S b) : BoxV w' b cs := by
  have hl := h.lt
  unfold BoxV at h ⊢; rw [on.block b hl hn]; exact h
theorem BoxV.drew {w : World} {b : Nat} {cs : Array Value} (h : BoxV w b cs) : BoxV w.drew b cs := h
theorem BoxV.other {w : World} {b b' j : Nat} {cs : Array Value} {v : Value} (h : BoxV w b cs) (hne : b ≠ b') : BoxV (w.setCell ⟨b', j, none⟩ v) b cs := by
  unfold BoxV at h ⊢; rw [← h]; simp [World.setCell, Array.getElem?_modify, Ne.symm hne]
theorem BoxV.set2 {w : World} {b : Nat} {x0 x1 x2 x3 : Value} (h : BoxV w b #[x0, x1, x2, x3]) (v : Value) : BoxV (w.setCell ⟨b, 2, none⟩ v) b #[x0, x1, v, x3] := by
  unfold BoxV at h ⊢; simp [World.setCell, Array.getElem?_modify, h]
theorem BoxV.new (w : World) (cs : Array Value) : BoxV (w.alloc (.cells cs 99)) w.heap.size cs := heap_alloc_new w _

set_option maxRecDepth 100000 in
set_option maxHeartbeats 1600000 in
theorem impl_VpOk_0 (mk : Bool) (A : Option Addr) (na ca : Nat) (zs : List Int) (P : Option Addr) (np cp : Nat) (bs : List Int) (w : World) (hT : Dec.Tabs8 w) (hr : RdI w w.heap.size A zs) (hl : zs.length = na) (hn : na ≤ 1099511627776) (hp : Rd w w.heap.size P bs) (hg : Rng bs) (hpl : bs.length = np) (hpn : np ≤ 1099511627776) :
    Calls Tryz.prog 131 #[.agg #[.int .i64 0, .bool mk, .slice A na ca, .slice P np cp]] w fun e w' => e = .returned (.bool (okVp 0 mk zs bs)) ∧ Below w.heap.size w w' := by
  have hb0 := Lib.hid ((Below.refl w.heap.size w).alloc (Nat.le_refl _) (.cells #[.int .i64 0, .bool mk, .slice A na ca, .slice P np cp] 99))
  have X0 := Lib.hid (BoxV.new w #[.int .i64 0, .bool mk, .slice A na ca, .slice P np cp])
  have HP := Lib.hid (fun V (h : Below w.heap.size w V) => impl_RuneBegin_any P np cp bs V (tabs_below hT h) ((hp.below (Nat.le_refl _) h).more h.size) hg hpl)
  have HA := Lib.hid (fun V (h : Below w.heap.size w V) => areArgs_any A na ca zs V ((hr.below (Nat.le_refl _) h).more h.size) hl hn)
  have HL := Lib.hid hl
  have HPL := Lib.hid hpl
  clear hr hl hp hg hpl hT
  cases hh : hpB mk na
  · have HE := Lib.hid (show okVp 0 mk zs bs = (decide (np = 0) || begB bs) by rw [okVp_0, HL.out, HPL.out, hh]; rfl)
    have HH := Lib.hid hh
    clear hh
    by_cases hn0 : np = 0
    · subst hn0
      have HE' := Lib.hid (show okVp 0 mk zs bs = true by rw [HE.out]; rfl)
      go_enter Tryz.func131, Tryz.ntmps131
      go_wp2_with fail
      refine (hasParameters_any _ mk A na ca P _ cp _).mono ?_
      rintro e v1 ⟨rfl, hb1⟩
      have HB1 := Lib.hid (hb0.out.trans (hb1.mono (by simp)))
      have x1 := X0.out.below hb1 (by simp)
      have q3 := x1.cell 3
      clear hb1 x1
      rw [HH.out]
      go_wp2_with fail
      go_ret
      exact ⟨ret_bool (by rw [HE'.out]), HB1.out⟩
    · have HE' := Lib.hid (show okVp 0 mk zs bs = begB bs by rw [HE.out, decide_eq_false hn0]; rfl)
      have e0 : ((np : Int) == 0) = false := by simpa using hn0
      go_enter Tryz.func131, Tryz.ntmps131
      go_wp2_with fail
      refine (hasParameters_any _ mk A na ca P _ cp _).mono ?_
      rintro e v1 ⟨rfl, hb1⟩
      have HB1 := Lib.hid (hb0.out.trans (hb1.mono (by simp)))
      have x1 := X0.out.below hb1 (by simp)
      have q3 := x1.cell 3
      clear hb1 x1
      rw [HH.out]
      go_wp2_with fail
      refine (HP.out _ HB1.out).mono ?_
      rintro e v2 ⟨rfl, hb2⟩
      have HB2 := Lib.hid (HB1.out.trans (hb2.mono HB1.out.size))
      clear hb2
      go_wp2_with fail
      go_ret
      exact ⟨ret_bool (by rw [HE'.out]), HB2.out⟩
  · have HE := Lib.hid (show okVp 0 mk zs bs = false by rw [okVp_0, HL.out, hh]; rfl)
    have HH := Lib.hid hh
    clear hh
    go_enter Tryz.func131, Tryz.ntmps131
    go_wp2_with fail
    refine (hasParameters_any _ mk A na ca P _ cp _).mono ?_
    rintro e v1 ⟨rfl, hb1⟩
    have HB1 := Lib.hid (hb0.out.trans (hb1.mono (by simp)))
    have x1 := X0.out.below hb1 (by simp)
    have q3 := x1.cell 3
    clear hb1 x1
    rw [HH.out]
    go_wp2_with fail
    go_ret
    exact ⟨ret_bool (by rw [HE.out]), HB1.out⟩

set_option maxRecDepth 100000 in
set_option maxHeartbeats 1600000 in
theorem impl_VpOk_1 (mk : Bool) (A : Option Addr) (na ca : Nat) (zs : List Int) (P : Option Addr) (np cp : Nat) (bs : List Int) (w : World) (hT : Dec.Tabs8 w) (hr : RdI w w.heap.size A zs) (hl : zs.length = na) (hn : na ≤ 1099511627776) (hp : Rd w w.heap.size P bs) (hg : Rng bs) (hpl : bs.length = np) (hpn : np ≤ 1099511627776) :
    Calls Tryz.prog 131 #[.agg #[.int .i64 1, .bool mk, .slice A na ca, .slice P np cp]] w fun e w' => e = .returned (.bool (okVp 1 mk zs bs)) ∧ Below w.heap.size w w' := by
  have hb0 := Lib.hid ((Below.refl w.heap.size w).alloc (Nat.le_refl _) (.cells #[.int .i64 1, .bool mk, .slice A na ca, .slice P np cp] 99))
  have X0 := Lib.hid (BoxV.new w #[.int .i64 1, .bool mk, .slice A na ca, .slice P np cp])
  have HP := Lib.hid (fun V (h : Below w.heap.size w V) => impl_RuneBegin_any P np cp bs V (tabs_below hT h) ((hp.below (Nat.le_refl _) h).more h.size) hg hpl)
  have HA := Lib.hid (fun V (h : Below w.heap.size w V) => areArgs_any A na ca zs V ((hr.below (Nat.le_refl _) h).more h.size) hl hn)
  have HL := Lib.hid hl
  have HPL := Lib.hid hpl
  clear hr hl hp hg hpl hT
  cases hh : hpB mk na
  · have HE := Lib.hid (show okVp 1 mk zs bs = decide (np = 0) by rw [okVp_1, HL.out, HPL.out, hh]; rfl)
    have HH := Lib.hid hh
    clear hh
    by_cases hn0 : np = 0
    · subst hn0
      have HE' := Lib.hid (show okVp 1 mk zs bs = true by rw [HE.out]; rfl)
      go_enter Tryz.func131, Tryz.ntmps131
      go_wp2_with fail
      refine (hasParameters_any _ mk A na ca P _ cp _).mono ?_
      rintro e v1 ⟨rfl, hb1⟩
      have HB1 := Lib.hid (hb0.out.trans (hb1.mono (by simp)))
      have x1 := X0.out.below hb1 (by simp)
      have q3 := x1.cell 3
      clear hb1 x1
      rw [HH.out]
      go_wp2_with fail
      go_ret
      exact ⟨ret_bool (by rw [HE'.out]), HB1.out⟩
    · have HE' := Lib.hid (show okVp 1 mk zs bs = false by rw [HE.out, decide_eq_false hn0])
      have e0 : ((np : Int) == 0) = false := by simpa using hn0
      go_enter Tryz.func131, Tryz.ntmps131
      go_wp2_with fail
      refine (hasParameters_any _ mk A na ca P _ cp _).mono ?_
      rintro e v1 ⟨rfl, hb1⟩
      have HB1 := Lib.hid (hb0.out.trans (hb1.mono (by simp)))
      have x1 := X0.out.below hb1 (by simp)
      have q3 := x1.cell 3
      clear hb1 x1
      rw [HH.out]
      go_wp2_with fail
      go_ret
      exact ⟨ret_bool (by rw [HE'.out]), HB1.out⟩
  · have HE := Lib.hid (show okVp 1 mk zs bs = false by rw [okVp_1, HL.out, hh]; rfl)
    have HH := Lib.hid hh
    clear hh
    go_enter Tryz.func131, Tryz.ntmps131
    go_wp2_with fail
    refine (hasParameters_any _ mk A na ca P _ cp _).mono ?_
    rintro e v1 ⟨rfl, hb1⟩
    have HB1 := Lib.hid (hb0.out.trans (hb1.mono (by simp)))
    have x1 := X0.out.below hb1 (by simp)
    have q3 := x1.cell 3
    clear hb1 x1
    rw [HH.out]
    go_wp2_with fail
    go_ret
    exact ⟨ret_bool (by rw [HE.out]), HB1.out⟩

set_option maxRecDepth 100000 in
set_option maxHeartbeats 1600000 in
theorem impl_VpOk_2 (mk : Bool) (A : Option Addr) (na ca : Nat) (zs : List Int) (P : Option Addr) (np cp : Nat) (bs : List Int) (w : World) (hT : Dec.Tabs8 w) (hr : RdI w w.heap.size A zs) (hl : zs.length = na) (hn : na ≤ 1099511627776) (hp : Rd w w.heap.size P bs) (hg : Rng bs) (hpl : bs.length = np) (hpn : np ≤ 1099511627776) :
    Calls Tryz.prog 131 #[.agg #[.int .i64 2, .bool mk, .slice A na ca, .slice P np cp]] w fun e w' => e = .returned (.bool (okVp 2 mk zs bs)) ∧ Below w.heap.size w w' := by
  have hb0 := Lib.hid ((Below.refl w.heap.size w).alloc (Nat.le_refl _) (.cells #[.int .i64 2, .bool mk, .slice A na ca, .slice P np cp] 99))
  have X0 := Lib.hid (BoxV.new w #[.int .i64 2, .bool mk, .slice A na ca, .slice P np cp])
  have HP := Lib.hid (fun V (h : Below w.heap.size w V) => impl_RuneBegin_any P np cp bs V (tabs_below hT h) ((hp.below (Nat.le_refl _) h).more h.size) hg hpl)
  have HA := Lib.hid (fun V (h : Below w.heap.size w V) => areArgs_any A na ca zs V ((hr.below (Nat.le_refl _) h).more h.size) hl hn)
  have HL := Lib.hid hl
  have HPL := Lib.hid hpl
  clear hr hl hp hg hpl hT
  cases hh : argsB zs
  · have HE := Lib.hid (show okVp 2 mk zs bs = false by rw [okVp_2, hh]; rfl)
    have HH := Lib.hid hh
    clear hh
    go_enter Tryz.func131, Tryz.ntmps131
    go_wp2_with fail
    refine (HA.out _ hb0.out).mono ?_
    rintro e v1 ⟨rfl, hb1⟩
    have HB1 := Lib.hid (hb0.out.trans (hb1.mono (by simp)))
    have x1 := X0.out.below hb1 (by simp)
    have q3 := x1.cell 3
    clear hb1 x1
    rw [HH.out]
    go_wp2_with fail
    go_ret
    exact ⟨ret_bool (by rw [HE.out]), HB1.out⟩
  · have HE := Lib.hid (show okVp 2 mk zs bs = decide (np = 0) by rw [okVp_2, hh, HPL.out]; rfl)
    have HH := Lib.hid hh
    clear hh
    by_cases hn0 : np = 0
    · subst hn0
      have HE' := Lib.hid (show okVp 2 mk zs bs = true by rw [HE.out]; rfl)
      go_enter Tryz.func131, Tryz.ntmps131
      go_wp2_with fail
      refine (HA.out _ hb0.out).mono ?_
      rintro e v1 ⟨rfl, hb1⟩
      have HB1 := Lib.hid (hb0.out.trans (hb1.mono (by simp)))
      have x1 := X0.out.below hb1 (by simp)
      have q3 := x1.cell 3
      clear hb1 x1
      rw [HH.out]
      go_wp2_with fail
      go_ret
      exact ⟨ret_bool (by rw [HE'.out]), HB1.out⟩
    · have HE' := Lib.hid (show okVp 2 mk zs bs = false by rw [HE.out, decide_eq_false hn0])
      have e0 : ((np : Int) == 0) = false := by simpa using hn0
      go_enter Tryz.func131, Tryz.ntmps131
      go_wp2_with fail
      refine (HA.out _ hb0.out).mono ?_
      rintro e v1 ⟨rfl, hb1⟩
      have HB1 := Lib.hid (hb0.out.trans (hb1.mono (by simp)))
      have x1 := X0.out.below hb1 (by simp)
      have q3 := x1.cell 3
      clear hb1 x1
      rw [HH.out]
      go_wp2_with fail
      go_ret
      exact ⟨ret_bool (by rw [HE'.out]), HB1.out⟩

set_option maxRecDepth 100000 in
set_option maxHeartbeats 1600000 in
theorem impl_VpOk_3 (mk : Bool) (A : Option Addr) (na ca : Nat) (zs : List Int) (P : Option Addr) (np cp : Nat) (bs : List Int) (w : World) (hT : Dec.Tabs8 w) (hr : RdI w w.heap.size A zs) (hl : zs.length = na) (hn : na ≤ 1099511627776) (hp : Rd w w.heap.size P bs) (hg : Rng bs) (hpl : bs.length = np) (hpn : np ≤ 1099511627776) :
    Calls Tryz.prog 131 #[.agg #[.int .i64 3, .bool mk, .slice A na ca, .slice P np cp]] w fun e w' => e = .returned (.bool (okVp 3 mk zs bs)) ∧ Below w.heap.size w w' := by
  have hb0 := Lib.hid ((Below.refl w.heap.size w).alloc (Nat.le_refl _) (.cells #[.int .i64 3, .bool mk, .slice A na ca, .slice P np cp] 99))
  have X0 := Lib.hid (BoxV.new w #[.int .i64 3, .bool mk, .slice A na ca, .slice P np cp])
  have HP := Lib.hid (fun V (h : Below w.heap.size w V) => impl_RuneBegin_any P np cp bs V (tabs_below hT h) ((hp.below (Nat.le_refl _) h).more h.size) hg hpl)
  have HA := Lib.hid (fun V (h : Below w.heap.size w V) => areArgs_any A na ca zs V ((hr.below (Nat.le_refl _) h).more h.size) hl hn)
  have HL := Lib.hid hl
  have HPL := Lib.hid hpl
  clear hr hl hp hg hpl hT
  cases hh : argsB zs
  · have HE := Lib.hid (show okVp 3 mk zs bs = false by rw [okVp_3, hh]; rfl)
    have HH := Lib.hid hh
    clear hh
    go_enter Tryz.func131, Tryz.ntmps131
    go_wp2_with fail
    refine (HA.out _ hb0.out).mono ?_
    rintro e v1 ⟨rfl, hb1⟩
    have HB1 := Lib.hid (hb0.out.trans (hb1.mono (by simp)))
    have x1 := X0.out.below hb1 (by simp)
    have q3 := x1.cell 3
    clear hb1 x1
    rw [HH.out]
    go_wp2_with fail
    go_ret
    exact ⟨ret_bool (by rw [HE.out]), HB1.out⟩
  · have HE := Lib.hid (show okVp 3 mk zs bs = decide (np = 0) by rw [okVp_3, hh, HPL.out]; rfl)
    have HH := Lib.hid hh
    clear hh
    by_cases hn0 : np = 0
    · subst hn0
      have HE' := Lib.hid (show okVp 3 mk zs bs = true by rw [HE.out]; rfl)
      go_enter Tryz.func131, Tryz.ntmps131
      go_wp2_with fail
      refine (HA.out _ hb0.out).mono ?_
      rintro e v1 ⟨rfl, hb1⟩
      have HB1 := Lib.hid (hb0.out.trans (hb1.mono (by simp)))
      have x1 := X0.out.below hb1 (by simp)
      have q3 := x1.cell 3
      clear hb1 x1
      rw [HH.out]
      go_wp2_with fail
      go_ret
      exact ⟨ret_bool (by rw [HE'.out]), HB1.out⟩
    · have HE' := Lib.hid (show okVp 3 mk zs bs = false by rw [HE.out, decide_eq_false hn0])
      have e0 : ((np : Int) == 0) = false := by simpa using hn0
      go_enter Tryz.func131, Tryz.ntmps131
      go_wp2_with fail
      refine (HA.out _ hb0.out).mono ?_
      rintro e v1 ⟨rfl, hb1⟩
      have HB1 := Lib.hid (hb0.out.trans (hb1.mono (by simp)))
      have x1 := X0.out.below hb1 (by simp)
      have q3 := x1.cell 3
      clear hb1 x1
      rw [HH.out]
      go_wp2_with fail
      go_ret
      exact ⟨ret_bool (by rw [HE'.out]), HB1.out⟩

set_option maxRecDepth 100000 in
set_option maxHeartbeats 1600000 in
theorem impl_VpOk_st (st : Int) (hst : ¬ (0 ≤ st ∧ st ≤ 3)) (mk : Bool) (A : Option Addr) (na ca : Nat) (zs : List Int) (P : Option Addr) (np cp : Nat) (bs : List Int) (w : World) (hT : Dec.Tabs8 w) (hr : RdI w w.heap.size A zs) (hl : zs.length = na) (hn : na ≤ 1099511627776) (hp : Rd w w.heap.size P bs) (hg : Rng bs) (hpl : bs.length = np) (hpn : np ≤ 1099511627776) :
    Calls Tryz.prog 131 #[.agg #[.int .i64 st, .bool mk, .slice A na ca, .slice P np cp]] w fun e w' => e = .returned (.bool (okVp st mk zs bs)) ∧ Below w.heap.size w w' := by
  have hb0 := Lib.hid ((Below.refl w.heap.size w).alloc (Nat.le_refl _) (.cells #[.int .i64 st, .bool mk, .slice A na ca, .slice P np cp] 99))
  have X0 := Lib.hid (BoxV.new w #[.int .i64 st, .bool mk, .slice A na ca, .slice P np cp])
  have HP := Lib.hid (fun V (h : Below w.heap.size w V) => impl_RuneBegin_any P np cp bs V (tabs_below hT h) ((hp.below (Nat.le_refl _) h).more h.size) hg hpl)
  have HA := Lib.hid (fun V (h : Below w.heap.size w V) => areArgs_any A na ca zs V ((hr.below (Nat.le_refl _) h).more h.size) hl hn)
  have HL := Lib.hid hl
  have HPL := Lib.hid hpl
  clear hr hl hp hg hpl hT
  have HE := Lib.hid (okVp_no (st := st) mk zs bs hst)
  have n0 : (st == 0) = false := by simp; omega
  have n1 : (st == 1) = false := by simp; omega
  have n2 : (st == 2) = false := by simp; omega
  have n3 : (st == 3) = false := by simp; omega
  clear hst
  go_enter Tryz.func131, Tryz.ntmps131
  go_wp2_with fail
  go_ret
  exact ⟨ret_bool HE.out.symm, hb0.out⟩

theorem impl_VpOk_any (st : Int) (mk : Bool) (A : Option Addr) (na ca : Nat) (zs : List Int) (P : Option Addr) (np cp : Nat) (bs : List Int) (w : World) (hT : Dec.Tabs8 w) (hr : RdI w w.heap.size A zs) (hl : zs.length = na) (hn : na ≤ 1099511627776) (hp : Rd w w.heap.size P bs) (hg : Rng bs) (hpl : bs.length = np) (hpn : np ≤ 1099511627776) :
    Calls Tryz.prog 131 #[.agg #[.int .i64 st, .bool mk, .slice A na ca, .slice P np cp]] w fun e w' => e = .returned (.bool (okVp st mk zs bs)) ∧ Below w.heap.size w w' := by
  rcases st_cases st with rfl | rfl | rfl | rfl | h
  · exact impl_VpOk_0 mk A na ca zs P np cp bs w hT hr hl hn hp hg hpl hpn
  · exact impl_VpOk_1 mk A na ca zs P np cp bs w hT hr hl hn hp hg hpl hpn
  · exact impl_VpOk_2 mk A na ca zs P np cp bs w hT hr hl hn hp hg hpl hpn
  · exact impl_VpOk_3 mk A na ca zs P np cp bs w hT hr hl hn hp hg hpl hpn
  · exact impl_VpOk_st st h mk A na ca zs P np cp bs w hT hr hl hn hp hg hpl hpn
end Go.Proofs.YtgnpgkkjcloghaaGreatDoor.Vp

