/- The program's reader: a number, a string, the bytes of one; decodedOp; OpRead. -/
import Derived.Test.YteiojpglhmikoaaOqW
import Derived.Test.YteiojpglhmikoaaGetVar
import Derived.Test.YteiojpglhmikoaaGetTextImpl
import Derived.Deep.QuietTactic
import Derived.BigQuiet
namespace Go.Proofs.Yteiojpglhmikoaa.Oq
open Go.RowKit Go.Proofs.Yteiojpglhmikoaa.Bytes Go.Proofs.Yteiojpglhmikoaa.OpOk Go.Proofs.Yteiojpglhmikoaa.Opq Go.Proofs.Yteiojpglhmikoaa.Var Go.Proofs.Yteiojpglhmikoaa.Made
set_option linter.unusedVariables false
set_option linter.unusedSimpArgs false
theorem own_setR {w : World} {base : Nat} {A : Option Addr} {n c : Nat} {zs : List Int} (h : Own w base A n c zs) (b i : Nat) (v : Value) (hb : b < base) : Own (w.setCell ⟨b, i, none⟩ v) base A n c zs := own_set h b i v hb
set_option maxRecDepth 100000 in
set_option maxHeartbeats 3200000 in
theorem read_int (A : Option Addr) (n c g B : Nat) (zs : List Int) (p : Int) (w : World) (hw : RowB w g #[.slice A n c, .int .i64 p]) (hr : Rd w B A zs) (hB : B ≤ g) (hg : Rng zs) (hl : zs.length = n) (hn : n ≤ 1099511627776) (hnc : n ≤ c) :
    Calls Try.prog 120 #[.pointer (some ⟨g, 0, none⟩), .func (.func 121) #[] #[]] w fun e w' => e = .returned (.int .i64 (gvN zs p)) ∧ RowB w' g #[.slice A n c, .int .i64 (rN zs p)] ∧ Below g w w' := by
  have hlt := hw.lt
  have HC := Lib.hid (fun W (hq : Rd W W.heap.size A zs) => impl_GetVar_any A n c zs p W hq hg hl hn)
  have k0 : w.cell? ⟨g, 0, none⟩ = some (.slice A n c) := hw.cell 0
  have k1 : w.cell? ⟨g, 1, none⟩ = some (.int .i64 p) := hw.cell 1
  have z1 : w.frozen? ⟨g, 1, none⟩ = false := hw.free 1
  have HW := Lib.hid hw
  have HR := Lib.hid (hr.more (B' := w.heap.size) (by omega))
  clear hw hr hg hl
  cases q : gvOk zs p
  · have HN := Lib.hid (show rN zs p = -1 by unfold rN; rw [if_neg (by rw [q]; decide)])
    have HD := Lib.hid (fun nq => show Calls Try.prog 121 #[.slice A n c, .int .i64 p] (w.drewN nq) (fun e w' => e = .returned (.tuple #[(.int .i64 (gvN zs p)), .int .i64 (gvE zs p), .bool false]) ∧ w' = w.drewN nq) from (HC.out (w.drewN nq) HR.out).mono fun e w' ⟨he, hw'⟩ => ⟨by rw [he]; unfold gvRet; rw [q], hw'.symm⟩)
    clear q HC
    rw [HN.out]
    go_enter Try.func120, Try.ntmps120
    go_wp2_with fail
    go_quiet ((go_at_call 121; (with_reducible exact Calls.quiet_of_same (HD.out _))))
    go_wp2_with fail
    go_ret
    exact ⟨rfl, (show RowB (w.drewN nq) g _ from HW.out).set.set, ((below_drewN (Below.refl g w) nq).setCell (by simp) _).setCell (by simp) _⟩
  · have HN := Lib.hid (show rN zs p = gvE zs p by unfold rN; rw [if_pos q])
    have HD := Lib.hid (fun nq => show Calls Try.prog 121 #[.slice A n c, .int .i64 p] (w.drewN nq) (fun e w' => e = .returned (.tuple #[(.int .i64 (gvN zs p)), .int .i64 (gvE zs p), .bool true]) ∧ w' = w.drewN nq) from (HC.out (w.drewN nq) HR.out).mono fun e w' ⟨he, hw'⟩ => ⟨by rw [he]; unfold gvRet; rw [q], hw'.symm⟩)
    clear q HC
    rw [HN.out]
    go_enter Try.func120, Try.ntmps120
    go_wp2_with fail
    go_quiet ((go_at_call 121; (with_reducible exact Calls.quiet_of_same (HD.out _))))
    go_wp2_with fail
    go_ret
    exact ⟨rfl, (show RowB (w.drewN nq) g _ from HW.out).set, (below_drewN (Below.refl g w) nq).setCell (by simp) _⟩
set_option maxRecDepth 100000 in
set_option maxHeartbeats 3200000 in
theorem numberR_any (A : Option Addr) (n c g B : Nat) (zs : List Int) (p : Int) (w : World) (hw : RowB w g #[.slice A n c, .int .i64 p]) (hr : Rd w B A zs) (hB : B ≤ g) (hg : Rng zs) (hl : zs.length = n) (hn : n ≤ 1099511627776) (hnc : n ≤ c) :
    Calls Try.prog 106 #[.pointer (some ⟨g, 0, none⟩)] w fun e w' => e = .returned (.int .i64 (gvN zs p)) ∧ RowB w' g #[.slice A n c, .int .i64 (rN zs p)] ∧ Below g w w' := by
  have HC := Lib.hid (read_int A n c g B zs p w hw hr hB hg hl hn hnc)
  clear hw hr hg hl
  go_enter Try.func106, Try.ntmps106
  go_wp2_with fail
  refine HC.out.mono ?_
  rintro e w' ⟨rfl, hr1, hb1⟩
  have HR1 := Lib.hid hr1
  have HB1 := Lib.hid hb1
  clear hr1 hb1
  go_wp2_with fail
  go_ret
  exact ⟨rfl, HR1.out, HB1.out⟩
set_option maxRecDepth 100000 in
set_option maxHeartbeats 3200000 in
theorem read_string (A : Option Addr) (n c g B : Nat) (zs : List Int) (p : Int) (w : World) (hw : RowB w g #[.slice A n c, .int .i64 p]) (hr : Rd w B A zs) (hB : B ≤ g) (hg : Rng zs) (hl : zs.length = n) (hn : n ≤ 1099511627776) (hnc : n ≤ c) :
    Calls Try.prog 122 #[.pointer (some ⟨g, 0, none⟩), .func (.func 123) #[] #[]] w fun e w' => e = .returned (.string (gtS zs p)) ∧ RowB w' g #[.slice A n c, .int .i64 (rT zs p)] ∧ Below g w w' := by
  have hlt := hw.lt
  have HC := Lib.hid (fun W (hq : Rd W W.heap.size A zs) => impl_GetText_any A n c zs p W hq hg hl hn hnc)
  have k0 : w.cell? ⟨g, 0, none⟩ = some (.slice A n c) := hw.cell 0
  have k1 : w.cell? ⟨g, 1, none⟩ = some (.int .i64 p) := hw.cell 1
  have z1 : w.frozen? ⟨g, 1, none⟩ = false := hw.free 1
  have HW := Lib.hid hw
  have HR := Lib.hid (hr.more (B' := w.heap.size) (by omega))
  clear hw hr hg hl
  cases q : gtOk zs p
  · have HN := Lib.hid (show rT zs p = -1 by unfold rT; rw [if_neg (by rw [q]; decide)])
    have HD := Lib.hid (fun nq => show Calls Try.prog 123 #[.slice A n c, .int .i64 p] (w.drewN nq) (fun e w' => e = .returned (.tuple #[(.string (gtS zs p)), .int .i64 (gtE zs p), .bool false]) ∧ w' = w.drewN nq) from (HC.out (w.drewN nq) HR.out).mono fun e w' ⟨he, hw'⟩ => ⟨by rw [he]; unfold gtRet; rw [q], hw'.symm⟩)
    clear q HC
    rw [HN.out]
    go_enter Try.func122, Try.ntmps122
    go_wp2_with fail
    go_quiet ((go_at_call 123; (with_reducible exact Calls.quiet_of_same (HD.out _))))
    go_wp2_with fail
    go_ret
    exact ⟨rfl, (show RowB (w.drewN nq) g _ from HW.out).set.set, ((below_drewN (Below.refl g w) nq).setCell (by simp) _).setCell (by simp) _⟩
  · have HN := Lib.hid (show rT zs p = gtE zs p by unfold rT; rw [if_pos q])
    have HD := Lib.hid (fun nq => show Calls Try.prog 123 #[.slice A n c, .int .i64 p] (w.drewN nq) (fun e w' => e = .returned (.tuple #[(.string (gtS zs p)), .int .i64 (gtE zs p), .bool true]) ∧ w' = w.drewN nq) from (HC.out (w.drewN nq) HR.out).mono fun e w' ⟨he, hw'⟩ => ⟨by rw [he]; unfold gtRet; rw [q], hw'.symm⟩)
    clear q HC
    rw [HN.out]
    go_enter Try.func122, Try.ntmps122
    go_wp2_with fail
    go_quiet ((go_at_call 123; (with_reducible exact Calls.quiet_of_same (HD.out _))))
    go_wp2_with fail
    go_ret
    exact ⟨rfl, (show RowB (w.drewN nq) g _ from HW.out).set, (below_drewN (Below.refl g w) nq).setCell (by simp) _⟩
set_option maxRecDepth 100000 in
set_option maxHeartbeats 3200000 in
theorem textR_any (A : Option Addr) (n c g B : Nat) (zs : List Int) (p : Int) (w : World) (hw : RowB w g #[.slice A n c, .int .i64 p]) (hr : Rd w B A zs) (hB : B ≤ g) (hg : Rng zs) (hl : zs.length = n) (hn : n ≤ 1099511627776) (hnc : n ≤ c) :
    Calls Try.prog 107 #[.pointer (some ⟨g, 0, none⟩)] w fun e w' => e = .returned (.string (gtS zs p)) ∧ RowB w' g #[.slice A n c, .int .i64 (rT zs p)] ∧ Below g w w' := by
  have HC := Lib.hid (read_string A n c g B zs p w hw hr hB hg hl hn hnc)
  clear hw hr hg hl
  go_enter Try.func107, Try.ntmps107
  go_wp2_with fail
  refine HC.out.mono ?_
  rintro e w' ⟨rfl, hr1, hb1⟩
  have HR1 := Lib.hid hr1
  have HB1 := Lib.hid hb1
  clear hr1 hb1
  go_wp2_with fail
  go_ret
  exact ⟨rfl, HR1.out, HB1.out⟩
theorem gtS_size (zs : List Int) (p : Int) : (gtS zs p).size ≤ 4000 := by
  unfold gtS
  split
  · rename_i h
    rw [str_size, List.length_take]
    unfold gtOk at h
    simp only [Bool.and_eq_true, decide_eq_true_eq] at h
    omega
  · show (0 : Nat) ≤ 4000; omega
set_option maxRecDepth 100000 in
set_option maxHeartbeats 3200000 in
theorem dataR_any (A : Option Addr) (n c g B : Nat) (zs : List Int) (p : Int) (w : World) (hw : RowB w g #[.slice A n c, .int .i64 p]) (hr : Rd w B A zs) (hB : B ≤ g) (hg : Rng zs) (hl : zs.length = n) (hn : n ≤ 1099511627776) (hnc : n ≤ c) :
    Calls Try.prog 108 #[.pointer (some ⟨g, 0, none⟩)] w fun e w' => ∃ A' n' c', e = .returned (.slice A' n' c') ∧ Own w' w.heap.size A' n' c' (byt (gtS zs p)) ∧ RowB w' g #[.slice A n c, .int .i64 (rT zs p)] ∧ Below g w w' := by
  have HC := Lib.hid (textR_any A n c g B zs p w hw hr hB hg hl hn hnc)
  have hsz := gtS_size zs p
  have hlt := hw.lt
  clear hw hr hg hl
  go_enter Try.func108, Try.ntmps108
  go_wp2_with fail
  refine HC.out.mono ?_
  rintro e w1 ⟨rfl, hr1, hb1⟩
  have HR1 := Lib.hid hr1
  have HB1 := Lib.hid hb1
  have hz := hb1.size
  clear hr1 hb1
  go_wp2_with (at_builtin; refine append_text rfl _ _ rfl rfl rfl (own_nil w1 w.heap.size) (by omega) (by omega) hz ?_)
  intro A2 c2 w2 ho2 hb2
  have HO2 := Lib.hid (show Own w2 w.heap.size A2 (gtS zs p).size c2 (byt (gtS zs p)) by simpa using ho2)
  have HB2 := Lib.hid hb2
  clear ho2 hb2
  go_wp2_with fail
  go_ret
  exact ⟨_, _, _, rfl, HO2.out, HR1.out.below HB2.out hlt, HB1.out.trans (HB2.out.mono (by omega))⟩
/-- the value that the program reads, with or without a defect -/
abbrev rdV (zs : List Int) (A : Option Addr) (n c : Nat) : Value := opV (gvN zs 0) (gvN zs (q1 zs)) (gvN zs (q2 zs)) (gvN zs (q3 zs)) (gtS zs (q4 zs)) (gtS zs (q5 zs)) (gtS zs (q6 zs)) A n c
set_option maxRecDepth 100000 in
set_option maxHeartbeats 3200000 in
theorem decodedOp_any (A : Option Addr) (n c B : Nat) (zs : List Int) (w : World) (hr : Rd w w.heap.size A zs) (hg : Rng zs) (hl : zs.length = n) (hn : n ≤ 1099511627776) (hnc : n ≤ c) :
    Calls Try.prog 80 #[.slice A n c] w fun e w' => ∃ A' n' c', e = .returned (rdV zs A' n' c') ∧ Own w' w.heap.size A' n' c' (byt (gtS zs (q7 zs))) ∧ Below w.heap.size w w' := by
  have HN := Lib.hid (fun (p : Int) (W : World) (h1 : RowB W (w.heap.size + 1) #[.slice A n c, .int .i64 p]) (h2 : Rd W w.heap.size A zs) => numberR_any A n c (w.heap.size + 1) w.heap.size zs p W h1 h2 (Nat.le_succ _) hg hl hn hnc)
  have HT := Lib.hid (fun (p : Int) (W : World) (h1 : RowB W (w.heap.size + 1) #[.slice A n c, .int .i64 p]) (h2 : Rd W w.heap.size A zs) => textR_any A n c (w.heap.size + 1) w.heap.size zs p W h1 h2 (Nat.le_succ _) hg hl hn hnc)
  have HDT := Lib.hid (fun (p : Int) (W : World) (h1 : RowB W (w.heap.size + 1) #[.slice A n c, .int .i64 p]) (h2 : Rd W w.heap.size A zs) => dataR_any A n c (w.heap.size + 1) w.heap.size zs p W h1 h2 (Nat.le_succ _) hg hl hn hnc)
  have HR := Lib.hid hr
  clear hr hg hl
  have HB0 := Lib.hid (((Below.refl w.heap.size w).alloc (Nat.le_refl _) (.cells #[.int .i64 0, .int .i64 0, .int .i64 0, .int .i64 0, .string ByteArray.empty, .string ByteArray.empty, .string ByteArray.empty, .slice none 0 0] 58)).alloc (by simp) (.cells #[.slice A n c, .int .i64 0] 137))
  have RO0 := Lib.hid ((RowB.new w #[.int .i64 0, .int .i64 0, .int .i64 0, .int .i64 0, .string ByteArray.empty, .string ByteArray.empty, .string ByteArray.empty, .slice none 0 0] 58).alloc (.cells #[.slice A n c, .int .i64 0] 137))
  have RR0 := Lib.hid (show RowB ((w.alloc (.cells #[.int .i64 0, .int .i64 0, .int .i64 0, .int .i64 0, .string ByteArray.empty, .string ByteArray.empty, .string ByteArray.empty, .slice none 0 0] 58)).alloc (.cells #[.slice A n c, .int .i64 0] 137)) (w.heap.size + 1) #[.slice A n c, .int .i64 0] from by
    have h := RowB.new (w.alloc (.cells #[.int .i64 0, .int .i64 0, .int .i64 0, .int .i64 0, .string ByteArray.empty, .string ByteArray.empty, .string ByteArray.empty, .slice none 0 0] 58)) #[.slice A n c, .int .i64 0] 137
    rw [World.size_alloc] at h; exact h)
  go_enter Try.func80, Try.ntmps80
  go_wp2_with fail
  refine (HN.out 0 _ RR0.out (HR.out.below (Nat.le_refl _) HB0.out)).mono ?_
  rintro e v1 ⟨rfl, hr1, hb1⟩
  have RR1 := Lib.hid hr1
  have HB1 := Lib.hid (HB0.out.trans (hb1.mono (Nat.le_succ _)))
  have RO1 := Lib.hid (RO0.out.below hb1 (Nat.lt_succ_self _))
  clear hr1 hb1
  go_wp2_with fail
  refine (HN.out (q1 zs) _ RR1.out (HR.out.below (Nat.le_refl _) HB1.out)).mono ?_
  rintro e v2 ⟨rfl, hr2, hb2⟩
  have RR2 := Lib.hid hr2
  have HB2 := Lib.hid (HB1.out.trans (hb2.mono (Nat.le_succ _)))
  have RO2 := Lib.hid (RO1.out.below hb2 (Nat.lt_succ_self _))
  clear hr2 hb2
  go_wp2_with fail
  refine (HN.out (q2 zs) _ RR2.out (HR.out.below (Nat.le_refl _) HB2.out)).mono ?_
  rintro e v3 ⟨rfl, hr3, hb3⟩
  have RR3 := Lib.hid hr3
  have HB3 := Lib.hid (HB2.out.trans (hb3.mono (Nat.le_succ _)))
  have RO3 := Lib.hid (RO2.out.below hb3 (Nat.lt_succ_self _))
  clear hr3 hb3
  go_wp2_with fail
  refine (HN.out (q3 zs) _ RR3.out (HR.out.below (Nat.le_refl _) HB3.out)).mono ?_
  rintro e v4 ⟨rfl, hr4, hb4⟩
  have RR4 := Lib.hid hr4
  have HB4 := Lib.hid (HB3.out.trans (hb4.mono (Nat.le_succ _)))
  have RO4 := Lib.hid (RO3.out.below hb4 (Nat.lt_succ_self _))
  clear hr4 hb4
  go_wp2_with fail
  refine (HT.out (q4 zs) _ RR4.out (HR.out.below (Nat.le_refl _) HB4.out)).mono ?_
  rintro e v5 ⟨rfl, hr5, hb5⟩
  have RR5 := Lib.hid hr5
  have HB5 := Lib.hid (HB4.out.trans (hb5.mono (Nat.le_succ _)))
  have RO5 := Lib.hid (RO4.out.below hb5 (Nat.lt_succ_self _))
  clear hr5 hb5
  go_wp2_with fail
  refine (HT.out (q5 zs) _ RR5.out (HR.out.below (Nat.le_refl _) HB5.out)).mono ?_
  rintro e v6 ⟨rfl, hr6, hb6⟩
  have RR6 := Lib.hid hr6
  have HB6 := Lib.hid (HB5.out.trans (hb6.mono (Nat.le_succ _)))
  have RO6 := Lib.hid (RO5.out.below hb6 (Nat.lt_succ_self _))
  clear hr6 hb6
  go_wp2_with fail
  refine (HT.out (q6 zs) _ RR6.out (HR.out.below (Nat.le_refl _) HB6.out)).mono ?_
  rintro e v7 ⟨rfl, hr7, hb7⟩
  have RR7 := Lib.hid hr7
  have HB7 := Lib.hid (HB6.out.trans (hb7.mono (Nat.le_succ _)))
  have RO7 := Lib.hid (RO6.out.below hb7 (Nat.lt_succ_self _))
  clear hr7 hb7
  go_wp2_with fail
  refine (HDT.out (q7 zs) _ RR7.out (HR.out.below (Nat.le_refl _) HB7.out)).mono ?_
  rintro e v8 ⟨A8, n8, c8, rfl, ho8, hr8, hb8⟩
  have RR8 := Lib.hid hr8
  have HO8 := Lib.hid ho8
  have hz7 : w.heap.size < v7.heap.size := RO7.out.lt
  have HB8 := Lib.hid (HB7.out.trans (hb8.mono (Nat.le_succ _)))
  have RO8 := Lib.hid (RO7.out.below hb8 (Nat.lt_succ_self _))
  clear hr8 hb8 ho8
  have y0 : v8.cell? ⟨w.heap.size, 0, none⟩ = some (.int .i64 0) := RO8.out.cell 0
  have z0 : v8.frozen? ⟨w.heap.size, 0, none⟩ = false := RO8.out.free 0
  have y1 : v8.cell? ⟨w.heap.size, 1, none⟩ = some (.int .i64 0) := RO8.out.cell 1
  have z1 : v8.frozen? ⟨w.heap.size, 1, none⟩ = false := RO8.out.free 1
  have y2 : v8.cell? ⟨w.heap.size, 2, none⟩ = some (.int .i64 0) := RO8.out.cell 2
  have z2 : v8.frozen? ⟨w.heap.size, 2, none⟩ = false := RO8.out.free 2
  have y3 : v8.cell? ⟨w.heap.size, 3, none⟩ = some (.int .i64 0) := RO8.out.cell 3
  have z3 : v8.frozen? ⟨w.heap.size, 3, none⟩ = false := RO8.out.free 3
  have y4 : v8.cell? ⟨w.heap.size, 4, none⟩ = some (.string ByteArray.empty) := RO8.out.cell 4
  have z4 : v8.frozen? ⟨w.heap.size, 4, none⟩ = false := RO8.out.free 4
  have y5 : v8.cell? ⟨w.heap.size, 5, none⟩ = some (.string ByteArray.empty) := RO8.out.cell 5
  have z5 : v8.frozen? ⟨w.heap.size, 5, none⟩ = false := RO8.out.free 5
  have y6 : v8.cell? ⟨w.heap.size, 6, none⟩ = some (.string ByteArray.empty) := RO8.out.cell 6
  have z6 : v8.frozen? ⟨w.heap.size, 6, none⟩ = false := RO8.out.free 6
  have y7 : v8.cell? ⟨w.heap.size, 7, none⟩ = some (.slice none 0 0) := RO8.out.cell 7
  have z7 : v8.frozen? ⟨w.heap.size, 7, none⟩ = false := RO8.out.free 7
  go_wp2_with fail
  refine bodyPost_ret (v := rdV zs A8 n8 c8) (by simp [results, Try.results80, go_sem, q1, q2, q3, q4, q5, q6, q7, y0, y1, y2, y3, y4, y5, y6, y7, z0, z1, z2, z3, z4, z5, z6, z7]) rfl ⟨A8, n8, c8, rfl, (own_setR (own_setR (own_setR (own_setR (own_setR (own_setR (own_setR (own_setR (HO8.out.more (base' := w.heap.size + 1) (by omega)) w.heap.size 0 _ (Nat.lt_succ_self _)) w.heap.size 1 _ (Nat.lt_succ_self _)) w.heap.size 2 _ (Nat.lt_succ_self _)) w.heap.size 3 _ (Nat.lt_succ_self _)) w.heap.size 4 _ (Nat.lt_succ_self _)) w.heap.size 5 _ (Nat.lt_succ_self _)) w.heap.size 6 _ (Nat.lt_succ_self _)) w.heap.size 7 _ (Nat.lt_succ_self _)).more (Nat.le_succ _), ((((((((HB8.out.setCell (Nat.le_refl _) _).setCell (Nat.le_refl _) _).setCell (Nat.le_refl _) _).setCell (Nat.le_refl _) _).setCell (Nat.le_refl _) _).setCell (Nat.le_refl _) _).setCell (Nat.le_refl _) _).setCell (Nat.le_refl _) _)⟩
end Go.Proofs.Yteiojpglhmikoaa.Oq

