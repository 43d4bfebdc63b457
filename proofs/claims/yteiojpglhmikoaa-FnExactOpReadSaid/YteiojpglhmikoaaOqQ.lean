/- The program's OpRead: what it answers at every list of bytes. -/
import Derived.Test.YteiojpglhmikoaaOqR
namespace Go.Proofs.Yteiojpglhmikoaa.Oq
open Go.RowKit Go.Proofs.Yteiojpglhmikoaa.Bytes Go.Proofs.Yteiojpglhmikoaa.OpOk Go.Proofs.Yteiojpglhmikoaa.Opq Go.Proofs.Yteiojpglhmikoaa.Var Go.Proofs.Yteiojpglhmikoaa.Made
set_option linter.unusedVariables false
set_option linter.unusedSimpArgs false
theorem Below.setEight {w w' : World} (h : Below w.heap.size w w') {x0 x1 x2 x3 x4 x5 x6 x7 : Value} : Below w.heap.size w ((((((((w'.setCell ⟨w.heap.size, 0, none⟩ x0).setCell ⟨w.heap.size, 1, none⟩ x1).setCell ⟨w.heap.size, 2, none⟩ x2).setCell ⟨w.heap.size, 3, none⟩ x3).setCell ⟨w.heap.size, 4, none⟩ x4).setCell ⟨w.heap.size, 5, none⟩ x5).setCell ⟨w.heap.size, 6, none⟩ x6).setCell ⟨w.heap.size, 7, none⟩ x7) :=
  ((((((((h.setCell (Nat.le_refl _) _).setCell (Nat.le_refl _) _).setCell (Nat.le_refl _) _).setCell (Nat.le_refl _) _).setCell (Nat.le_refl _) _).setCell (Nat.le_refl _) _).setCell (Nat.le_refl _) _).setCell (Nat.le_refl _) _)
theorem str_eq {xs ys : List Int} (hx : Rng xs) (hy : Rng ys) : ((strOfNums xs).toList == (strOfNums ys).toList) = eqB xs ys := by
  unfold eqB
  rw [Bool.eq_iff_iff]
  simp only [beq_iff_eq, decide_eq_true_eq]
  constructor
  · intro h
    rw [ByteArray.toList_eq, ByteArray.toList_eq] at h
    have := congrArg (List.map fun b : UInt8 => (b.toNat : Int)) h
    have e1 := byt_str hx
    have e2 := byt_str hy
    unfold byt at e1 e2
    rw [e1, e2] at this; exact this
  · rintro rfl; rfl
set_option maxRecDepth 100000 in
set_option maxHeartbeats 3200000 in
theorem bytesEqual_any (A B : Option Addr) (n c m d : Nat) (xs ys : List Int) (w : World) (hx : Rd w w.heap.size A xs) (hy : Rd w w.heap.size B ys) (hl : xs.length = n) (hm : ys.length = m) (hA : A = none → n = 0 ∧ c = 0) (hB : B = none → m = 0 ∧ d = 0) (gx : Rng xs) (gy : Rng ys) :
    Calls Try.prog 105 #[.slice A n c, .slice B m d] w fun e w' => e = .returned (.bool (eqB xs ys)) ∧ w = w' := by
  have cx := conv_str w A n c xs w.heap.size hx hl hA
  have cy := conv_str w B m d ys w.heap.size hy hm hB
  have HE := Lib.hid (str_eq gx gy)
  clear hx hy hl hm hA hB gx gy
  go_enter Try.func105, Try.ntmps105
  go_wp2_with fail
  go_ret
  exact ⟨rtb HE.out, rfl⟩
/-- is what was read an operation, and are the bytes its encoding -/
def rvOk (zs : List Int) : Bool := opOK (gvN zs 0) (gvN zs (q1 zs)) (gvN zs (q2 zs)) (gvN zs (q3 zs)) (gtS zs (q4 zs)) (gtS zs (q5 zs)) (gtS zs (q6 zs)) (byt (gtS zs (q7 zs))).length
def rvE (zs : List Int) : List Int := opE (gvN zs 0) (gvN zs (q1 zs)) (gvN zs (q2 zs)) (gvN zs (q3 zs)) (gtS zs (q4 zs)) (gtS zs (q5 zs)) (gtS zs (q6 zs)) (byt (gtS zs (q7 zs)))
def rdB (zs : List Int) : Bool := rvOk zs && eqB (rvE zs) zs
def aI (b : Bool) (x : Int) : Int := if b = true then x else 0
def aT (b : Bool) (x : ByteArray) : ByteArray := if b = true then x else ByteArray.empty
def aS (b : Bool) (x : List Int) : List Int := if b = true then x else []
/-- what OpRead answers -/
abbrev ansV (zs : List Int) (A : Option Addr) (n c : Nat) : Value := opV (aI (rdB zs) (gvN zs 0)) (aI (rdB zs) (gvN zs (q1 zs))) (aI (rdB zs) (gvN zs (q2 zs))) (aI (rdB zs) (gvN zs (q3 zs))) (aT (rdB zs) (gtS zs (q4 zs))) (aT (rdB zs) (gtS zs (q5 zs))) (aT (rdB zs) (gtS zs (q6 zs))) A n c
def ansS (zs : List Int) : List Int := aS (rdB zs) (byt (gtS zs (q7 zs)))
theorem ansS_len (zs : List Int) : (ansS zs).length ≤ 4000 := by
  unfold ansS aS; split
  · rw [byt_len]; exact gtS_size _ _
  · simp
theorem rvE_rng (zs : List Int) : Rng (rvE zs) := opE_rng _ _ _ _ _ _ _ (byt_rng _)
/-- what holds of an answer -/
def RdAns (w : World) (zs : List Int) (e : Ending) (w' : World) : Prop := ∃ A' n' c', e = .returned (.tuple #[ansV zs A' n' c', .bool (rdB zs)]) ∧ Own w' w.heap.size A' n' c' (ansS zs) ∧ Below w.heap.size w w'
theorem RdAns.no {w w' : World} {zs : List Int} (h : rdB zs = false) (hb : Below w.heap.size w w') : RdAns w zs (.returned (.tuple #[opV 0 0 0 0 ByteArray.empty ByteArray.empty ByteArray.empty none 0 0, .bool false])) w' :=
  ⟨none, 0, 0, by unfold ansV; rw [h]; rfl, by unfold ansS; rw [h]; exact own_nil _ _, hb⟩
theorem RdAns.yes {w w' : World} {zs : List Int} {A : Option Addr} {n c : Nat} (h : rdB zs = true) (ho : Own w' w.heap.size A n c (byt (gtS zs (q7 zs)))) (hb : Below w.heap.size w w') : RdAns w zs (.returned (.tuple #[rdV zs A n c, .bool true])) w' :=
  ⟨A, n, c, by unfold ansV; rw [h]; rfl, by unfold ansS; rw [h]; exact ho, hb⟩
set_option maxRecDepth 100000 in
set_option maxHeartbeats 3200000 in
theorem recoveredOp_any (A : Option Addr) (n c : Nat) (zs : List Int) (w : World) (hr : Rd w w.heap.size A zs) (hg : Rng zs) (hl : zs.length = n) (hn : n ≤ 1099511627776) (hnc : n ≤ c) (hA : A = none → n = 0 ∧ c = 0) :
    Calls Try.prog 79 #[.slice A n c, .func (.func 80) #[] #[], .func (.func 40) #[] #[]] w (RdAns w zs) := by
  have HD := Lib.hid (fun W (hq : Rd W W.heap.size A zs) => decodedOp_any A n c 0 zs W hq hg hl hn hnc)
  have HOB := Lib.hid (fun (A' : Option Addr) (c' : Nat) W (hq : Rd W W.heap.size A' (byt (gtS zs (q7 zs)))) (hA : A' = none → (byt (gtS zs (q7 zs))).length = 0 ∧ c' = 0) => impl_OpBytes_any (gvN zs 0) (gvN zs (q1 zs)) (gvN zs (q2 zs)) (gvN zs (q3 zs)) (gtS zs (q4 zs)) (gtS zs (q5 zs)) (gtS zs (q6 zs)) A' (byt (gtS zs (q7 zs))).length c' (byt (gtS zs (q7 zs))) W (by have := gtS_size zs (q4 zs); unfold maxLen; omega) (by have := gtS_size zs (q5 zs); unfold maxLen; omega) (by have := gtS_size zs (q6 zs); unfold maxLen; omega) (by have := gtS_size zs (q7 zs); rw [byt_len]; omega) hq rfl hA (byt_rng _))
  have HR := Lib.hid hr
  have HG := Lib.hid hg
  have HL := Lib.hid hl
  have HA := Lib.hid hA
  clear hr hg hl hA
  have HB0 := Lib.hid ((Below.refl w.heap.size w).alloc (Nat.le_refl _) (.cells #[.int .i64 0, .int .i64 0, .int .i64 0, .int .i64 0, .string ByteArray.empty, .string ByteArray.empty, .string ByteArray.empty, .slice none 0 0] 58))
  have RO0 := Lib.hid (RowB.new w #[.int .i64 0, .int .i64 0, .int .i64 0, .int .i64 0, .string ByteArray.empty, .string ByteArray.empty, .string ByteArray.empty, .slice none 0 0] 58)
  have hOK : opOK (gvN zs 0) (gvN zs (q1 zs)) (gvN zs (q2 zs)) (gvN zs (q3 zs)) (gtS zs (q4 zs)) (gtS zs (q5 zs)) (gtS zs (q6 zs)) (byt (gtS zs (q7 zs))).length = rvOk zs := rfl
  cases hok : rvOk zs
  · have HOK := Lib.hid (hOK.trans hok)
    have HNO := Lib.hid (show rdB zs = false by unfold rdB; rw [hok]; rfl)
    clear hOK hok
    go_enter Try.func79, Try.ntmps79
    go_wp2_with fail
    refine (HD.out _ ((HR.out.below (Nat.le_refl _) HB0.out).more (by simp))).mono ?_
    rintro e v1 ⟨A1, n1, c1, rfl, ho1', hb1⟩
    obtain rfl : n1 = (byt (gtS zs (q7 zs))).length := ho1'.len.symm
    have HO1 := Lib.hid (show Own v1 (w.heap.size + 1) A1 (byt (gtS zs (q7 zs))).length c1 (byt (gtS zs (q7 zs))) from ho1'.more (by simp))
    have HB1 := Lib.hid (HB0.out.trans (hb1.mono (by simp)))
    have RO1 := Lib.hid ((RO0.out.below hb1 (by simp)).alloc (.cells #[.int .i64 (gvN zs 0), .int .i64 (gvN zs (q1 zs)), .int .i64 (gvN zs (q2 zs)), .int .i64 (gvN zs (q3 zs)), .string (gtS zs (q4 zs)), .string (gtS zs (q5 zs)), .string (gtS zs (q6 zs)), .slice A1 (byt (gtS zs (q7 zs))).length c1] 58))
    have RV1 := Lib.hid (RowB.new v1 #[.int .i64 (gvN zs 0), .int .i64 (gvN zs (q1 zs)), .int .i64 (gvN zs (q2 zs)), .int .i64 (gvN zs (q3 zs)), .string (gtS zs (q4 zs)), .string (gtS zs (q5 zs)), .string (gtS zs (q6 zs)), .slice A1 (byt (gtS zs (q7 zs))).length c1] 58)
    have lt1 : w.heap.size < v1.heap.size := by have := hb1.size; simp at this; omega
    clear ho1' hb1
    go_wp2_with fail
    refine (HOB.out A1 c1 _ ((HO1.out.rd.below (Nat.le_refl _) ((Below.refl v1.heap.size v1).alloc (Nat.le_refl _) _)).more (by simp)) (own_none HO1.out)).mono ?_
    rintro e v2 ⟨A2, n2, c2, rfl, ho2', hb2'⟩
    have RO2' := RO1.out.below hb2' (by simp; omega)
    have hb2 : Below v1.heap.size v1 v2 := ((Below.refl v1.heap.size v1).alloc (Nat.le_refl _) (.cells #[.int .i64 (gvN zs 0), .int .i64 (gvN zs (q1 zs)), .int .i64 (gvN zs (q2 zs)), .int .i64 (gvN zs (q3 zs)), .string (gtS zs (q4 zs)), .string (gtS zs (q5 zs)), .string (gtS zs (q6 zs)), .slice A1 (byt (gtS zs (q7 zs))).length c1] 58)).trans (hb2'.mono (by simp))
    clear hb2'
    rw [HOK.out] at ho2' ⊢
    clear ho2'
    have HB2 := Lib.hid (HB1.out.trans (hb2.mono (Nat.le_of_lt lt1)))
    have RO2 := Lib.hid RO2'
    have lt2 : w.heap.size < v2.heap.size := RO2.out.lt
    clear hb2 RO2'
    have y0 : v2.cell? ⟨w.heap.size, 0, none⟩ = some (.int .i64 0) := RO2.out.cell 0
    have y1 : v2.cell? ⟨w.heap.size, 1, none⟩ = some (.int .i64 0) := RO2.out.cell 1
    have y2 : v2.cell? ⟨w.heap.size, 2, none⟩ = some (.int .i64 0) := RO2.out.cell 2
    have y3 : v2.cell? ⟨w.heap.size, 3, none⟩ = some (.int .i64 0) := RO2.out.cell 3
    have y4 : v2.cell? ⟨w.heap.size, 4, none⟩ = some (.string ByteArray.empty) := RO2.out.cell 4
    have y5 : v2.cell? ⟨w.heap.size, 5, none⟩ = some (.string ByteArray.empty) := RO2.out.cell 5
    have y6 : v2.cell? ⟨w.heap.size, 6, none⟩ = some (.string ByteArray.empty) := RO2.out.cell 6
    have y7 : v2.cell? ⟨w.heap.size, 7, none⟩ = some (.slice none 0 0) := RO2.out.cell 7
    have z0 : v2.frozen? ⟨w.heap.size, 0, none⟩ = false := RO2.out.free 0
    have z1 : v2.frozen? ⟨w.heap.size, 1, none⟩ = false := RO2.out.free 1
    have z2 : v2.frozen? ⟨w.heap.size, 2, none⟩ = false := RO2.out.free 2
    have z3 : v2.frozen? ⟨w.heap.size, 3, none⟩ = false := RO2.out.free 3
    have z4 : v2.frozen? ⟨w.heap.size, 4, none⟩ = false := RO2.out.free 4
    have z5 : v2.frozen? ⟨w.heap.size, 5, none⟩ = false := RO2.out.free 5
    have z6 : v2.frozen? ⟨w.heap.size, 6, none⟩ = false := RO2.out.free 6
    have z7 : v2.frozen? ⟨w.heap.size, 7, none⟩ = false := RO2.out.free 7
    have ne2 : w.heap.size ≠ v2.heap.size := Nat.ne_of_lt lt2
    go_wp2_with fail
    exact bodyPost_ret (v := .tuple #[opV 0 0 0 0 ByteArray.empty ByteArray.empty ByteArray.empty none 0 0, .bool false]) (by simp [results, Try.results79, go_sem, y0, y1, y2, y3, y4, y5, y6, y7, z0, z1, z2, z3, z4, z5, z6, z7, ne2, lt2]; rfl) rfl (RdAns.no HNO.out ((Below.setEight HB2.out).alloc (by simp; exact Nat.le_of_lt lt2) _))
  · have HOK := Lib.hid (hOK.trans hok)
    cases heq : eqB (rvE zs) zs
    · have HNO := Lib.hid (show rdB zs = false by unfold rdB; rw [hok, heq]; rfl)
      have HEQ := Lib.hid heq
      clear hOK hok heq
      go_enter Try.func79, Try.ntmps79
      go_wp2_with fail
      refine (HD.out _ ((HR.out.below (Nat.le_refl _) HB0.out).more (by simp))).mono ?_
      rintro e v1 ⟨A1, n1, c1, rfl, ho1', hb1⟩
      obtain rfl : n1 = (byt (gtS zs (q7 zs))).length := ho1'.len.symm
      have HO1 := Lib.hid (show Own v1 (w.heap.size + 1) A1 (byt (gtS zs (q7 zs))).length c1 (byt (gtS zs (q7 zs))) from ho1'.more (by simp))
      have HB1 := Lib.hid (HB0.out.trans (hb1.mono (by simp)))
      have RO1 := Lib.hid ((RO0.out.below hb1 (by simp)).alloc (.cells #[.int .i64 (gvN zs 0), .int .i64 (gvN zs (q1 zs)), .int .i64 (gvN zs (q2 zs)), .int .i64 (gvN zs (q3 zs)), .string (gtS zs (q4 zs)), .string (gtS zs (q5 zs)), .string (gtS zs (q6 zs)), .slice A1 (byt (gtS zs (q7 zs))).length c1] 58))
      have RV1 := Lib.hid (RowB.new v1 #[.int .i64 (gvN zs 0), .int .i64 (gvN zs (q1 zs)), .int .i64 (gvN zs (q2 zs)), .int .i64 (gvN zs (q3 zs)), .string (gtS zs (q4 zs)), .string (gtS zs (q5 zs)), .string (gtS zs (q6 zs)), .slice A1 (byt (gtS zs (q7 zs))).length c1] 58)
      have lt1 : w.heap.size < v1.heap.size := by have := hb1.size; simp at this; omega
      clear ho1' hb1
      go_wp2_with fail
      refine (HOB.out A1 c1 _ ((HO1.out.rd.below (Nat.le_refl _) ((Below.refl v1.heap.size v1).alloc (Nat.le_refl _) _)).more (by simp)) (own_none HO1.out)).mono ?_
      rintro e v2 ⟨A2, n2, c2, rfl, ho2', hb2'⟩
      have hb2 : Below v1.heap.size v1 v2 := ((Below.refl v1.heap.size v1).alloc (Nat.le_refl _) (.cells #[.int .i64 (gvN zs 0), .int .i64 (gvN zs (q1 zs)), .int .i64 (gvN zs (q2 zs)), .int .i64 (gvN zs (q3 zs)), .string (gtS zs (q4 zs)), .string (gtS zs (q5 zs)), .string (gtS zs (q6 zs)), .slice A1 (byt (gtS zs (q7 zs))).length c1] 58)).trans (hb2'.mono (by simp))
      rw [HOK.out] at ho2' ⊢
      have HO2 := Lib.hid (show Own v2 w.heap.size A2 n2 c2 (rvE zs) from ho2'.more (by simp; omega))
      have HD2 := Lib.hid (HO1.out.below (Nat.le_refl _) hb2)
      have RO2 := Lib.hid (RO1.out.below hb2' (by simp; omega))
      have RV2 := Lib.hid (RV1.out.below hb2' (by simp))
      have HB2 := Lib.hid (HB1.out.trans (hb2.mono (Nat.le_of_lt lt1)))
      have lt2 : w.heap.size < v2.heap.size := RO2.out.lt
      have lt3 : v1.heap.size < v2.heap.size := RV2.out.lt
      clear ho2' hb2 hb2'
      have y0 : v2.cell? ⟨w.heap.size, 0, none⟩ = some (.int .i64 0) := RO2.out.cell 0
      have y1 : v2.cell? ⟨w.heap.size, 1, none⟩ = some (.int .i64 0) := RO2.out.cell 1
      have y2 : v2.cell? ⟨w.heap.size, 2, none⟩ = some (.int .i64 0) := RO2.out.cell 2
      have y3 : v2.cell? ⟨w.heap.size, 3, none⟩ = some (.int .i64 0) := RO2.out.cell 3
      have y4 : v2.cell? ⟨w.heap.size, 4, none⟩ = some (.string ByteArray.empty) := RO2.out.cell 4
      have y5 : v2.cell? ⟨w.heap.size, 5, none⟩ = some (.string ByteArray.empty) := RO2.out.cell 5
      have y6 : v2.cell? ⟨w.heap.size, 6, none⟩ = some (.string ByteArray.empty) := RO2.out.cell 6
      have y7 : v2.cell? ⟨w.heap.size, 7, none⟩ = some (.slice none 0 0) := RO2.out.cell 7
      have z0 : v2.frozen? ⟨w.heap.size, 0, none⟩ = false := RO2.out.free 0
      have z1 : v2.frozen? ⟨w.heap.size, 1, none⟩ = false := RO2.out.free 1
      have z2 : v2.frozen? ⟨w.heap.size, 2, none⟩ = false := RO2.out.free 2
      have z3 : v2.frozen? ⟨w.heap.size, 3, none⟩ = false := RO2.out.free 3
      have z4 : v2.frozen? ⟨w.heap.size, 4, none⟩ = false := RO2.out.free 4
      have z5 : v2.frozen? ⟨w.heap.size, 5, none⟩ = false := RO2.out.free 5
      have z6 : v2.frozen? ⟨w.heap.size, 6, none⟩ = false := RO2.out.free 6
      have z7 : v2.frozen? ⟨w.heap.size, 7, none⟩ = false := RO2.out.free 7
      go_wp2_with fail
      refine (bytesEqual_any A2 A n2 c2 n c (rvE zs) zs _ HO2.out.rd ((HR.out.below (Nat.le_refl _) HB2.out).more (Nat.le_of_lt lt2)) HO2.out.len HL.out (own_none HO2.out) HA.out (rvE_rng zs) HG.out).mono ?_
      rintro e w' ⟨rfl, rfl⟩
      rw [HEQ.out]
      have ne2 : w.heap.size ≠ v2.heap.size := Nat.ne_of_lt lt2
      go_wp2_with fail
      exact bodyPost_ret (v := .tuple #[opV 0 0 0 0 ByteArray.empty ByteArray.empty ByteArray.empty none 0 0, .bool false]) (by simp [results, Try.results79, go_sem, y0, y1, y2, y3, y4, y5, y6, y7, z0, z1, z2, z3, z4, z5, z6, z7, ne2, lt2]; rfl) rfl (RdAns.no HNO.out ((Below.setEight HB2.out).alloc (by simp; exact Nat.le_of_lt lt2) _))
    · have HYES := Lib.hid (show rdB zs = true by unfold rdB; rw [hok, heq]; rfl)
      have HEQ := Lib.hid heq
      clear hOK hok heq
      go_enter Try.func79, Try.ntmps79
      go_wp2_with fail
      refine (HD.out _ ((HR.out.below (Nat.le_refl _) HB0.out).more (by simp))).mono ?_
      rintro e v1 ⟨A1, n1, c1, rfl, ho1', hb1⟩
      obtain rfl : n1 = (byt (gtS zs (q7 zs))).length := ho1'.len.symm
      have HO1 := Lib.hid (show Own v1 (w.heap.size + 1) A1 (byt (gtS zs (q7 zs))).length c1 (byt (gtS zs (q7 zs))) from ho1'.more (by simp))
      have HB1 := Lib.hid (HB0.out.trans (hb1.mono (by simp)))
      have RO1 := Lib.hid ((RO0.out.below hb1 (by simp)).alloc (.cells #[.int .i64 (gvN zs 0), .int .i64 (gvN zs (q1 zs)), .int .i64 (gvN zs (q2 zs)), .int .i64 (gvN zs (q3 zs)), .string (gtS zs (q4 zs)), .string (gtS zs (q5 zs)), .string (gtS zs (q6 zs)), .slice A1 (byt (gtS zs (q7 zs))).length c1] 58))
      have RV1 := Lib.hid (RowB.new v1 #[.int .i64 (gvN zs 0), .int .i64 (gvN zs (q1 zs)), .int .i64 (gvN zs (q2 zs)), .int .i64 (gvN zs (q3 zs)), .string (gtS zs (q4 zs)), .string (gtS zs (q5 zs)), .string (gtS zs (q6 zs)), .slice A1 (byt (gtS zs (q7 zs))).length c1] 58)
      have lt1 : w.heap.size < v1.heap.size := by have := hb1.size; simp at this; omega
      clear ho1' hb1
      go_wp2_with fail
      refine (HOB.out A1 c1 _ ((HO1.out.rd.below (Nat.le_refl _) ((Below.refl v1.heap.size v1).alloc (Nat.le_refl _) _)).more (by simp)) (own_none HO1.out)).mono ?_
      rintro e v2 ⟨A2, n2, c2, rfl, ho2', hb2'⟩
      have hb2 : Below v1.heap.size v1 v2 := ((Below.refl v1.heap.size v1).alloc (Nat.le_refl _) (.cells #[.int .i64 (gvN zs 0), .int .i64 (gvN zs (q1 zs)), .int .i64 (gvN zs (q2 zs)), .int .i64 (gvN zs (q3 zs)), .string (gtS zs (q4 zs)), .string (gtS zs (q5 zs)), .string (gtS zs (q6 zs)), .slice A1 (byt (gtS zs (q7 zs))).length c1] 58)).trans (hb2'.mono (by simp))
      rw [HOK.out] at ho2' ⊢
      have HO2 := Lib.hid (show Own v2 w.heap.size A2 n2 c2 (rvE zs) from ho2'.more (by simp; omega))
      have HD2 := Lib.hid (HO1.out.below (Nat.le_refl _) hb2)
      have RO2 := Lib.hid (RO1.out.below hb2' (by simp; omega))
      have RV2 := Lib.hid (RV1.out.below hb2' (by simp))
      have HB2 := Lib.hid (HB1.out.trans (hb2.mono (Nat.le_of_lt lt1)))
      have lt2 : w.heap.size < v2.heap.size := RO2.out.lt
      have lt3 : v1.heap.size < v2.heap.size := RV2.out.lt
      clear ho2' hb2 hb2'
      have y0 : v2.cell? ⟨w.heap.size, 0, none⟩ = some (.int .i64 0) := RO2.out.cell 0
      have y1 : v2.cell? ⟨w.heap.size, 1, none⟩ = some (.int .i64 0) := RO2.out.cell 1
      have y2 : v2.cell? ⟨w.heap.size, 2, none⟩ = some (.int .i64 0) := RO2.out.cell 2
      have y3 : v2.cell? ⟨w.heap.size, 3, none⟩ = some (.int .i64 0) := RO2.out.cell 3
      have y4 : v2.cell? ⟨w.heap.size, 4, none⟩ = some (.string ByteArray.empty) := RO2.out.cell 4
      have y5 : v2.cell? ⟨w.heap.size, 5, none⟩ = some (.string ByteArray.empty) := RO2.out.cell 5
      have y6 : v2.cell? ⟨w.heap.size, 6, none⟩ = some (.string ByteArray.empty) := RO2.out.cell 6
      have y7 : v2.cell? ⟨w.heap.size, 7, none⟩ = some (.slice none 0 0) := RO2.out.cell 7
      have z0 : v2.frozen? ⟨w.heap.size, 0, none⟩ = false := RO2.out.free 0
      have z1 : v2.frozen? ⟨w.heap.size, 1, none⟩ = false := RO2.out.free 1
      have z2 : v2.frozen? ⟨w.heap.size, 2, none⟩ = false := RO2.out.free 2
      have z3 : v2.frozen? ⟨w.heap.size, 3, none⟩ = false := RO2.out.free 3
      have z4 : v2.frozen? ⟨w.heap.size, 4, none⟩ = false := RO2.out.free 4
      have z5 : v2.frozen? ⟨w.heap.size, 5, none⟩ = false := RO2.out.free 5
      have z6 : v2.frozen? ⟨w.heap.size, 6, none⟩ = false := RO2.out.free 6
      have z7 : v2.frozen? ⟨w.heap.size, 7, none⟩ = false := RO2.out.free 7
      go_wp2_with fail
      refine (bytesEqual_any A2 A n2 c2 n c (rvE zs) zs _ HO2.out.rd ((HR.out.below (Nat.le_refl _) HB2.out).more (Nat.le_of_lt lt2)) HO2.out.len HL.out (own_none HO2.out) HA.out (rvE_rng zs) HG.out).mono ?_
      rintro e w' ⟨rfl, rfl⟩
      rw [HEQ.out]
      have x0 : v2.cell? ⟨v1.heap.size, 0, none⟩ = some (.int .i64 (gvN zs 0)) := RV2.out.cell 0
      have x1 : v2.cell? ⟨v1.heap.size, 1, none⟩ = some (.int .i64 (gvN zs (q1 zs))) := RV2.out.cell 1
      have x2 : v2.cell? ⟨v1.heap.size, 2, none⟩ = some (.int .i64 (gvN zs (q2 zs))) := RV2.out.cell 2
      have x3 : v2.cell? ⟨v1.heap.size, 3, none⟩ = some (.int .i64 (gvN zs (q3 zs))) := RV2.out.cell 3
      have x4 : v2.cell? ⟨v1.heap.size, 4, none⟩ = some (.string (gtS zs (q4 zs))) := RV2.out.cell 4
      have x5 : v2.cell? ⟨v1.heap.size, 5, none⟩ = some (.string (gtS zs (q5 zs))) := RV2.out.cell 5
      have x6 : v2.cell? ⟨v1.heap.size, 6, none⟩ = some (.string (gtS zs (q6 zs))) := RV2.out.cell 6
      have x7 : v2.cell? ⟨v1.heap.size, 7, none⟩ = some (.slice A1 (byt (gtS zs (q7 zs))).length c1) := RV2.out.cell 7
      go_wp2_with fail
      exact bodyPost_ret (v := .tuple #[rdV zs A1 (byt (gtS zs (q7 zs))).length c1, .bool true]) (by simp [results, Try.results79, go_sem, y0, y1, y2, y3, y4, y5, y6, y7, z0, z1, z2, z3, z4, z5, z6, z7]) rfl (RdAns.yes HYES.out ((own_setR (own_setR (own_setR (own_setR (own_setR (own_setR (own_setR (own_setR HD2.out w.heap.size 0 _ (Nat.lt_succ_self _)) w.heap.size 1 _ (Nat.lt_succ_self _)) w.heap.size 2 _ (Nat.lt_succ_self _)) w.heap.size 3 _ (Nat.lt_succ_self _)) w.heap.size 4 _ (Nat.lt_succ_self _)) w.heap.size 5 _ (Nat.lt_succ_self _)) w.heap.size 6 _ (Nat.lt_succ_self _)) w.heap.size 7 _ (Nat.lt_succ_self _)).more (Nat.le_succ _)) (Below.setEight HB2.out))
set_option maxRecDepth 100000 in
set_option maxHeartbeats 3200000 in
theorem impl_OpRead_any (A : Option Addr) (n c : Nat) (zs : List Int) (w : World) (hr : Rd w w.heap.size A zs) (hg : Rng zs) (hl : zs.length = n) (hn : n ≤ 1099511627776) (hnc : n ≤ c) (hA : A = none → n = 0 ∧ c = 0) :
    Calls Try.prog 43 #[.slice A n c] w (RdAns w zs) := by
  have HC := Lib.hid (fun W (hq : Rd W W.heap.size A zs) => recoveredOp_any A n c zs W hq hg hl hn hnc hA)
  have HR := Lib.hid hr
  clear hr hg hl hA
  have HB0 := Lib.hid ((Below.refl w.heap.size w).alloc (Nat.le_refl _) (.cells #[.int .i64 0, .int .i64 0, .int .i64 0, .int .i64 0, .string ByteArray.empty, .string ByteArray.empty, .string ByteArray.empty, .slice none 0 0] 58))
  have RO0 := Lib.hid (RowB.new w #[.int .i64 0, .int .i64 0, .int .i64 0, .int .i64 0, .string ByteArray.empty, .string ByteArray.empty, .string ByteArray.empty, .slice none 0 0] 58)
  go_enter Try.func43, Try.ntmps43
  go_wp2_with fail
  refine (HC.out _ ((HR.out.below (Nat.le_refl _) HB0.out).more (by simp))).mono ?_
  rintro e v1 ⟨A1, n1, c1, rfl, ho1, hb1⟩
  have HO1 := Lib.hid (show Own v1 (w.heap.size + 1) A1 n1 c1 (ansS zs) from ho1.more (by simp))
  have HB1 := Lib.hid (HB0.out.trans (hb1.mono (by simp)))
  have RO1 := Lib.hid (RO0.out.below hb1 (by simp))
  clear ho1 hb1
  have y0 : v1.cell? ⟨w.heap.size, 0, none⟩ = some (.int .i64 0) := RO1.out.cell 0
  have y1 : v1.cell? ⟨w.heap.size, 1, none⟩ = some (.int .i64 0) := RO1.out.cell 1
  have y2 : v1.cell? ⟨w.heap.size, 2, none⟩ = some (.int .i64 0) := RO1.out.cell 2
  have y3 : v1.cell? ⟨w.heap.size, 3, none⟩ = some (.int .i64 0) := RO1.out.cell 3
  have y4 : v1.cell? ⟨w.heap.size, 4, none⟩ = some (.string ByteArray.empty) := RO1.out.cell 4
  have y5 : v1.cell? ⟨w.heap.size, 5, none⟩ = some (.string ByteArray.empty) := RO1.out.cell 5
  have y6 : v1.cell? ⟨w.heap.size, 6, none⟩ = some (.string ByteArray.empty) := RO1.out.cell 6
  have y7 : v1.cell? ⟨w.heap.size, 7, none⟩ = some (.slice none 0 0) := RO1.out.cell 7
  have z0 : v1.frozen? ⟨w.heap.size, 0, none⟩ = false := RO1.out.free 0
  have z1 : v1.frozen? ⟨w.heap.size, 1, none⟩ = false := RO1.out.free 1
  have z2 : v1.frozen? ⟨w.heap.size, 2, none⟩ = false := RO1.out.free 2
  have z3 : v1.frozen? ⟨w.heap.size, 3, none⟩ = false := RO1.out.free 3
  have z4 : v1.frozen? ⟨w.heap.size, 4, none⟩ = false := RO1.out.free 4
  have z5 : v1.frozen? ⟨w.heap.size, 5, none⟩ = false := RO1.out.free 5
  have z6 : v1.frozen? ⟨w.heap.size, 6, none⟩ = false := RO1.out.free 6
  have z7 : v1.frozen? ⟨w.heap.size, 7, none⟩ = false := RO1.out.free 7
  go_wp2_with fail
  exact bodyPost_ret (v := .tuple #[ansV zs A1 n1 c1, .bool (rdB zs)]) (by simp [results, Try.results43, go_sem, y0, y1, y2, y3, y4, y5, y6, y7, z0, z1, z2, z3, z4, z5, z6, z7]) rfl ⟨A1, n1, c1, rfl, (own_setR (own_setR (own_setR (own_setR (own_setR (own_setR (own_setR (own_setR HO1.out w.heap.size 0 _ (Nat.lt_succ_self _)) w.heap.size 1 _ (Nat.lt_succ_self _)) w.heap.size 2 _ (Nat.lt_succ_self _)) w.heap.size 3 _ (Nat.lt_succ_self _)) w.heap.size 4 _ (Nat.lt_succ_self _)) w.heap.size 5 _ (Nat.lt_succ_self _)) w.heap.size 6 _ (Nat.lt_succ_self _)) w.heap.size 7 _ (Nat.lt_succ_self _)).more (Nat.le_succ _), (Below.setEight HB1.out)⟩
end Go.Proofs.Yteiojpglhmikoaa.Oq

