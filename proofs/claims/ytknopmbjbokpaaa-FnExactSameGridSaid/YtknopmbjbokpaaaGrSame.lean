/- SameGrid in the program and in the model: both answer whether sides and cells are the same; at every two grids. -/
import Derived.Test.YtknopmbjbokpaaaGrTo
import Derived.Deep.QuietTactic
import Derived.BigQuiet
import Derived.Laws.StructEq
namespace Go.Proofs.Ytknopmbjbokpaaa.Gr
open Go.RowKit Go.Proofs.Ytknopmbjbokpaaa.Bytes Go.Proofs.Ytknopmbjbokpaaa.Rows_ Go.Proofs.Ytknopmbjbokpaaa.RowK
set_option linter.unusedVariables false
def beqC (x y : CellD) : Bool := decide (x.r = y.r ∧ x.fg = y.fg ∧ x.bg = y.bg ∧ x.b = y.b ∧ x.u = y.u ∧ x.t = y.t)
theorem beqC_iff (x y : CellD) : beqC x y = true ↔ x = y := by
  obtain ⟨a, b, c, d, e, f⟩ := x; obtain ⟨a', b', c', d', e', f'⟩ := y
  unfold beqC; simp
/-- the first k cells are the same -/
def samePre (xs ys : List CellD) (k : Nat) : Prop := ∀ i, i < k → xs[i]? = ys[i]?
def eqCs (xs ys : List CellD) : Bool := xs.length == ys.length && (xs.zip ys).all fun p => beqC p.1 p.2
theorem eqCs_len {xs ys : List CellD} (h : xs.length ≠ ys.length) : eqCs xs ys = false := by unfold eqCs; simp [h]
theorem eqCs_at {xs ys : List CellD} {k : Nat} (h1 : k < xs.length) (h2 : k < ys.length) (h : beqC xs[k] ys[k] = false) : eqCs xs ys = false := by
  unfold eqCs
  rw [Bool.and_eq_false_iff]; right
  rw [List.all_eq_false]
  exact ⟨(xs[k], ys[k]), by rw [List.mem_iff_getElem]; exact ⟨k, by simp; omega, by simp⟩, by simp [h]⟩
theorem eqCs_all {xs ys : List CellD} (hl : xs.length = ys.length) (h : ((xs.zip ys).take xs.length).all (fun p => beqC p.1 p.2) = true) : eqCs xs ys = true := by
  rw [List.take_of_length_le (by rw [List.length_zip]; omega)] at h
  unfold eqCs; simp [hl]; simpa using h
theorem zip_next {xs ys : List CellD} {k : Nat} (h1 : k < xs.length) (h2 : k < ys.length) (ha : ((xs.zip ys).take k).all (fun p => beqC p.1 p.2) = true) (h : beqC xs[k] ys[k] = true) : ((xs.zip ys).take (k + 1)).all (fun p => beqC p.1 p.2) = true := by
  rw [List.take_succ_eq_append_getElem (by simp; omega), List.all_append, ha]; simp [h]

theorem guardC (x y : Operand) (xs ys : Array Value) (w : World) : (eqGuard .neq 37 x y (.agg xs) (.agg ys)).run Try.prog w = .ok () w := run_eqGuard_agg w .neq 37 x y xs ys (by kernel_rfl)
theorem fieldsC : Try.prog.fieldsOf 37 = (match Try.prog.underlying 37 with | some (.struct fs) => fs | _ => #[]) := rfl
set_option maxRecDepth 100000 in
theorem neqC (x0 x1 x2 y0 y1 y2 : Int) (x3 x4 x5 y3 y4 y5 : Bool) (w : World) :
    (binOp .neq 37 (.agg #[.int .i64 x0, .int .i64 x1, .int .i64 x2, .bool x3, .bool x4, .bool x5]) (.agg #[.int .i64 y0, .int .i64 y1, .int .i64 y2, .bool y3, .bool y4, .bool y5])).run Try.prog w
      = .ok (.bool (!decide (x0 = y0 ∧ x1 = y1 ∧ x2 = y2 ∧ x3 = y3 ∧ x4 = y4 ∧ x5 = y5))) w := by
  have u1 := Try.underlying37
  have u2 := Try.underlying35
  have u3 := Try.underlying3
  have u4 := Try.underlying4
  have s1 : Try.prog.stoodInHeld 37 = false := by kernel_rfl
  have s2 : Try.prog.stoodInHeld 35 = false := by kernel_rfl
  rw [run_neq_struct]
  rw [run_equalIn_struct w 9999 37 _ _ (by unfold Program.fieldsOf; rw [u1]) s1]
  have hA : ∀ (xs ys : Array Value) (w : World), (Op.equalIn 9999 35 (.agg xs) (.agg ys)).run Try.prog w = (Op.eqFields 9998 xs ys (Try.prog.fieldsOf 35).toList).run Try.prog w := fun xs ys w => run_equalIn_struct w 9998 35 xs ys (by unfold Program.fieldsOf; rw [u2]) s2
  have f1 : (Try.prog.fieldsOf 37) = (match Try.prog.underlying 37 with | some (.struct fs) => fs | _ => #[]) := rfl
  have f2 : (Try.prog.fieldsOf 35) = (match Try.prog.underlying 35 with | some (.struct fs) => fs | _ => #[]) := rfl
  rw [u1] at f1
  rw [u2] at f2
  simp only [f2] at hA
  simp only [f1]
  have hI : ∀ (d : Nat) (a b : Int) (w : World), (Op.equalIn (d + 1) 3 (.int .i64 a) (.int .i64 b)).run Try.prog w = .ok (a == b) w := fun d a b w => run_equalIn_int w d 3 .i64 .i64 a b u3
  have hB : ∀ (d : Nat) (a b : Bool) (w : World), (Op.equalIn (d + 1) 4 (.bool a) (.bool b)).run Try.prog w = .ok (a == b) w := fun d a b w => run_equalIn_bool' w d 4 a b u4
  have hI1 := hI 9998
  have hI2 := hI 9997
  have hB2 := hB 9997
  have c0 : Try.prog.cellsOf 3 = 1 := by kernel_rfl
  have c1 : Try.prog.cellsOf 4 = 1 := by kernel_rfl
  have c2 : Try.prog.cellsOf 35 = 5 := by kernel_rfl
  simp [Op.eqFields, go_sem, hA, hI1, hI2, hB2]
  by_cases h0 : x0 = y0 <;> by_cases h1 : x1 = y1 <;> by_cases h2 : x2 = y2 <;> by_cases h3 : x3 = y3 <;> by_cases h4 : x4 = y4 <;> by_cases h5 : x5 = y5 <;> simp [h0, h1, h2, h3, h4, h5]

set_option maxRecDepth 100000 in
set_option maxHeartbeats 3200000 in
theorem equal_any (A A' : Option Addr) (n c m c' : Nat) (xs ys : List CellD) (w : World) (hx : RdC w w.heap.size A xs) (hy : RdC w w.heap.size A' ys) (hl : xs.length = n) (hm : ys.length = m) (hn : n ≤ 1099511627776) (hn' : m ≤ 1099511627776) :
    Calls Try.prog 55 #[.slice A n c, .slice A' m c'] w fun e w' => e = .returned (.bool (eqCs xs ys)) ∧ ∃ j, w' = w.drewN j := by
  by_cases hnm : n = m
  · subst hnm
    have HL := Lib.hid hl
    have HM := Lib.hid hm
    have HX := Lib.hid hx
    have HY := Lib.hid hy
    clear hl hm hx hy
    have hnn : (n != n) = false := by simp
    go_enter Try.func55, Try.ntmps55
    go_wp2_with fail
    go_loopw [13] (fun i wr => ∃ k j : Nat, k ≤ n ∧ i = .int .i64 k ∧ ((xs.zip ys).take k).all (fun p => beqC p.1 p.2) = true ∧ wr = w.drewN j) (fun i _ => n - (intOf i).toNat)
    case atStart => exact ⟨0, 0, Nat.zero_le _, rfl, by simp, rfl⟩
    case round =>
      obtain ⟨k, j, hk, rfl, ha, rfl⟩ := hrel
      have HA := Lib.hid ha
      clear ha
      by_cases hlt : k < n
      · have hx1 : k < xs.length := by rw [HL.out]; exact hlt
        have hy1 : k < ys.length := by rw [HM.out]; exact hlt
        obtain ⟨b, o, rfl, hB, p0, p1, p2, p3, p4, p5⟩ := HX.out.at_ hx1
        obtain ⟨b', o', rfl, hB', q0, q1, q2, q3, q4, q5⟩ := HY.out.at_ hy1
        have HNX := Lib.hid (fun h => zip_next hx1 hy1 HA.out h)
        have HNO := Lib.hid (fun h => eqCs_at hx1 hy1 h)
        have HBE := Lib.hid (show beqC xs[k] ys[k] = decide (xs[k].r = ys[k].r ∧ xs[k].fg = ys[k].fg ∧ xs[k].bg = ys[k].bg ∧ xs[k].b = ys[k].b ∧ xs[k].u = ys[k].u ∧ xs[k].t = ys[k].t) from rfl)
        generalize beqC xs[k] ys[k] = be at *
        generalize xs[k].r = x0 at *
        generalize xs[k].fg = x1 at *
        generalize xs[k].bg = x2 at *
        generalize xs[k].b = x3 at *
        generalize xs[k].u = x4 at *
        generalize xs[k].t = x5 at *
        generalize ys[k].r = y0 at *
        generalize ys[k].fg = y1 at *
        generalize ys[k].bg = y2 at *
        generalize ys[k].b = y3 at *
        generalize ys[k].u = y4 at *
        generalize ys[k].t = y5 at *
        clear hx1 hy1
        have hgd : ∀ (p q : Operand) (v : World), (eqGuard .neq 37 p q (.agg #[.int .i64 x0, .int .i64 x1, .int .i64 x2, .bool x3, .bool x4, .bool x5]) (.agg #[.int .i64 y0, .int .i64 y1, .int .i64 y2, .bool y3, .bool y4, .bool y5])).run Try.prog v = .ok () v := fun p q v => guardC p q _ _ v
        have hnq : ∀ (v : World), (binOp .neq 37 (.agg #[.int .i64 x0, .int .i64 x1, .int .i64 x2, .bool x3, .bool x4, .bool x5]) (.agg #[.int .i64 y0, .int .i64 y1, .int .i64 y2, .bool y3, .bool y4, .bool y5])).run Try.prog v = .ok (.bool (!be)) v := fun v => by rw [HBE.out]; exact neqC _ _ _ _ _ _ _ _ _ _ _ _ v
        clear HBE
        cases hbe : be
        · subst hbe
          go_wp2_with fail
          go_quiet (fail)
          go_wp2_with fail
          go_ret
          exact ⟨ret_bool (HNO.out (by trivial)).symm, j + nq, by simp [World.drewN_drewN]⟩
        · subst hbe
          go_wp2_with fail
          go_quiet (fail)
          go_wp2_with fail
          exact ⟨⟨k + 1, _, by omega, by go_num, HNX.out (by trivial), rfl⟩, by simp [intOf]; omega⟩
      · obtain rfl : n = k := by omega
        have HE := Lib.hid (eqCs_all (xs := xs) (ys := ys) (by rw [HL.out, HM.out]) (by rw [HL.out]; exact HA.out))
        go_wp2_with fail
        go_ret
        exact ⟨ret_bool HE.out.symm, _, rfl⟩
  · have HE := Lib.hid (eqCs_len (xs := xs) (ys := ys) (by omega))
    have hne : (n != m) = true := by simpa using hnm
    have hne2 : (!((n : Int) == (m : Int))) = true := by simp; omega
    go_enter Try.func55, Try.ntmps55
    go_wp2_with fail
    go_ret
    exact ⟨ret_bool HE.out.symm, 0, rfl⟩
/-! ### SameGrid -/
def sameB (gw gh gw2 gh2 : Int) (xs ys : List CellD) : Bool := decide (gw = gw2) && (decide (gh = gh2) && eqCs xs ys)
theorem sameB_w {gw gh gw2 gh2 : Int} {xs ys : List CellD} (h : gw ≠ gw2) : sameB gw gh gw2 gh2 xs ys = false := by unfold sameB; simp [h]
theorem sameB_h {gw gh gw2 gh2 : Int} {xs ys : List CellD} (h : gh ≠ gh2) : sameB gw gh gw2 gh2 xs ys = false := by unfold sameB; simp [h]
theorem sameB_c {gw gh gw2 gh2 : Int} {xs ys : List CellD} (h1 : gw = gw2) (h2 : gh = gh2) : sameB gw gh gw2 gh2 xs ys = eqCs xs ys := by unfold sameB; simp [h1, h2]

set_option maxRecDepth 100000 in
set_option maxHeartbeats 3200000 in
theorem impl_SameGrid_any (gw gh gw2 gh2 : Int) (A A' : Option Addr) (n c m c' : Nat) (xs ys : List CellD) (w : World) (hx : RdC w w.heap.size A xs) (hy : RdC w w.heap.size A' ys) (hl : xs.length = n) (hm : ys.length = m) (hn : n ≤ 1099511627776) (hn' : m ≤ 1099511627776) :
    Calls Try.prog 20 #[.agg #[.int .i64 gw, .int .i64 gh, .slice A n c], .agg #[.int .i64 gw2, .int .i64 gh2, .slice A' m c']] w fun e w' => e = .returned (.bool (sameB gw gh gw2 gh2 xs ys)) ∧ Below w.heap.size w w' := by
  have hb0 := Lib.hid (((Below.refl w.heap.size w).alloc (Nat.le_refl _) (.cells #[.int .i64 gw, .int .i64 gh, .slice A n c] 25)).alloc (by simp) (.cells #[.int .i64 gw2, .int .i64 gh2, .slice A' m c'] 25))
  have HL := Lib.hid hl
  have HM := Lib.hid hm
  have HX := Lib.hid hx
  have HY := Lib.hid hy
  clear hl hm hx hy
  by_cases h1 : gw = gw2
  · by_cases h2 : gh = gh2
    · have HE := Lib.hid (sameB_c (xs := xs) (ys := ys) h1 h2)
      have q1 : (gw == gw2) = true := by simp [h1]
      have q2 : (gh == gh2) = true := by simp [h2]
      clear h1 h2
      go_enter Try.func20, Try.ntmps20
      go_wp2_with fail
      refine (equal_any A A' n c m c' xs ys _ ((HX.out.below (Nat.le_refl _) hb0.out).more (by simp; omega)) ((HY.out.below (Nat.le_refl _) hb0.out).more (by simp; omega)) HL.out HM.out hn hn').mono ?_
      rintro e v1 ⟨rfl, j, rfl⟩
      rw [← HE.out]
      have HB1 := Lib.hid (below_drewN hb0.out j)
      go_wp2_with fail
      go_ret
      exact ⟨rfl, HB1.out⟩
    · have HE := Lib.hid (sameB_h (gw := gw) (gw2 := gw2) (xs := xs) (ys := ys) h2)
      have q1 : (gw == gw2) = true := by simp [h1]
      have q2 : (gh == gh2) = false := by simp [h2]
      clear h1 h2
      go_enter Try.func20, Try.ntmps20
      go_wp2_with fail
      go_ret
      exact ⟨ret_bool HE.out.symm, hb0.out⟩
  · have HE := Lib.hid (sameB_w (gh := gh) (gh2 := gh2) (xs := xs) (ys := ys) h1)
    have q1 : (gw == gw2) = false := by simp [h1]
    clear h1
    go_enter Try.func20, Try.ntmps20
    go_wp2_with fail
    go_ret
    exact ⟨ret_bool HE.out.symm, hb0.out⟩

set_option maxRecDepth 100000 in
set_option maxHeartbeats 3200000 in
theorem spec_SameGrid_any (gw gh gw2 gh2 : Int) (A A' : Option Addr) (n c m c' : Nat) (xs ys : List CellD) (w : World) (hx : RdC w w.heap.size A xs) (hy : RdC w w.heap.size A' ys) (hl : xs.length = n) (hm : ys.length = m) (hn : n ≤ 1099511627776) (hn' : m ≤ 1099511627776) :
    Calls Try.prog 42 #[.agg #[.int .i64 gw, .int .i64 gh, .slice A n c], .agg #[.int .i64 gw2, .int .i64 gh2, .slice A' m c']] w fun e w' => e = .returned (.bool (sameB gw gh gw2 gh2 xs ys)) ∧ Below w.heap.size w w' := by
  have hb0 := Lib.hid (((Below.refl w.heap.size w).alloc (Nat.le_refl _) (.cells #[.int .i64 gw, .int .i64 gh, .slice A n c] 25)).alloc (by simp) (.cells #[.int .i64 gw2, .int .i64 gh2, .slice A' m c'] 25))
  have HL := Lib.hid hl
  have HM := Lib.hid hm
  have HX := Lib.hid hx
  have HY := Lib.hid hy
  clear hl hm hx hy
  by_cases h1 : gw = gw2
  · by_cases h2 : gh = gh2
    · have HE := Lib.hid (sameB_c (xs := xs) (ys := ys) h1 h2)
      have q1 : (gw != gw2) = false := by simp [h1]
      have q2 : (gh != gh2) = false := by simp [h2]
      clear h1 h2
      rw [HE.out]
      clear HE
      by_cases hnm : n = m
      · subst hnm
        have hnn : ((n : Int) != (n : Int)) = false := by simp
        have hnn2 : (n != n) = false := by simp
        go_enter Try.func42, Try.ntmps42
        go_wp2_with fail
        go_loopw [30] (fun i wr => ∃ k j : Nat, k ≤ n ∧ i = .int .i64 k ∧ ((xs.zip ys).take k).all (fun p => beqC p.1 p.2) = true ∧ wr = ((w.alloc (.cells #[.int .i64 gw, .int .i64 gh, .slice A n c] 25)).alloc (.cells #[.int .i64 gw2, .int .i64 gh2, .slice A' n c'] 25)).drewN j) (fun i _ => n - (intOf i).toNat)
        case atStart => exact ⟨0, 0, Nat.zero_le _, rfl, by simp, rfl⟩
        case round =>
          obtain ⟨k, j, hk, rfl, ha, rfl⟩ := hrel
          have HA := Lib.hid ha
          clear ha
          by_cases hlt : k < n
          · have hx1 : k < xs.length := by rw [HL.out]; exact hlt
            have hy1 : k < ys.length := by rw [HM.out]; exact hlt
            obtain ⟨b, o, rfl, hB, p0, p1, p2, p3, p4, p5⟩ := HX.out.at_ hx1
            obtain ⟨b', o', rfl, hB', q0, q1, q2, q3, q4, q5⟩ := HY.out.at_ hy1
            have HNX := Lib.hid (fun h => zip_next hx1 hy1 HA.out h)
            have HNO := Lib.hid (fun h => eqCs_at hx1 hy1 h)
            have HBE := Lib.hid (show beqC xs[k] ys[k] = decide (xs[k].r = ys[k].r ∧ xs[k].fg = ys[k].fg ∧ xs[k].bg = ys[k].bg ∧ xs[k].b = ys[k].b ∧ xs[k].u = ys[k].u ∧ xs[k].t = ys[k].t) from rfl)
            generalize beqC xs[k] ys[k] = be at *
            generalize xs[k].r = x0 at *
            generalize xs[k].fg = x1 at *
            generalize xs[k].bg = x2 at *
            generalize xs[k].b = x3 at *
            generalize xs[k].u = x4 at *
            generalize xs[k].t = x5 at *
            generalize ys[k].r = y0 at *
            generalize ys[k].fg = y1 at *
            generalize ys[k].bg = y2 at *
            generalize ys[k].b = y3 at *
            generalize ys[k].u = y4 at *
            generalize ys[k].t = y5 at *
            clear hx1 hy1
            have hgd : ∀ (p q : Operand) (v : World), (eqGuard .neq 37 p q (.agg #[.int .i64 x0, .int .i64 x1, .int .i64 x2, .bool x3, .bool x4, .bool x5]) (.agg #[.int .i64 y0, .int .i64 y1, .int .i64 y2, .bool y3, .bool y4, .bool y5])).run Try.prog v = .ok () v := fun p q v => guardC p q _ _ v
            have hnq : ∀ (v : World), (binOp .neq 37 (.agg #[.int .i64 x0, .int .i64 x1, .int .i64 x2, .bool x3, .bool x4, .bool x5]) (.agg #[.int .i64 y0, .int .i64 y1, .int .i64 y2, .bool y3, .bool y4, .bool y5])).run Try.prog v = .ok (.bool (!be)) v := fun v => by rw [HBE.out]; exact neqC _ _ _ _ _ _ _ _ _ _ _ _ v
            clear HBE
            cases hbe : be
            · subst hbe
              go_wp2_with fail
              go_quiet (fail)
              go_wp2_with fail
              go_ret
              exact ⟨ret_bool (HNO.out (by trivial)).symm, below_drewN (below_drewN hb0.out j) nq⟩
            · subst hbe
              go_wp2_with fail
              go_quiet (fail)
              go_wp2_with fail
              exact ⟨⟨k + 1, j + nq, by omega, by go_num, HNX.out (by trivial), by simp⟩, by simp [intOf]; omega⟩
          · obtain rfl : n = k := by omega
            have HE := Lib.hid (eqCs_all (xs := xs) (ys := ys) (by rw [HL.out, HM.out]) (by rw [HL.out]; exact HA.out))
            go_wp2_with fail
            go_ret
            exact ⟨ret_bool HE.out.symm, below_drewN hb0.out j⟩
      · have HE := Lib.hid (eqCs_len (xs := xs) (ys := ys) (by rw [HL.out, HM.out]; exact hnm))
        have hne : (n != m) = true := by simpa using hnm
        have hne2 : (!((n : Int) == (m : Int))) = true := by simp; omega
        go_enter Try.func42, Try.ntmps42
        go_wp2_with fail
        go_ret
        exact ⟨ret_bool HE.out.symm, hb0.out⟩
    · have HE := Lib.hid (sameB_h (gw := gw) (gw2 := gw2) (xs := xs) (ys := ys) h2)
      have q1 : (gw != gw2) = false := by simp [h1]
      have q2 : (gh != gh2) = true := by simp [h2]
      clear h1 h2
      go_enter Try.func42, Try.ntmps42
      go_wp2_with fail
      go_ret
      exact ⟨ret_bool HE.out.symm, hb0.out⟩
  · have HE := Lib.hid (sameB_w (gh := gh) (gh2 := gh2) (xs := xs) (ys := ys) h1)
    have q1 : (gw != gw2) = true := by simp [h1]
    clear h1
    go_enter Try.func42, Try.ntmps42
    go_wp2_with fail
    go_ret
    exact ⟨ret_bool HE.out.symm, hb0.out⟩

theorem impl_SameGrid_own (gw gh gw2 gh2 : Int) {A A' : Option Addr} {n c m c' : Nat} {xs ys : List CellD} {W : World} {B B' : Nat} (h1 : OwnC W B A n c xs) (h2 : OwnC W B' A' m c' ys) (hn : n ≤ 1048576) (hm : m ≤ 1048576) :
    Calls Try.prog 20 #[.agg #[.int .i64 gw, .int .i64 gh, .slice A n c], .agg #[.int .i64 gw2, .int .i64 gh2, .slice A' m c']] W fun e w' => e = .returned (.bool (sameB gw gh gw2 gh2 xs ys)) ∧ Below W.heap.size W w' :=
  impl_SameGrid_any gw gh gw2 gh2 A A' n c m c' xs ys W h1.rd h2.rd h1.len h2.len (by omega) (by omega)
theorem spec_SameGrid_own (gw gh gw2 gh2 : Int) {A A' : Option Addr} {n c m c' : Nat} {xs ys : List CellD} {W : World} {B B' : Nat} (h1 : OwnC W B A n c xs) (h2 : OwnC W B' A' m c' ys) (hn : n ≤ 1048576) (hm : m ≤ 1048576) :
    Calls Try.prog 42 #[.agg #[.int .i64 gw, .int .i64 gh, .slice A n c], .agg #[.int .i64 gw2, .int .i64 gh2, .slice A' m c']] W fun e w' => e = .returned (.bool (sameB gw gh gw2 gh2 xs ys)) ∧ Below W.heap.size W w' :=
  spec_SameGrid_any gw gh gw2 gh2 A A' n c m c' xs ys W h1.rd h2.rd h1.len h2.len (by omega) (by omega)
end Go.Proofs.Ytknopmbjbokpaaa.Gr
