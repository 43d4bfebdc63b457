/- The first place of a leaf's node, in the program and in the model. -/
import Derived.Test.YtgejjdkgeoojmaaTrSr
import Derived.Laws.StructEq
import Derived.Deep.QuietTactic
import Derived.BigQuiet
namespace Go.Proofs.Ytgejjdkgeoojmaa.Tr
open Go.RowKit Go.Proofs.Ytgejjdkgeoojmaa.Bytes Go.Proofs.Ytgejjdkgeoojmaa.Rows_ Go.Proofs.Ytgejjdkgeoojmaa.RowK Go.Proofs.Ytgejjdkgeoojmaa.DOk Go.Proofs.Ytgejjdkgeoojmaa.Opq
open Tree
set_option linter.unusedVariables false
attribute [local go_sem ↓] Go.wp_at_zero Go.wp_at_succ
set_option maxRecDepth 100000 in
theorem guardN (x y : Operand) (xs ys : Array Value) (w : World) : (eqGuard .eql 90 x y (.agg xs) (.agg ys)).run Try.prog w = .ok () w := run_eqGuard_agg w .eql 90 x y xs ys (by kernel_rfl)
set_option maxRecDepth 100000 in
theorem eqlN (x0 x2 y0 y2 : Int) (x1 y1 : Bool) (w : World) :
    (binOp .eql 90 (.agg #[.int .i64 x0, .bool x1, .int .i64 x2]) (.agg #[.int .i64 y0, .bool y1, .int .i64 y2])).run Try.prog w = .ok (.bool (decide (x0 = y0 ∧ x1 = y1 ∧ x2 = y2))) w := by
  have u1 := Try.underlying90
  have u3 := Try.underlying3
  have u4 := Try.underlying4
  have s1 : Try.prog.stoodInHeld 90 = false := by kernel_rfl
  rw [run_eql_struct]
  rw [run_equalIn_struct w 9999 90 _ _ (by unfold Program.fieldsOf; rw [u1]) s1]
  have f1 : (Try.prog.fieldsOf 90) = (match Try.prog.underlying 90 with | some (.struct fs) => fs | _ => #[]) := rfl
  rw [u1] at f1
  simp only [f1]
  have hI : ∀ (d : Nat) (a b : Int) (w : World), (Op.equalIn (d + 1) 3 (.int .i64 a) (.int .i64 b)).run Try.prog w = .ok (a == b) w := fun d a b w => run_equalIn_int w d 3 .i64 .i64 a b u3
  have hB : ∀ (d : Nat) (a b : Bool) (w : World), (Op.equalIn (d + 1) 4 (.bool a) (.bool b)).run Try.prog w = .ok (a == b) w := fun d a b w => run_equalIn_bool' w d 4 a b u4
  have hI1 := hI 9998
  have hB1 := hB 9998
  have c0 : Try.prog.cellsOf 3 = 1 := by kernel_rfl
  have c1 : Try.prog.cellsOf 4 = 1 := by kernel_rfl
  simp [Op.eqFields, go_sem, hI1, hB1]
  by_cases h0 : x0 = y0 <;> by_cases h1 : x1 = y1 <;> by_cases h2 : x2 = y2 <;> simp [h0, h1, h2]
def nidx (t : List NodeD) (x : NodeD) : Option Nat := t.findIdx? (fun n => decide (x = n))
def nidxV (t : List NodeD) (x : NodeD) : Int := match nidx t x with | some i => (i : Int) | none => -1
def leafAtV (t : List NodeD) (p : Int) : Int := nidxV t ⟨p, false, 0⟩
set_option maxRecDepth 100000 in
set_option maxHeartbeats 1600000 in
theorem indexN_any (A : Option Addr) (n c B : Nat) (t : List NodeD) (p f : Int) (d : Bool) (w : World) (hr : RdN w B A t) (hl : t.length = n) (hn : n ≤ 9223372036854775807) (hB : B ≤ w.heap.size) :
    Calls Try.prog 105 #[.slice A n c, nodeV p d f] w fun e w' => e = .returned (.int .i64 (nidxV t ⟨p, d, f⟩)) ∧ Below w.heap.size w w' := by
  have HL := Lib.hid hl
  obtain ⟨W0, hW0⟩ : ∃ W0, W0 = w.alloc (.cells #[.int .i64 p, .bool d, .int .i64 f] 90) := ⟨_, rfl⟩
  have HBT := Lib.hid (show Below w.heap.size w W0 by rw [hW0]; exact (Below.refl _ _).alloc (Nat.le_refl _) _)
  have HX := Lib.hid (show RowB W0 w.heap.size #[.int .i64 p, .bool d, .int .i64 f] by rw [hW0]; exact RowB.new _ _ _)
  have HR := Lib.hid ((hr.below (Nat.le_refl _) (HBT.out.mono hB)).more (Nat.le_trans hB HBT.out.size))
  clear hr hl
  have hqg := guardN
  go_enter Try.func105, Try.ntmps105
  go_wp2_with fail
  rw [← hW0]
  clear hW0
  go_loopw [8] (fun i wr => ∃ k j : Nat, k ≤ n ∧ i = .int .i64 k ∧ wr = W0.drewN j ∧ Hid (∀ j (hj : j < t.length), j < k → decide ((⟨p, d, f⟩ : NodeD) = t[j]) = false)) (fun i _ => n - (intOf i).toNat)
  case atStart => exact ⟨0, 0, Nat.zero_le _, rfl, rfl, Lib.hid (fun j _ h => absurd h (by omega))⟩
  case round =>
    obtain ⟨k, j, hk, rfl, rfl, HA⟩ := hrel
    by_cases hlt : k < n
    · have hlt' : k < t.length := by rw [HL.out]; exact hlt
      obtain ⟨b, o, rfl, hlB, hc0, hc1, hc2⟩ := HR.out.at_ hlt'
      have x0 : W0.cell? ⟨w.heap.size, 0, none⟩ = some (.int .i64 p) := HX.out.cell 0
      have x1 : W0.cell? ⟨w.heap.size, 1, none⟩ = some (.bool d) := HX.out.cell 1
      have x2 : W0.cell? ⟨w.heap.size, 2, none⟩ = some (.int .i64 f) := HX.out.cell 2
      have HDE := Lib.hid (show decide ((⟨p, d, f⟩ : NodeD) = t[k]) = decide (p = t[k].pane ∧ d = t[k].down ∧ f = t[k].first) by cases t[k]; simp)
      have HHit := Lib.hid (fun (h : decide ((⟨p, d, f⟩ : NodeD) = t[k]) = true) => find_at (p := fun n => decide ((⟨p, d, f⟩ : NodeD) = n)) t k hlt' HA.out h)
      have HN := Lib.hid (fun (h0 : decide ((⟨p, d, f⟩ : NodeD) = t[k]) = false) j (hj : j < t.length) (h : j < k + 1) => (by
        rcases Nat.lt_or_ge j k with h1 | h1
        · exact HA.out j hj h1
        · have : j = k := by omega
          subst this; exact h0 : decide ((⟨p, d, f⟩ : NodeD) = t[j]) = false))
      have hk0 : (0 : Int) ≤ (k : Int) := by omega
      have hk1 : (k : Int) < (n : Int) := by omega
      have hkn : (k : Int).toNat = k := by simp
      rw [HDE.out] at HHit HN
      generalize t[k].pane = y0 at *
      generalize t[k].down = y1 at *
      generalize t[k].first = y2 at *
      cases hd : decide (p = y0 ∧ d = y1 ∧ f = y2)
      · have HD := Lib.hid hd
        have HNX := Lib.hid (HN.out hd)
        have hqe : ∀ W, (binOp .eql 90 (.agg #[.int .i64 p, .bool d, .int .i64 f]) (.agg #[.int .i64 y0, .bool y1, .int .i64 y2])).run Try.prog W = .ok (.bool false) W := fun W => by rw [eqlN, HD.out]
        clear hd
        go_wp2_with fail
        go_quiet (fail)
        go_wp2_with fail
        exact ⟨⟨k + 1, _, by omega, by go_num, rfl, Lib.hid HNX.out⟩, by simp [intOf]; omega⟩
      · have HD := Lib.hid hd
        have HV := Lib.hid (show nidxV t ⟨p, d, f⟩ = (k : Int) by unfold nidxV nidx; rw [HHit.out hd])
        have hqe : ∀ W, (binOp .eql 90 (.agg #[.int .i64 p, .bool d, .int .i64 f]) (.agg #[.int .i64 y0, .bool y1, .int .i64 y2])).run Try.prog W = .ok (.bool true) W := fun W => by rw [eqlN, HD.out]
        clear hd
        go_wp2_with fail
        go_quiet (fail)
        go_wp2_with fail
        go_ret
        exact ⟨ret_int HV.out.symm, below_drewN (below_drewN HBT.out _) _⟩
    · obtain rfl : n = k := by omega
      have HV := Lib.hid (show nidxV t ⟨p, d, f⟩ = -1 by unfold nidxV nidx; rw [find_none t (fun j hj => HA.out j hj (by have := HL.out; omega))])
      go_wp2_with fail
      go_ret
      exact ⟨ret_int HV.out.symm, below_drewN HBT.out _⟩
set_option maxRecDepth 100000 in
set_option maxHeartbeats 800000 in
theorem leafAt_any (A : Option Addr) (n c B : Nat) (t : List NodeD) (p : Int) (w : World) (hi : InN w B A n c t) :
    Calls Try.prog 87 #[.slice A n c, .int .i64 p] w fun e w' => e = .returned (.int .i64 (leafAtV t p)) ∧ Below w.heap.size w w' := by
  have HI := Lib.hid hi
  have hcm := hi.max
  have hnc := hi.cap
  unfold maxLen at hcm
  clear hi
  go_enter Try.func87, Try.ntmps87
  go_wp2_with fail
  refine (indexN_any A n c B t p 0 false _ HI.out.rd HI.out.len (by omega) HI.out.base).mono ?_
  rintro e v1 ⟨rfl, hb1⟩
  have HB1 := Lib.hid hb1
  clear hb1
  go_wp2_with fail
  go_ret
  exact ⟨rfl, HB1.out⟩
def atB (p : Int) (n : NodeD) : Bool := n.pane == p && decide (0 < p)
def atV (t : List NodeD) (p : Int) : Int := match t.findIdx? (atB p) with | some i => (i : Int) | none => -1
set_option maxRecDepth 100000 in
set_option maxHeartbeats 1600000 in
theorem l13At_any (A : Option Addr) (n c B : Nat) (t : List NodeD) (p : Int) (w : World) (hi : InN w B A n c t) :
    Calls Try.prog 84 #[.slice A n c, .int .i64 p] w fun e w' => e = .returned (.int .i64 (atV t p)) ∧ Below w.heap.size w w' := by
  have HI := Lib.hid hi
  have hcm := hi.max
  have hnc := hi.cap
  unfold maxLen at hcm
  clear hi
  go_enter Try.func84, Try.ntmps84
  go_wp2_with fail
  go_loopw [9] (fun i wr => ∃ k : Nat, k ≤ n ∧ i = .int .i64 k ∧ Below w.heap.size w wr ∧ Hid (∀ j (hj : j < t.length), j < k → atB p t[j] = false)) (fun i _ => n - (intOf i).toNat)
  case atStart => exact ⟨0, Nat.zero_le _, rfl, Below.refl _ _, Lib.hid (fun j _ h => absurd h (by omega))⟩
  case round =>
    obtain ⟨k, hk, rfl, hb, HA⟩ := hrel
    have hz : w.heap.size ≤ wr.heap.size := hb.size
    by_cases hlt : k < n
    · have hlt' : k < t.length := by rw [HI.out.len]; exact hlt
      obtain ⟨b, o, rfl, hlB, hc0, hc1, hc2⟩ := (HI.out.below hb).rd.at_ hlt'
      have hbw : b < wr.heap.size := by have := HI.out.base; omega
      have HB := Lib.hid hb
      have HHit := Lib.hid (fun (h : atB p t[k] = true) => find_at (p := atB p) t k hlt' HA.out h)
      have HN := Lib.hid (fun (h0 : atB p t[k] = false) j (hj : j < t.length) (h : j < k + 1) => (by
        rcases Nat.lt_or_ge j k with h1 | h1
        · exact HA.out j hj h1
        · have : j = k := by omega
          subst this; exact h0 : atB p t[j] = false))
      have HDE := Lib.hid (show atB p t[k] = (t[k].pane == p && decide (0 < p)) from rfl)
      rw [HDE.out] at HHit HN
      clear hb HDE
      generalize t[k].pane = y0 at *
      generalize t[k].down = y1 at *
      generalize t[k].first = y2 at *
      by_cases h1 : y0 = p
      · subst h1
        by_cases h2 : 0 < y0
        · have HV := Lib.hid (show atV t y0 = (k : Int) by unfold atV; rw [HHit.out (by simp [h2])])
          go_wp2_with fail
          go_ret
          exact ⟨ret_int HV.out.symm, HB.out.alloc hz _⟩
        · have HNX := Lib.hid (HN.out (by simp [h2]))
          go_wp2_with fail
          exact ⟨⟨k + 1, by omega, by go_num, HB.out.alloc hz _, Lib.hid HNX.out⟩, by simp [intOf]; omega⟩
      · have HNX := Lib.hid (HN.out (by simp [h1]))
        have hq : (y0 == p) = false := by simpa using h1
        go_wp2_with fail
        exact ⟨⟨k + 1, by omega, by go_num, HB.out.alloc hz _, Lib.hid HNX.out⟩, by simp [intOf]; omega⟩
    · obtain rfl : n = k := by omega
      have HV := Lib.hid (show atV t p = -1 by unfold atV; rw [find_none t (fun j hj => HA.out j hj (by have := HI.out.len; omega))])
      go_wp2_with fail
      go_ret
      exact ⟨ret_int HV.out.symm, hb⟩
theorem leaf_pane_iff {n : NodeD} (hb : nodeB n = true) (h0 : 0 < n.pane) : (⟨n.pane, false, 0⟩ : NodeD) = n := by
  have h := leaf_pane hb
  rw [decide_eq_true h0] at h
  exact (leafB_form h).1.symm
theorem findIdx_congr {α : Type} {p q : α → Bool} : ∀ (l : List α), (∀ x ∈ l, p x = q x) → l.findIdx? p = l.findIdx? q
  | [], _ => rfl
  | x :: r, h => by
    rw [List.findIdx?_cons, List.findIdx?_cons, h x (by simp), findIdx_congr r (fun y hy => h y (by simp [hy]))]
/-- in a tree both find the same place -/
theorem at_same {t : List NodeD} (h : okT t = true) (p : Int) : atV t p = leafAtV t p := by
  have hv := (okT_len h).2
  unfold atV leafAtV nidxV nidx
  have e : t.findIdx? (atB p) = t.findIdx? (fun n => decide ((⟨p, false, 0⟩ : NodeD) = n)) := by
    apply findIdx_congr
    intro n hn
    have hb := hv n hn
    unfold atB
    rw [Bool.eq_iff_iff]
    simp only [Bool.and_eq_true, beq_iff_eq, decide_eq_true_eq]
    constructor
    · rintro ⟨rfl, h0⟩
      rw [leaf_pane_iff hb h0]
    · rintro rfl
      refine ⟨rfl, ?_⟩
      have := leaf_pane hb
      simp only at this
      by_cases h0 : 0 < p
      · exact h0
      · exfalso
        unfold nodeB at hb
        simp [leafB, splitB] at hb
        omega
  rw [e]
end Go.Proofs.Ytgejjdkgeoojmaa.Tr

