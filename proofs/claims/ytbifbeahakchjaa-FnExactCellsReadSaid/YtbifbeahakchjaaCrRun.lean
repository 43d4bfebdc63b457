/- A run read, and whether cells end with a cell, in the program; at every list of bytes and every offset. -/
import Derived.Test.YtbifbeahakchjaaCbRead
import Derived.Test.YtbifbeahakchjaaGetVar
import Derived.Test.YtbifbeahakchjaaNumA
import Derived.Test.YtbifbeahakchjaaGrTo
import Derived.Deep.QuietTactic
import Derived.BigQuiet
import Derived.IntWalk
namespace Go.Proofs.Ytbifbeahakchjaa.Cb
open Go.RowKit Go.Proofs.Ytbifbeahakchjaa.Bytes Go.Proofs.Ytbifbeahakchjaa.Rows_ Go.Proofs.Ytbifbeahakchjaa.RowK Go.Proofs.Ytbifbeahakchjaa.Var Go.Proofs.Ytbifbeahakchjaa.Gr Go.Proofs.Ytbifbeahakchjaa.Attr Go.Proofs.Ytbifbeahakchjaa.Rune
set_option linter.unusedVariables false
/-- whether a run stands at p that the encoding may write -/
def runOk (zs : List Int) (p : Int) : Bool := hOk zs p && (showB (cC zs p).r && !(cK zs p == 0))
def cellV6 (x : CellD) : Value := .agg #[.int .i64 x.r, .int .i64 x.fg, .int .i64 x.bg, .bool x.b, .bool x.u, .bool x.t]
def RunP (zs : List Int) (p : Int) (w : World) (e : Ending) (w' : World) : Prop := e = (if runOk zs p = true then .returned (.tuple #[cellV6 (cC zs p), .int .i64 (cK zs p), .int .i64 (cY zs p), .bool true]) else .returned (.tuple #[.agg #[.int .i64 0, .int .i64 0, .int .i64 0, .bool false, .bool false, .bool false], .int .i64 0, .int .i64 0, .bool false])) ∧ Below w.heap.size w w'
theorem runP_no {zs : List Int} {p : Int} {w w' : World} (h : runOk zs p = false) (hb : Below w.heap.size w w') : RunP zs p w (.returned (.tuple #[.agg #[.int .i64 0, .int .i64 0, .int .i64 0, .bool false, .bool false, .bool false], .int .i64 0, .int .i64 0, .bool false])) w' := ⟨by rw [if_neg (by rw [h]; decide)], hb⟩
theorem gv_any (A : Option Addr) (n c : Nat) (zs : List Int) (a : Int) (b : Bool) (K Q : Int) (w : World) (hr : Rd w w.heap.size A zs) (hg : Rng zs) (hl : zs.length = n) (hn : n ≤ 1099511627776) (hb : b = gvOk zs a) (hK : K = gvN zs a) (hQ : Q = gvE zs a) :
    Calls Try.prog 116 #[.slice A n c, .int .i64 a] w fun e w' => e = .returned (.tuple #[.int .i64 K, .int .i64 Q, .bool b]) ∧ w = w' := by
  subst hb hK hQ
  exact impl_GetVar_any A n c zs a w hr hg hl hn
set_option maxRecDepth 100000 in
set_option maxHeartbeats 3200000 in
theorem readRun_any (A : Option Addr) (n c : Nat) (zs : List Int) (a : Int) (w : World) (hr : Rd w w.heap.size A zs) (hg : Rng zs) (hl : zs.length = n) (hn : n ≤ 1099511627776) :
    Calls Try.prog 54 #[.slice A n c, .int .i64 a] w (RunP zs a w) := by
  have HRD := Lib.hid (fun V (h : Below w.heap.size w V) => show Rd V V.heap.size A zs from (hr.below (Nat.le_refl _) h).more h.size)
  have HL := Lib.hid hl
  have HG := Lib.hid hg
  obtain ⟨b1, hb1⟩ : ∃ b, b = gvOk zs a := ⟨_, rfl⟩
  obtain ⟨K, hK⟩ : ∃ b, b = gvN zs a := ⟨_, rfl⟩
  obtain ⟨Q, hQ⟩ : ∃ b, b = gvE zs a := ⟨_, rfl⟩
  obtain ⟨b2, hb2⟩ : ∃ b, b = gvOk zs Q := ⟨_, rfl⟩
  obtain ⟨R, hR⟩ : ∃ b, b = gvN zs Q := ⟨_, rfl⟩
  obtain ⟨X, hX⟩ : ∃ b, b = gvE zs Q := ⟨_, rfl⟩
  obtain ⟨b3, hb3⟩ : ∃ b, b = gvOk zs X := ⟨_, rfl⟩
  obtain ⟨N, hN⟩ : ∃ b, b = gvN zs X := ⟨_, rfl⟩
  obtain ⟨Y, hY⟩ : ∃ b, b = gvE zs X := ⟨_, rfl⟩
  have G1 := Lib.hid (fun V (h : Below w.heap.size w V) => gv_any A n c zs a b1 K Q V (HRD.out V h) HG.out HL.out hn hb1 hK hQ)
  have G2 := Lib.hid (fun V (h : Below w.heap.size w V) => gv_any A n c zs Q b2 R X V (HRD.out V h) HG.out HL.out hn hb2 hR hX)
  have G3 := Lib.hid (fun V (h : Below w.heap.size w V) => gv_any A n c zs X b3 N Y V (HRD.out V h) HG.out HL.out hn hb3 hN hY)
  have eQ : cQ zs a = Q := hQ.symm
  have eX : cX zs a = X := by unfold cX; rw [eQ, hX]
  have eY : cY zs a = Y := by unfold cY; rw [eX, hY]
  have eA : cA zs a = N := by unfold cA; rw [eX, hN]
  have eK : cK zs a = K := hK.symm
  have eC : cC zs a = atC R N := by unfold cC; rw [eQ, eA, hR]
  have hN0 : 0 ≤ N := by rw [hN]; unfold gvN; split <;> omega
  have hK0 : 0 ≤ K := by rw [hK]; unfold gvN; split <;> omega
  have HOKE := Lib.hid (show runOk zs a = ((b1 && (b2 && (b3 && decide (N < 648)))) && (showB R && !(K == 0))) by
    unfold runOk hOk; rw [eQ, eX, eA, eK, eC, ← hb1, ← hb2, ← hb3]; rfl)
  have HYES := Lib.hid (fun (h : runOk zs a = true) (v : World) (hb : Below w.heap.size w v) => show RunP zs a w (.returned (.tuple #[.agg #[.int .i64 R, .int .i64 (N / 8 % 9), .int .i64 (N / 72), .bool (N % 2 == 1), .bool (N / 2 % 2 == 1), .bool (N / 4 % 2 == 1)], .int .i64 K, .int .i64 Y, .bool true])) v from ⟨by rw [if_pos h, eC, eK, eY]; rfl, hb⟩)
  clear hr hl hg hb1 hK hQ hb2 hR hX hb3 hN hY eQ eX eY eA eK eC HRD HL HG
  cases b1
  · have HNO := Lib.hid (show runOk zs a = false by rw [HOKE.out]; simp)
    clear HOKE HYES
    go_enter Try.func54, Try.ntmps54
    go_wp2_with fail
    refine wp_loop_rounds 4 ?_
    rw [rounds_succ]
    go_wp2_with fail
    refine (G1.out _ (by repeat (first | exact Below.refl _ _ | refine Below.setCell ?_ (by simp <;> omega) _ | refine Below.alloc ?_ (by simp <;> omega) _))).mono ?_
    rintro e v ⟨rfl, rfl⟩
    go_wp2_with fail
    refine bodyPost_ret (v := .tuple #[.agg #[.int .i64 0, .int .i64 0, .int .i64 0, .bool false, .bool false, .bool false], .int .i64 0, .int .i64 0, .bool false]) (by simp [results, Try.results54, go_sem]) rfl (runP_no HNO.out ?_)
    exact (by repeat (first | exact Below.refl _ _ | refine Below.setCell ?_ (by simp <;> omega) _ | refine Below.alloc ?_ (by simp <;> omega) _))
  cases b2
  · have HNO := Lib.hid (show runOk zs a = false by rw [HOKE.out]; simp)
    clear HOKE HYES
    go_enter Try.func54, Try.ntmps54
    go_wp2_with fail
    refine wp_loop_rounds 4 ?_
    rw [rounds_succ]
    go_wp2_with fail
    refine (G1.out _ (by repeat (first | exact Below.refl _ _ | refine Below.setCell ?_ (by simp <;> omega) _ | refine Below.alloc ?_ (by simp <;> omega) _))).mono ?_
    rintro e v ⟨rfl, rfl⟩
    go_wp2_with fail
    rw [rounds_succ]
    go_wp2_with fail
    refine (G2.out _ (by repeat (first | exact Below.refl _ _ | refine Below.setCell ?_ (by simp <;> omega) _ | refine Below.alloc ?_ (by simp <;> omega) _))).mono ?_
    rintro e v ⟨rfl, rfl⟩
    go_wp2_with fail
    refine bodyPost_ret (v := .tuple #[.agg #[.int .i64 0, .int .i64 0, .int .i64 0, .bool false, .bool false, .bool false], .int .i64 0, .int .i64 0, .bool false]) (by simp [results, Try.results54, go_sem]) rfl (runP_no HNO.out ?_)
    exact (by repeat (first | exact Below.refl _ _ | refine Below.setCell ?_ (by simp <;> omega) _ | refine Below.alloc ?_ (by simp <;> omega) _))
  cases b3
  · have HNO := Lib.hid (show runOk zs a = false by rw [HOKE.out]; simp)
    clear HOKE HYES
    go_enter Try.func54, Try.ntmps54
    go_wp2_with fail
    refine wp_loop_rounds 4 ?_
    rw [rounds_succ]
    go_wp2_with fail
    refine (G1.out _ (by repeat (first | exact Below.refl _ _ | refine Below.setCell ?_ (by simp <;> omega) _ | refine Below.alloc ?_ (by simp <;> omega) _))).mono ?_
    rintro e v ⟨rfl, rfl⟩
    go_wp2_with fail
    rw [rounds_succ]
    go_wp2_with fail
    refine (G2.out _ (by repeat (first | exact Below.refl _ _ | refine Below.setCell ?_ (by simp <;> omega) _ | refine Below.alloc ?_ (by simp <;> omega) _))).mono ?_
    rintro e v ⟨rfl, rfl⟩
    go_wp2_with fail
    rw [rounds_succ]
    go_wp2_with fail
    refine (G3.out _ (by repeat (first | exact Below.refl _ _ | refine Below.setCell ?_ (by simp <;> omega) _ | refine Below.alloc ?_ (by simp <;> omega) _))).mono ?_
    rintro e v ⟨rfl, rfl⟩
    go_wp2_with fail
    refine bodyPost_ret (v := .tuple #[.agg #[.int .i64 0, .int .i64 0, .int .i64 0, .bool false, .bool false, .bool false], .int .i64 0, .int .i64 0, .bool false]) (by simp [results, Try.results54, go_sem]) rfl (runP_no HNO.out ?_)
    exact (by repeat (first | exact Below.refl _ _ | refine Below.setCell ?_ (by simp <;> omega) _ | refine Below.alloc ?_ (by simp <;> omega) _))
  by_cases h6 : N < 648
  · obtain ⟨q, hq⟩ : ∃ q, q = showB R := ⟨_, rfl⟩
    have HSH := Lib.hid (fun V => show Calls Try.prog 118 #[.int .i64 R] V (fun e w' => e = .returned (.bool q) ∧ V = w') from hq ▸ Rune.impl_Shows_any R V)
    rw [← hq, decide_eq_true h6] at HOKE
    clear hq
    cases q
    · have HNO := Lib.hid (show runOk zs a = false by rw [HOKE.out]; simp)
      clear HOKE HYES
      go_enter Try.func54, Try.ntmps54
      go_wp2_with fail
      refine wp_loop_rounds 4 ?_
      rw [rounds_succ]
      go_wp2_with fail
      refine (G1.out _ (by repeat (first | exact Below.refl _ _ | refine Below.setCell ?_ (by simp <;> omega) _ | refine Below.alloc ?_ (by simp <;> omega) _))).mono ?_
      rintro e v ⟨rfl, rfl⟩
      go_wp2_with fail
      rw [rounds_succ]
      go_wp2_with fail
      refine (G2.out _ (by repeat (first | exact Below.refl _ _ | refine Below.setCell ?_ (by simp <;> omega) _ | refine Below.alloc ?_ (by simp <;> omega) _))).mono ?_
      rintro e v ⟨rfl, rfl⟩
      go_wp2_with fail
      rw [rounds_succ]
      go_wp2_with fail
      refine (G3.out _ (by repeat (first | exact Below.refl _ _ | refine Below.setCell ?_ (by simp <;> omega) _ | refine Below.alloc ?_ (by simp <;> omega) _))).mono ?_
      rintro e v ⟨rfl, rfl⟩
      go_wp2_with fail
      rw [rounds_succ]
      go_wp2_with fail
      go_quiet (fail)
      go_wp2_with fail
      obtain ⟨W, hW⟩ : ∃ W, W = ((w.alloc (.cells #[.int .i64 0, .int .i64 0, .int .i64 0, .bool false, .bool false, .bool false] 69)).alloc (.cells #[.int .i64 K, .int .i64 R, .int .i64 N] 132)).drewN nq := ⟨_, rfl⟩
      have HBW := Lib.hid (show Below w.heap.size w W from by rw [hW]; exact below_drewN (((Below.refl w.heap.size w).alloc (Nat.le_refl _) _).alloc (by simp) _) nq)
      have HRW := Lib.hid (show Opq.RowB W w.heap.size #[.int .i64 0, .int .i64 0, .int .i64 0, .bool false, .bool false, .bool false] from by
        rw [hW]
        exact (Opq.RowB.new w #[.int .i64 0, .int .i64 0, .int .i64 0, .bool false, .bool false, .bool false] 69).alloc _)
      rw [← hW]
      clear hW
      refine (impl_NumAttr_yes N _ hN0 h6 (N / 8 % 9) (N / 72) (N % 2 == 1) (N / 2 % 2 == 1) (N / 4 % 2 == 1) rfl).mono ?_
      rintro e v ⟨rfl, hb⟩
      obtain ⟨HBV, HRV⟩ : Hid (Below w.heap.size w v) ∧ Hid (Opq.RowB v w.heap.size #[.int .i64 0, .int .i64 0, .int .i64 0, .bool false, .bool false, .bool false]) := ⟨Lib.hid (HBW.out.trans (hb.mono HBW.out.size)), Lib.hid (HRW.out.below hb HRW.out.lt)⟩
      clear hb HBW HRW
      have c0 : v.cell? ⟨w.heap.size, 0, none⟩ = some (.int .i64 0) := HRV.out.cell 0
      have c1 : v.cell? ⟨w.heap.size, 1, none⟩ = some (.int .i64 0) := HRV.out.cell 1
      have c2 : v.cell? ⟨w.heap.size, 2, none⟩ = some (.int .i64 0) := HRV.out.cell 2
      have c3 : v.cell? ⟨w.heap.size, 3, none⟩ = some (.bool false) := HRV.out.cell 3
      have c4 : v.cell? ⟨w.heap.size, 4, none⟩ = some (.bool false) := HRV.out.cell 4
      have c5 : v.cell? ⟨w.heap.size, 5, none⟩ = some (.bool false) := HRV.out.cell 5
      have f0 := HRV.out.free 0
      have f1 := HRV.out.free 1
      have f2 := HRV.out.free 2
      have f3 := HRV.out.free 3
      have f4 := HRV.out.free 4
      have f5 := HRV.out.free 5
      have hvl : w.heap.size < v.heap.size := HRV.out.lt
      obtain ⟨a1, ha1⟩ : ∃ a1, a1 = N / 8 % 9 := ⟨_, rfl⟩
      obtain ⟨a2, ha2⟩ : ∃ a2, a2 = N / 72 := ⟨_, rfl⟩
      obtain ⟨a3, ha3⟩ : ∃ a3, a3 = (N % 2 == 1) := ⟨_, rfl⟩
      obtain ⟨a4, ha4⟩ : ∃ a4, a4 = (N / 2 % 2 == 1) := ⟨_, rfl⟩
      obtain ⟨a5, ha5⟩ : ∃ a5, a5 = (N / 4 % 2 == 1) := ⟨_, rfl⟩
      rw [← ha1, ← ha2, ← ha3, ← ha4, ← ha5]
      clear ha1 ha2 ha3 ha4 ha5
      go_wp2_with fail
      refine (HSH.out _).mono ?_
      rintro e v' ⟨rfl, rfl⟩
      go_wp2_with fail
      refine bodyPost_ret (v := .tuple #[.agg #[.int .i64 0, .int .i64 0, .int .i64 0, .bool false, .bool false, .bool false], .int .i64 0, .int .i64 0, .bool false]) (by simp [results, Try.results54, go_sem, c0, c1, c2, c3, c4, c5, hvl]) rfl (runP_no HNO.out ?_)
      exact (by repeat (first | (with_reducible exact HBV.out) | (with_reducible refine Below.setCell ?_ (by simp <;> omega) _) | (with_reducible refine Below.alloc ?_ (by first | omega | (simp <;> omega)) _)))
    · by_cases hk0 : K = 0
      · subst hk0
        have HNO := Lib.hid (show runOk zs a = false by rw [HOKE.out]; simp)
        clear HOKE HYES
        go_enter Try.func54, Try.ntmps54
        go_wp2_with fail
        refine wp_loop_rounds 4 ?_
        rw [rounds_succ]
        go_wp2_with fail
        refine (G1.out _ (by repeat (first | exact Below.refl _ _ | refine Below.setCell ?_ (by simp <;> omega) _ | refine Below.alloc ?_ (by simp <;> omega) _))).mono ?_
        rintro e v ⟨rfl, rfl⟩
        go_wp2_with fail
        rw [rounds_succ]
        go_wp2_with fail
        refine (G2.out _ (by repeat (first | exact Below.refl _ _ | refine Below.setCell ?_ (by simp <;> omega) _ | refine Below.alloc ?_ (by simp <;> omega) _))).mono ?_
        rintro e v ⟨rfl, rfl⟩
        go_wp2_with fail
        rw [rounds_succ]
        go_wp2_with fail
        refine (G3.out _ (by repeat (first | exact Below.refl _ _ | refine Below.setCell ?_ (by simp <;> omega) _ | refine Below.alloc ?_ (by simp <;> omega) _))).mono ?_
        rintro e v ⟨rfl, rfl⟩
        go_wp2_with fail
        rw [rounds_succ]
        go_wp2_with fail
        go_quiet (fail)
        go_wp2_with fail
        obtain ⟨W, hW⟩ : ∃ W, W = ((w.alloc (.cells #[.int .i64 0, .int .i64 0, .int .i64 0, .bool false, .bool false, .bool false] 69)).alloc (.cells #[.int .i64 0, .int .i64 R, .int .i64 N] 132)).drewN nq := ⟨_, rfl⟩
        have HBW := Lib.hid (show Below w.heap.size w W from by rw [hW]; exact below_drewN (((Below.refl w.heap.size w).alloc (Nat.le_refl _) _).alloc (by simp) _) nq)
        have HRW := Lib.hid (show Opq.RowB W w.heap.size #[.int .i64 0, .int .i64 0, .int .i64 0, .bool false, .bool false, .bool false] from by
          rw [hW]
          exact (Opq.RowB.new w #[.int .i64 0, .int .i64 0, .int .i64 0, .bool false, .bool false, .bool false] 69).alloc _)
        rw [← hW]
        clear hW
        refine (impl_NumAttr_yes N _ hN0 h6 (N / 8 % 9) (N / 72) (N % 2 == 1) (N / 2 % 2 == 1) (N / 4 % 2 == 1) rfl).mono ?_
        rintro e v ⟨rfl, hb⟩
        obtain ⟨HBV, HRV⟩ : Hid (Below w.heap.size w v) ∧ Hid (Opq.RowB v w.heap.size #[.int .i64 0, .int .i64 0, .int .i64 0, .bool false, .bool false, .bool false]) := ⟨Lib.hid (HBW.out.trans (hb.mono HBW.out.size)), Lib.hid (HRW.out.below hb HRW.out.lt)⟩
        clear hb HBW HRW
        have c0 : v.cell? ⟨w.heap.size, 0, none⟩ = some (.int .i64 0) := HRV.out.cell 0
        have c1 : v.cell? ⟨w.heap.size, 1, none⟩ = some (.int .i64 0) := HRV.out.cell 1
        have c2 : v.cell? ⟨w.heap.size, 2, none⟩ = some (.int .i64 0) := HRV.out.cell 2
        have c3 : v.cell? ⟨w.heap.size, 3, none⟩ = some (.bool false) := HRV.out.cell 3
        have c4 : v.cell? ⟨w.heap.size, 4, none⟩ = some (.bool false) := HRV.out.cell 4
        have c5 : v.cell? ⟨w.heap.size, 5, none⟩ = some (.bool false) := HRV.out.cell 5
        have f0 := HRV.out.free 0
        have f1 := HRV.out.free 1
        have f2 := HRV.out.free 2
        have f3 := HRV.out.free 3
        have f4 := HRV.out.free 4
        have f5 := HRV.out.free 5
        have hvl : w.heap.size < v.heap.size := HRV.out.lt
        obtain ⟨a1, ha1⟩ : ∃ a1, a1 = N / 8 % 9 := ⟨_, rfl⟩
        obtain ⟨a2, ha2⟩ : ∃ a2, a2 = N / 72 := ⟨_, rfl⟩
        obtain ⟨a3, ha3⟩ : ∃ a3, a3 = (N % 2 == 1) := ⟨_, rfl⟩
        obtain ⟨a4, ha4⟩ : ∃ a4, a4 = (N / 2 % 2 == 1) := ⟨_, rfl⟩
        obtain ⟨a5, ha5⟩ : ∃ a5, a5 = (N / 4 % 2 == 1) := ⟨_, rfl⟩
        rw [← ha1, ← ha2, ← ha3, ← ha4, ← ha5]
        clear ha1 ha2 ha3 ha4 ha5
        go_wp2_with fail
        refine (HSH.out _).mono ?_
        rintro e v' ⟨rfl, rfl⟩
        go_wp2_with fail
        refine bodyPost_ret (v := .tuple #[.agg #[.int .i64 0, .int .i64 0, .int .i64 0, .bool false, .bool false, .bool false], .int .i64 0, .int .i64 0, .bool false]) (by simp [results, Try.results54, go_sem, c0, c1, c2, c3, c4, c5, hvl]) rfl (runP_no HNO.out ?_)
        exact (by repeat (first | (with_reducible exact HBV.out) | (with_reducible refine Below.setCell ?_ (by simp <;> omega) _) | (with_reducible refine Below.alloc ?_ (by first | omega | (simp <;> omega)) _)))
      · have HY2 := Lib.hid (show runOk zs a = true by rw [HOKE.out]; simp [hk0])
        have hkf : (K == 0) = false := by simp [hk0]
        clear HOKE
        go_enter Try.func54, Try.ntmps54
        go_wp2_with fail
        refine wp_loop_rounds 4 ?_
        rw [rounds_succ]
        go_wp2_with fail
        refine (G1.out _ (by repeat (first | exact Below.refl _ _ | refine Below.setCell ?_ (by simp <;> omega) _ | refine Below.alloc ?_ (by simp <;> omega) _))).mono ?_
        rintro e v ⟨rfl, rfl⟩
        go_wp2_with fail
        rw [rounds_succ]
        go_wp2_with fail
        refine (G2.out _ (by repeat (first | exact Below.refl _ _ | refine Below.setCell ?_ (by simp <;> omega) _ | refine Below.alloc ?_ (by simp <;> omega) _))).mono ?_
        rintro e v ⟨rfl, rfl⟩
        go_wp2_with fail
        rw [rounds_succ]
        go_wp2_with fail
        refine (G3.out _ (by repeat (first | exact Below.refl _ _ | refine Below.setCell ?_ (by simp <;> omega) _ | refine Below.alloc ?_ (by simp <;> omega) _))).mono ?_
        rintro e v ⟨rfl, rfl⟩
        go_wp2_with fail
        rw [rounds_succ]
        go_wp2_with fail
        go_quiet (fail)
        go_wp2_with fail
        obtain ⟨W, hW⟩ : ∃ W, W = ((w.alloc (.cells #[.int .i64 0, .int .i64 0, .int .i64 0, .bool false, .bool false, .bool false] 69)).alloc (.cells #[.int .i64 K, .int .i64 R, .int .i64 N] 132)).drewN nq := ⟨_, rfl⟩
        have HBW := Lib.hid (show Below w.heap.size w W from by rw [hW]; exact below_drewN (((Below.refl w.heap.size w).alloc (Nat.le_refl _) _).alloc (by simp) _) nq)
        have HRW := Lib.hid (show Opq.RowB W w.heap.size #[.int .i64 0, .int .i64 0, .int .i64 0, .bool false, .bool false, .bool false] from by
          rw [hW]
          exact (Opq.RowB.new w #[.int .i64 0, .int .i64 0, .int .i64 0, .bool false, .bool false, .bool false] 69).alloc _)
        rw [← hW]
        clear hW
        refine (impl_NumAttr_yes N _ hN0 h6 (N / 8 % 9) (N / 72) (N % 2 == 1) (N / 2 % 2 == 1) (N / 4 % 2 == 1) rfl).mono ?_
        rintro e v ⟨rfl, hb⟩
        obtain ⟨HBV, HRV⟩ : Hid (Below w.heap.size w v) ∧ Hid (Opq.RowB v w.heap.size #[.int .i64 0, .int .i64 0, .int .i64 0, .bool false, .bool false, .bool false]) := ⟨Lib.hid (HBW.out.trans (hb.mono HBW.out.size)), Lib.hid (HRW.out.below hb HRW.out.lt)⟩
        clear hb HBW HRW
        have c0 : v.cell? ⟨w.heap.size, 0, none⟩ = some (.int .i64 0) := HRV.out.cell 0
        have c1 : v.cell? ⟨w.heap.size, 1, none⟩ = some (.int .i64 0) := HRV.out.cell 1
        have c2 : v.cell? ⟨w.heap.size, 2, none⟩ = some (.int .i64 0) := HRV.out.cell 2
        have c3 : v.cell? ⟨w.heap.size, 3, none⟩ = some (.bool false) := HRV.out.cell 3
        have c4 : v.cell? ⟨w.heap.size, 4, none⟩ = some (.bool false) := HRV.out.cell 4
        have c5 : v.cell? ⟨w.heap.size, 5, none⟩ = some (.bool false) := HRV.out.cell 5
        have f0 := HRV.out.free 0
        have f1 := HRV.out.free 1
        have f2 := HRV.out.free 2
        have f3 := HRV.out.free 3
        have f4 := HRV.out.free 4
        have f5 := HRV.out.free 5
        have hvl : w.heap.size < v.heap.size := HRV.out.lt
        obtain ⟨a1, ha1⟩ : ∃ a1, a1 = N / 8 % 9 := ⟨_, rfl⟩
        obtain ⟨a2, ha2⟩ : ∃ a2, a2 = N / 72 := ⟨_, rfl⟩
        obtain ⟨a3, ha3⟩ : ∃ a3, a3 = (N % 2 == 1) := ⟨_, rfl⟩
        obtain ⟨a4, ha4⟩ : ∃ a4, a4 = (N / 2 % 2 == 1) := ⟨_, rfl⟩
        obtain ⟨a5, ha5⟩ : ∃ a5, a5 = (N / 4 % 2 == 1) := ⟨_, rfl⟩
        rw [← ha1, ← ha2, ← ha3, ← ha4, ← ha5]
        try rw [← ha1, ← ha2, ← ha3, ← ha4, ← ha5] at HYES
        clear ha1 ha2 ha3 ha4 ha5
        go_wp2_with fail
        refine (HSH.out _).mono ?_
        rintro e v' ⟨rfl, rfl⟩
        go_wp2_with fail
        refine bodyPost_ret (v := .tuple #[.agg #[.int .i64 R, .int .i64 (a1), .int .i64 (a2), .bool a3, .bool a4, .bool a5], .int .i64 K, .int .i64 Y, .bool true]) (by simp [results, Try.results54, go_sem, c0, c1, c2, c3, c4, c5, hvl]) rfl (HYES.out HY2.out _ ?_)
        exact (by repeat (first | (with_reducible exact HBV.out) | (with_reducible refine Below.setCell ?_ (by simp <;> omega) _) | (with_reducible refine Below.alloc ?_ (by first | omega | (simp <;> omega)) _)))
  · have HNO := Lib.hid (show runOk zs a = false by rw [HOKE.out, decide_eq_false h6]; simp)
    clear HOKE HYES
    go_enter Try.func54, Try.ntmps54
    go_wp2_with fail
    refine wp_loop_rounds 4 ?_
    rw [rounds_succ]
    go_wp2_with fail
    refine (G1.out _ (by repeat (first | exact Below.refl _ _ | refine Below.setCell ?_ (by simp <;> omega) _ | refine Below.alloc ?_ (by simp <;> omega) _))).mono ?_
    rintro e v ⟨rfl, rfl⟩
    go_wp2_with fail
    rw [rounds_succ]
    go_wp2_with fail
    refine (G2.out _ (by repeat (first | exact Below.refl _ _ | refine Below.setCell ?_ (by simp <;> omega) _ | refine Below.alloc ?_ (by simp <;> omega) _))).mono ?_
    rintro e v ⟨rfl, rfl⟩
    go_wp2_with fail
    rw [rounds_succ]
    go_wp2_with fail
    refine (G3.out _ (by repeat (first | exact Below.refl _ _ | refine Below.setCell ?_ (by simp <;> omega) _ | refine Below.alloc ?_ (by simp <;> omega) _))).mono ?_
    rintro e v ⟨rfl, rfl⟩
    go_wp2_with fail
    rw [rounds_succ]
    go_wp2_with fail
    go_quiet (fail)
    go_wp2_with fail
    obtain ⟨W, hW⟩ : ∃ W, W = ((w.alloc (.cells #[.int .i64 0, .int .i64 0, .int .i64 0, .bool false, .bool false, .bool false] 69)).alloc (.cells #[.int .i64 K, .int .i64 R, .int .i64 N] 132)).drewN nq := ⟨_, rfl⟩
    have HBW := Lib.hid (show Below w.heap.size w W from by rw [hW]; exact below_drewN (((Below.refl w.heap.size w).alloc (Nat.le_refl _) _).alloc (by simp) _) nq)
    have HRW := Lib.hid (show Opq.RowB W w.heap.size #[.int .i64 0, .int .i64 0, .int .i64 0, .bool false, .bool false, .bool false] from by
      rw [hW]
      exact (Opq.RowB.new w #[.int .i64 0, .int .i64 0, .int .i64 0, .bool false, .bool false, .bool false] 69).alloc _)
    rw [← hW]
    clear hW
    refine (impl_NumAttr_no _ _ (by omega)).mono ?_
    rintro e v ⟨rfl, hb⟩
    obtain ⟨HBV, HRV⟩ : Hid (Below w.heap.size w v) ∧ Hid (Opq.RowB v w.heap.size #[.int .i64 0, .int .i64 0, .int .i64 0, .bool false, .bool false, .bool false]) := ⟨Lib.hid (HBW.out.trans (hb.mono HBW.out.size)), Lib.hid (HRW.out.below hb HRW.out.lt)⟩
    clear hb HBW HRW
    have c0 : v.cell? ⟨w.heap.size, 0, none⟩ = some (.int .i64 0) := HRV.out.cell 0
    have c1 : v.cell? ⟨w.heap.size, 1, none⟩ = some (.int .i64 0) := HRV.out.cell 1
    have c2 : v.cell? ⟨w.heap.size, 2, none⟩ = some (.int .i64 0) := HRV.out.cell 2
    have c3 : v.cell? ⟨w.heap.size, 3, none⟩ = some (.bool false) := HRV.out.cell 3
    have c4 : v.cell? ⟨w.heap.size, 4, none⟩ = some (.bool false) := HRV.out.cell 4
    have c5 : v.cell? ⟨w.heap.size, 5, none⟩ = some (.bool false) := HRV.out.cell 5
    have f0 := HRV.out.free 0
    have f1 := HRV.out.free 1
    have f2 := HRV.out.free 2
    have f3 := HRV.out.free 3
    have f4 := HRV.out.free 4
    have f5 := HRV.out.free 5
    have hvl : w.heap.size < v.heap.size := HRV.out.lt
    go_wp2_with fail
    refine bodyPost_ret (v := .tuple #[.agg #[.int .i64 0, .int .i64 0, .int .i64 0, .bool false, .bool false, .bool false], .int .i64 0, .int .i64 0, .bool false]) (by simp [results, Try.results54, go_sem, c0, c1, c2, c3, c4, c5, hvl]) rfl (runP_no HNO.out ?_)
    exact (by repeat (first | (with_reducible exact HBV.out) | (with_reducible refine Below.setCell ?_ (by simp <;> omega) _) | (with_reducible refine Below.alloc ?_ (by first | omega | (simp <;> omega)) _)))
end Go.Proofs.Ytbifbeahakchjaa.Cb
