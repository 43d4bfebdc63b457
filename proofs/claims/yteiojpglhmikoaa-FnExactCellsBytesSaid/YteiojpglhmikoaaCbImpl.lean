/- Runs of cells as bytes, in the program: the first run's size, a run appended, CellsBytes; at every list of cells. -/
import Derived.Test.YteiojpglhmikoaaCbPlain
import Derived.Test.YteiojpglhmikoaaAppB
import Derived.Test.YteiojpglhmikoaaGrOk
import Derived.Deep.QuietTactic
import Derived.BigQuiet
import Derived.IntWalk
import Derived.Deep.RegionHeld3
namespace Go.Proofs.Yteiojpglhmikoaa.Cb
open Go.RowKit Go.Proofs.Yteiojpglhmikoaa.Bytes Go.Proofs.Yteiojpglhmikoaa.Rows_ Go.Proofs.Yteiojpglhmikoaa.RowK Go.Proofs.Yteiojpglhmikoaa.Var Go.Proofs.Yteiojpglhmikoaa.Gr Go.Proofs.Yteiojpglhmikoaa.Attr
set_option linter.unusedVariables false
set_option maxRecDepth 100000 in
set_option maxHeartbeats 3200000 in
theorem firstRun_any (A : Option Addr) (n c : Nat) (x : CellD) (rest : List CellD) (w : World) (hr : RdC w w.heap.size A (x :: rest)) (hl : (x :: rest).length = n) (hn : n ≤ 1099511627776) :
    Calls Try.prog 62 #[.slice A n c] w fun e w' => e = .returned (.int .i64 ((runC x (x :: rest) : Nat) : Int)) ∧ Below w.heap.size w w' := by
  obtain ⟨cs, hcs⟩ : ∃ cs, cs = x :: rest := ⟨_, rfl⟩
  have hn0 : 0 < n := by rw [← hl]; simp
  rw [← hcs] at hr hl ⊢
  have h0l : 0 < cs.length := by omega
  have HX := Lib.hid (show cs[0] = x by simp [hcs])
  obtain ⟨R, hR⟩ : ∃ R, R = runC x cs := ⟨_, rfl⟩
  have hRn : R ≤ n := by rw [hR, ← hl]; exact runC_le x cs
  have HAT := Lib.hid (fun (i : Nat) (h : i < cs.length) (hi : i < R) => runC_at x cs i h (by rw [← hR]; exact hi))
  have HEND := Lib.hid (fun (h : R < cs.length) => show beqC cs[R] x = false from by have := runC_end x cs (by rw [← hR]; exact h); simpa only [← hR] using this)
  rw [← hR]
  have HR := Lib.hid hr
  have HL := Lib.hid hl
  clear hr hl hcs hR
  go_enter Try.func62, Try.ntmps62
  go_wp2_with fail
  go_loopw [7] (fun i wr => ∃ k : Nat, k ≤ R ∧ i = .int .i64 k ∧ Below w.heap.size w wr) (fun i _ => R + 1 - (intOf i).toNat)
  case atStart => exact ⟨0, Nat.zero_le _, rfl, Below.refl _ _⟩
  case round =>
    obtain ⟨k, hk, rfl, hb⟩ := hrel
    have HB := Lib.hid hb
    have hz := hb.size
    by_cases hlt : k < n
    · have hlf : k < cs.length := by rw [HL.out]; exact hlt
      obtain ⟨b, o, rfl, hBB, p0', p1', p2', p3', p4', p5'⟩ := HR.out.at_ hlf
      obtain ⟨b', o', e, hB', q0', q1', q2', q3', q4', q5'⟩ := HR.out.at_ h0l
      injection e with e; injection e with e1 e2; subst e1 e2
      have hcc := (Rows_.bcell hb).1
      have p0 := (hcc _ _ hBB).trans p0'; have p1 := (hcc _ _ hBB).trans p1'; have p2 := (hcc _ _ hBB).trans p2'; have p3 := (hcc _ _ hBB).trans p3'; have p4 := (hcc _ _ hBB).trans p4'; have p5 := (hcc _ _ hBB).trans p5'
      have q0 := (hcc _ _ hBB).trans q0'; have q1 := (hcc _ _ hBB).trans q1'; have q2 := (hcc _ _ hBB).trans q2'; have q3 := (hcc _ _ hBB).trans q3'; have q4 := (hcc _ _ hBB).trans q4'; have q5 := (hcc _ _ hBB).trans q5'
      clear p0' p1' p2' p3' p4' p5' q0' q1' q2' q3' q4' q5' hcc
      rw [HX.out] at q0 q1 q2 q3 q4 q5
      simp only [Nat.zero_mul, Nat.add_zero] at q0 q1 q2 q3 q4 q5
      have hbw : b < wr.heap.size := by omega
      have HBE := Lib.hid (show beqC cs[k] x = decide (cs[k].r = x.r ∧ cs[k].fg = x.fg ∧ cs[k].bg = x.bg ∧ cs[k].b = x.b ∧ cs[k].u = x.u ∧ cs[k].t = x.t) from rfl)
      have HA0 := Lib.hid (Below.alloc HB.out hz (.cells #[.int .i64 cs[k].r, .int .i64 cs[k].fg, .int .i64 cs[k].bg, .bool cs[k].b, .bool cs[k].u, .bool cs[k].t] 86))
      have HK := Lib.hid (show (k < R → beqC cs[k] x = true) ∧ (k = R → beqC cs[k] x = false) from ⟨fun h => (beqC_iff _ _).2 (HAT.out k hlf h), fun h => by subst h; exact HEND.out hlf⟩)
      generalize beqC cs[k] x = be at *
      generalize cs[k].r = x0 at *
      generalize cs[k].fg = x1 at *
      generalize cs[k].bg = x2 at *
      generalize cs[k].b = x3 at *
      generalize cs[k].u = x4 at *
      generalize cs[k].t = x5 at *
      generalize x.r = y0 at *
      generalize x.fg = y1 at *
      generalize x.bg = y2 at *
      generalize x.b = y3 at *
      generalize x.u = y4 at *
      generalize x.t = y5 at *
      clear HX HAT HEND hlf h0l HL
      have hgd : ∀ (p q : Operand) (v : World), (eqGuard .neq 86 p q (.agg #[.int .i64 x0, .int .i64 x1, .int .i64 x2, .bool x3, .bool x4, .bool x5]) (.agg #[.int .i64 y0, .int .i64 y1, .int .i64 y2, .bool y3, .bool y4, .bool y5])).run Try.prog v = .ok () v := fun p q v => guardC p q _ _ v
      have hnq : ∀ (v : World), (binOp .neq 86 (.agg #[.int .i64 x0, .int .i64 x1, .int .i64 x2, .bool x3, .bool x4, .bool x5]) (.agg #[.int .i64 y0, .int .i64 y1, .int .i64 y2, .bool y3, .bool y4, .bool y5])).run Try.prog v = .ok (.bool (!be)) v := fun v => by rw [HBE.out]; exact neqC _ _ _ _ _ _ _ _ _ _ _ _ v
      clear HBE
      by_cases hkR : k < R
      · obtain rfl := HK.out.1 hkR
        clear HK
        go_wp2_with fail
        go_quiet (fail)
        go_wp2_with fail
        exact ⟨⟨k + 1, by omega, by go_num, below_drewN HA0.out nq⟩, by simp [intOf]; omega⟩
      · obtain rfl : k = R := by omega
        obtain rfl := HK.out.2 rfl
        clear HK
        go_wp2_with fail
        go_quiet (fail)
        go_wp2_with fail
        go_ret
        exact ⟨rfl, below_drewN HA0.out nq⟩
    · obtain rfl : k = R := by omega
      obtain rfl : n = k := by omega
      go_wp2_with fail
      go_ret
      exact ⟨rfl, HB.out⟩
end Go.Proofs.Yteiojpglhmikoaa.Cb

