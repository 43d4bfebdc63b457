/- CellsRead in the program: at every list of bytes, offset and number the cells that the runs there make, or nothing. -/
import Derived.Test.YtbifbeahakchjaaCrRun
import Derived.Test.YtbifbeahakchjaaAppC
import Derived.Test.YtbifbeahakchjaaCbRun
namespace Go.Proofs.Ytbifbeahakchjaa.Cb
open Go.RowKit Go.Proofs.Ytbifbeahakchjaa.Bytes Go.Proofs.Ytbifbeahakchjaa.Rows_ Go.Proofs.Ytbifbeahakchjaa.RowK Go.Proofs.Ytbifbeahakchjaa.Var Go.Proofs.Ytbifbeahakchjaa.Gr Go.Proofs.Ytbifbeahakchjaa.Attr Go.Proofs.Ytbifbeahakchjaa.Rune
set_option linter.unusedVariables false
def endB (cs : List CellD) (z : CellD) : Bool := !newC cs.getLast? z
theorem cK_nn (zs : List Int) (p : Int) : 0 ≤ cK zs p := by unfold cK gvN; split <;> omega
theorem rd_step {zs : List Int} {f n : Nat} {last : Option CellD} {p : Int} (h : runOk zs p = true) (hk : cK zs p ≤ (n : Int) + 1) (hn : newC last (cC zs p) = true) :
    rd zs (f + 1) last p (n + 1) = (rd zs f (some (cC zs p)) (cY zs p) (n + 1 - (cK zs p).toNat)).map fun q => (((cK zs p).toNat, cC zs p) :: q.1, q.2) := by
  unfold runOk at h
  rw [Bool.and_eq_true, Bool.and_eq_true] at h
  have h0 : cK zs p ≠ 0 := by have := h.2.2; simpa using this
  have h1 := cK_nn zs p
  rw [rd, if_pos ⟨by rw [h.1, decide_eq_true ⟨by omega, hk⟩]; rfl, by rw [h.2.1, hn]; rfl⟩]
theorem rd_stop {zs : List Int} {f n : Nat} {last : Option CellD} {p : Int} (h : runOk zs p = false ∨ (n : Int) + 1 < cK zs p ∨ newC last (cC zs p) = false) :
    rd zs (f + 1) last p (n + 1) = none := by
  rw [rd, if_neg]
  rintro ⟨h1, h2⟩
  rw [Bool.and_eq_true] at h1 h2
  have h3 := of_decide_eq_true h1.2
  rcases h with h | h | h
  · unfold runOk at h
    rw [h1.1, h2.1] at h
    have : cK zs p = 0 := by simpa using h
    omega
  · omega
  · rw [h] at h2; exact absurd h2.2 (by decide)
set_option maxRecDepth 100000 in
set_option maxHeartbeats 3200000 in
theorem endsWith_any (A : Option Addr) (n c : Nat) (cs : List CellD) (r fg bg : Int) (bb u t : Bool) (w : World) (hr : RdC w w.heap.size A cs) (hl : cs.length = n) (hn : n ≤ 1099511627776) :
    Calls Try.prog 55 #[.slice A n c, .agg #[.int .i64 r, .int .i64 fg, .int .i64 bg, .bool bb, .bool u, .bool t]] w fun e w' => e = .returned (.bool (endB cs ⟨r, fg, bg, bb, u, t⟩)) ∧ Below w.heap.size w w' := by
  have HB0 := Lib.hid ((Below.refl w.heap.size w).alloc (Nat.le_refl _) (.cells #[.int .i64 r, .int .i64 fg, .int .i64 bg, .bool bb, .bool u, .bool t] 69))
  by_cases h0 : n = 0
  · obtain rfl : cs = [] := List.eq_nil_of_length_eq_zero (by omega)
    have hd : decide (0 < n) = false := decide_eq_false (by omega)
    clear hr hl h0
    go_enter Try.func55, Try.ntmps55
    go_wp2_with fail
    go_quiet (fail)
    go_wp2_with fail
    go_ret
    exact ⟨rfl, below_drewN HB0.out nq⟩
  · obtain ⟨k, hk⟩ : ∃ k, n = k + 1 := ⟨n - 1, by omega⟩
    have hkl : k < cs.length := by omega
    obtain ⟨b, o, hA, hB, p0, p1, p2, p3, p4, p5⟩ := hr.at_ hkl
    subst hA
    have hgl : cs.getLast? = some cs[k] := by
      rw [List.getLast?_eq_getElem?, hl, hk, Nat.add_sub_cancel, List.getElem?_eq_getElem hkl]
    have HE := Lib.hid (show endB cs ⟨r, fg, bg, bb, u, t⟩ = beqC cs[k] ⟨r, fg, bg, bb, u, t⟩ by unfold endB; rw [hgl]; show (!(!beqC cs[k] _)) = _; rw [Bool.not_not])
    have HBE := Lib.hid (show beqC cs[k] ⟨r, fg, bg, bb, u, t⟩ = decide (cs[k].r = r ∧ cs[k].fg = fg ∧ cs[k].bg = bg ∧ cs[k].b = bb ∧ cs[k].u = u ∧ cs[k].t = t) from rfl)
    obtain ⟨be, hbe⟩ : ∃ be, be = beqC cs[k] ⟨r, fg, bg, bb, u, t⟩ := ⟨_, rfl⟩
    rw [← hbe] at HE HBE
    clear hbe hgl hr
    generalize cs[k].r = x0 at *
    generalize cs[k].fg = x1 at *
    generalize cs[k].bg = x2 at *
    generalize cs[k].b = x3 at *
    generalize cs[k].u = x4 at *
    generalize cs[k].t = x5 at *
    have hge : ∀ (p q : Operand) (v : World), (eqGuard .eql 69 p q (.agg #[.int .i64 x0, .int .i64 x1, .int .i64 x2, .bool x3, .bool x4, .bool x5]) (.agg #[.int .i64 r, .int .i64 fg, .int .i64 bg, .bool bb, .bool u, .bool t])).run Try.prog v = .ok () v := fun p q v => guardE p q _ _ v
    have heq : ∀ (v : World), (binOp .eql 69 (.agg #[.int .i64 x0, .int .i64 x1, .int .i64 x2, .bool x3, .bool x4, .bool x5]) (.agg #[.int .i64 r, .int .i64 fg, .int .i64 bg, .bool bb, .bool u, .bool t])).run Try.prog v = .ok (.bool be) v := fun v => by rw [HBE.out]; exact eqlC _ _ _ _ _ _ _ _ _ _ _ _ v
    have hd : decide (0 < n) = true := decide_eq_true (by omega)
    have hp0 : 0 < n := by omega
    have hkn : k < n := by omega
    have hw1 : IntKind.i64.wrap ((n : Int) - 1) = (k : Int) := by rw [IntWalk.i64_in _ (by omega)]; omega
    clear hl hk h0 hkl HBE
    go_enter Try.func55, Try.ntmps55
    go_wp2_with fail
    go_quiet (fail)
    go_wp2_with fail
    go_ret
    exact ⟨by rw [HE.out]; rfl, below_drewN HB0.out nq⟩
end Go.Proofs.Ytbifbeahakchjaa.Cb
