/- Contracts of AttrNum, in the program (bits) and in the model (sums): both answer the same number; at every attribute. -/
import Derived.Test.YteiojpglhmikoaaAttr
import Derived.Deep.QuietTactic
import Derived.BigQuiet
import Derived.IntWalk
import Derived.Outline
import Derived.Test.YteiojpglhmikoaaAttrB
namespace Go.Proofs.Yteiojpglhmikoaa.Attr
open Go.RowKit
set_option linter.unusedVariables false
theorem rt_int {k : IntKind} {a b : Int} (h : a = b) : Ending.returned (.int k a) = .returned (.int k b) := by rw [h]
def bi (b : Bool) (n : Int) : Int := if b then n else 0
def anV (fg bg : Int) (b u t : Bool) : Int := if okA fg bg then bg * 72 + fg * 8 + bi b 1 + bi u 2 + bi t 4 else -1
theorem anV_no {fg bg : Int} (b u t : Bool) (h : okA fg bg = false) : anV fg bg b u t = -1 := by unfold anV; rw [h]; rfl
theorem anV_yes {fg bg : Int} (b u t : Bool) (h : okA fg bg = true) : anV fg bg b u t = bg * 72 + fg * 8 + bi b 1 + bi u 2 + bi t 4 := by unfold anV; rw [h]; rfl

set_option maxRecDepth 100000 in
set_option maxHeartbeats 1600000 in
theorem spec_AttrNum_any (fg bg : Int) (b u t : Bool) (w : World) :
    Calls Try.prog 59 #[.agg #[.int .i64 fg, .int .i64 bg, .bool b, .bool u, .bool t]] w fun e w' => e = .returned (.int .i64 (anV fg bg b u t)) ∧ Below w.heap.size w w' := by
  have HB0 := Lib.hid ((Below.refl w.heap.size w).alloc (Nat.le_refl _) (.cells #[.int .i64 fg, .int .i64 bg, .bool b, .bool u, .bool t] 84))
  cases hv : okA fg bg
  · have HN := Lib.hid (anV_no b u t hv)
    have HV := Lib.hid hv
    clear hv
    go_enter Try.func59, Try.ntmps59
    go_wp2_with fail
    refine (spec_AttrOk_any fg bg b u t _).mono ?_
    rintro e v1 ⟨rfl, hb1⟩
    rw [HV.out]
    have HB1 := Lib.hid (HB0.out.trans (hb1.mono (by simp)))
    clear hb1
    go_wp2_with fail
    go_ret
    exact ⟨rt_int HN.out.symm, HB1.out⟩
  · have HN := Lib.hid (anV_yes b u t hv)
    have HV := Lib.hid hv
    obtain ⟨h1, h2, h3, h4⟩ := okA_t hv
    clear hv
    cases b <;> cases u <;> cases t <;>
    · go_enter Try.func59, Try.ntmps59
      go_wp2_with fail
      refine (spec_AttrOk_any fg bg _ _ _ _).mono ?_
      rintro e v1 ⟨rfl, hb1⟩
      rw [HV.out]
      have HB1 := Lib.hid (HB0.out.trans (hb1.mono (by simp)))
      obtain ⟨hc, hf⟩ := bcell hb1
      have hz : w.heap.size < v1.heap.size := by have := hb1.size; simp at this; omega
      clear hb1
      go_wp2_with fail
      go_ret
      exact ⟨rt_int (by rw [HN.out]; simp [bi] <;> omega), HB1.out⟩

set_option maxRecDepth 100000 in
set_option maxHeartbeats 400000 in
theorem bitIf_no (p : Int) (w : World) : Calls Try.prog 115 #[.bool false, .int .i64 p] w fun e w' => e = .returned (.int .i64 0) ∧ w' = w := by
  go_enter Try.func115, Try.ntmps115
  go_wp2
  go_ret
  exact ⟨rfl, rfl⟩
set_option maxRecDepth 100000 in
set_option maxHeartbeats 400000 in
theorem bitIf_0 (w : World) : Calls Try.prog 115 #[.bool true, .int .i64 0] w fun e w' => e = .returned (.int .i64 1) ∧ w' = w := by
  go_enter Try.func115, Try.ntmps115
  go_wp2
  go_ret
  exact ⟨rfl, rfl⟩
set_option maxRecDepth 100000 in
set_option maxHeartbeats 400000 in
theorem bitIf_1 (w : World) : Calls Try.prog 115 #[.bool true, .int .i64 1] w fun e w' => e = .returned (.int .i64 2) ∧ w' = w := by
  go_enter Try.func115, Try.ntmps115
  go_wp2
  go_ret
  exact ⟨rfl, rfl⟩
set_option maxRecDepth 100000 in
set_option maxHeartbeats 400000 in
theorem bitIf_2 (w : World) : Calls Try.prog 115 #[.bool true, .int .i64 2] w fun e w' => e = .returned (.int .i64 4) ∧ w' = w := by
  go_enter Try.func115, Try.ntmps115
  go_wp2
  go_ret
  exact ⟨rfl, rfl⟩
def bitP (b : Bool) (p : Int) : Int := bi b (if p = 0 then 1 else if p = 1 then 2 else 4)
theorem bitIf_any (b : Bool) (p : Int) (hp : p = 0 ∨ p = 1 ∨ p = 2) (w : World) : Calls Try.prog 115 #[.bool b, .int .i64 p] w fun e w' => e = .returned (.int .i64 (bitP b p)) ∧ w' = w := by
  cases b
  · exact bitIf_no p w
  · rcases hp with rfl | rfl | rfl
    · exact bitIf_0 w
    · exact bitIf_1 w
    · exact bitIf_2 w

theorem bits_all : ∀ v : Fin 81, ∀ b u t : Bool, bits BinOp.or IntKind.i64 (bits BinOp.or IntKind.i64 (bits BinOp.or IntKind.i64 ((v.val : Int) * 8) (bitP b 0)) (bitP u 1)) (bitP t 2) = (v.val : Int) * 8 + bi b 1 + bi u 2 + bi t 4 := by
  decide +kernel
theorem bits_num {fg bg : Int} (b u t : Bool) (h1 : 0 ≤ fg) (h2 : fg ≤ 8) (h3 : 0 ≤ bg) (h4 : bg ≤ 8) :
    bits BinOp.or IntKind.i64 (bits BinOp.or IntKind.i64 (bits BinOp.or IntKind.i64 ((9 * bg + fg) * 8) (bitP b 0)) (bitP u 1)) (bitP t 2) = bg * 72 + fg * 8 + bi b 1 + bi u 2 + bi t 4 := by
  have h := bits_all ⟨(9 * bg + fg).toNat, by omega⟩ b u t
  have e : (((9 * bg + fg).toNat : Nat) : Int) = 9 * bg + fg := by omega
  simp only [e] at h
  rw [h]; omega

set_option maxRecDepth 100000 in
set_option maxHeartbeats 1600000 in
theorem impl_AttrNum_any (fg bg : Int) (b u t : Bool) (w : World) :
    Calls Try.prog 92 #[.agg #[.int .i64 fg, .int .i64 bg, .bool b, .bool u, .bool t]] w fun e w' => e = .returned (.int .i64 (anV fg bg b u t)) ∧ Below w.heap.size w w' := by
  have HB0 := Lib.hid ((Below.refl w.heap.size w).alloc (Nat.le_refl _) (.cells #[.int .i64 fg, .int .i64 bg, .bool b, .bool u, .bool t] 84))
  cases hv : okA fg bg
  · have HN := Lib.hid (anV_no b u t hv)
    have HV := Lib.hid hv
    clear hv
    go_enter Try.func92, Try.ntmps92
    go_wp2_with fail
    refine (impl_AttrOk_any fg bg b u t _).mono ?_
    rintro e v1 ⟨rfl, hb1⟩
    rw [HV.out]
    have HB1 := Lib.hid (HB0.out.trans (hb1.mono (by simp)))
    clear hb1
    go_wp2_with fail
    go_ret
    exact ⟨rt_int HN.out.symm, HB1.out⟩
  · have HN := Lib.hid (anV_yes b u t hv)
    have HV := Lib.hid hv
    obtain ⟨h1, h2, h3, h4⟩ := okA_t hv
    clear hv
    go_enter Try.func92, Try.ntmps92
    go_wp2_with fail
    refine (impl_AttrOk_any fg bg b u t _).mono ?_
    rintro e v1 ⟨rfl, hb1⟩
    rw [HV.out]
    have HB1 := Lib.hid (HB0.out.trans (hb1.mono (by simp)))
    obtain ⟨hc, hf⟩ := bcell hb1
    have hz : w.heap.size < v1.heap.size := by have := hb1.size; simp at this; omega
    clear hb1
    go_wp2_with fail
    go_quiet ((go_at_call 115; exact Calls.quiet_of_same (bitIf_any _ _ (by omega) _)))
    have HE := Lib.hid (bits_num b u t h1 h2 h3 h4)
    clear h1 h2 h3 h4
    go_wp2_with fail
    go_ret
    exact ⟨rt_int (by rw [HN.out]; exact HE.out), below_drewN HB1.out nq⟩
end Go.Proofs.Yteiojpglhmikoaa.Attr

