/- Contracts of the giving up by a panic, and of a number of a frame that is read so. -/
import Derived.Test.YteiojpglhmikoaaFramePlain
import Derived.Test.YteiojpglhmikoaaGetVar
import Derived.WalkLawsBesides
namespace Go.Proofs.Yteiojpglhmikoaa.Frame
open Go.RowKit Go.Proofs.Yteiojpglhmikoaa.Bytes Go.Proofs.Yteiojpglhmikoaa.Var Go.Proofs.Yteiojpglhmikoaa.Crc
set_option linter.unusedVariables false

/-- how a function ends that gives up with a code -/
def gives (k : Int) : Ending := .panicked [{ v := .iface 3 (.int .i64 k), recovered := false }]

theorem giveUp_no (k : Int) (w : World) : Calls Try.prog 109 #[.bool false, .int .i64 k] w fun e w' => e = .returned (.tuple #[]) ∧ w = w' := by
  go_enter Try.func109, Try.ntmps109
  go_wp2
  go_end0
  exact ⟨rfl, rfl⟩
theorem giveUp_yes (k : Int) (w : World) : Calls Try.prog 109 #[.bool true, .int .i64 k] w fun e w' => e = gives k ∧ w = w' := by
  go_enter Try.func109, Try.ntmps109
  go_wp2
  exact ⟨rfl, rfl, rfl⟩

set_option maxRecDepth 100000 in
set_option maxHeartbeats 800000 in
theorem number_yes (A : Option Addr) (n c : Nat) (zs : List Int) (a : Int) (w : World) (hr : Rd w w.heap.size A zs) (hg : Rng zs) (hl : zs.length = n) (hn : n ≤ 1099511627776) (h : gvOk zs a = true) :
    Calls Try.prog 110 #[.slice A n c, .int .i64 a] w fun e w' => e = .returned (.tuple #[.int .i64 (gvN zs a), .int .i64 (gvE zs a)]) ∧ w = w' := by
  have H := Lib.hid h
  have HL := Lib.hid hl
  clear h hl
  go_enter Try.func110, Try.ntmps110
  go_wp2_with fail
  refine (impl_GetVar_any _ n _ zs a _ hr hg HL.out hn).mono ?_
  rintro e w1 ⟨he, rfl⟩
  unfold gvRet at he
  rw [H.out] at he
  subst he
  go_wp2_with fail
  refine (giveUp_no 3 _).mono ?_
  rintro e w1 ⟨rfl, rfl⟩
  go_wp2_with fail
  go_ret2
  exact ⟨rfl, rfl⟩

set_option maxRecDepth 100000 in
set_option maxHeartbeats 800000 in
theorem number_no (A : Option Addr) (n c : Nat) (zs : List Int) (a : Int) (w : World) (hr : Rd w w.heap.size A zs) (hg : Rng zs) (hl : zs.length = n) (hn : n ≤ 1099511627776) (h : gvOk zs a = false) :
    Calls Try.prog 110 #[.slice A n c, .int .i64 a] w fun e w' => e = gives 3 ∧ w = w' := by
  have H := Lib.hid h
  have HL := Lib.hid hl
  clear h hl
  go_enter Try.func110, Try.ntmps110
  go_wp2_with fail
  refine (impl_GetVar_any _ n _ zs a _ hr hg HL.out hn).mono ?_
  rintro e w1 ⟨he, rfl⟩
  unfold gvRet at he
  rw [H.out] at he
  subst he
  go_wp2_with fail
  refine (giveUp_yes 3 _).mono ?_
  rintro e w1 ⟨he, rfl⟩
  unfold gives at he
  subst he
  go_wp2_with fail
  exact ⟨rfl, rfl, rfl⟩
end Go.Proofs.Yteiojpglhmikoaa.Frame

