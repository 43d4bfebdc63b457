/- Contracts of the number encoding, in the program: it appends the base-128 encoding of a number to a copy of the slice; lengths at most 2^40. -/
import Derived.Test.YteiojpglhmikoaaDoorCloneB
import Derived.Test.YteiojpglhmikoaaDoorPutCore
namespace Go.Proofs.YteiojpglhmikoaaDoor.Var
open Go.RowKit Go.Proofs.YteiojpglhmikoaaDoor.Bytes
set_option linter.unusedVariables false

set_option maxRecDepth 100000 in
set_option maxHeartbeats 800000 in
theorem impl_PutVar_yes (A : Option Addr) (n c : Nat) (zs : List Int) (m : Nat) (w : World) (hA : A = none → n = 0 ∧ c = 0) (hr : Rd w w.heap.size A zs) (hl : zs.length = n) (hn : n ≤ 1099511627776) (hm : m ≤ 4294967295) :
    Calls Tryd.prog 12 #[.slice A n c, .int .i64 m] w fun e w' => ∃ A' n' c', e = .returned (.tuple #[.slice A' n' c', .bool true]) ∧ Own w' w.heap.size A' n' c' (zs ++ vEnc m) ∧ Below w.heap.size w w' := by
  have HL := Lib.hid hl
  have HA := Lib.hid hA
  clear hl hA
  go_enter Tryd.func12, Tryd.ntmps12
  go_wp2_with fail
  refine (isNumber_yes _ _ (by omega) (by omega)).mono ?_
  rintro e w' ⟨rfl, rfl⟩
  go_wp2_with fail
  refine (clone_any A n c zs _ HA.out hr HL.out hn).mono ?_
  rintro e w1 ⟨A1, c1, rfl, ho1, hb1⟩
  have hbs := hb1.size
  go_wp2_with fail
  refine (appendVar_any A1 n c1 w.heap.size zs m _ ho1 (by omega) hn hm).mono ?_
  rintro e w2 ⟨A2, n2, c2, rfl, ho2, hb2⟩
  have hb3 := hb1.trans hb2
  clear ho1 hb1 hb2 hr
  go_wp2_with fail
  go_ret2
  exact ⟨_, _, _, rfl, ho2, hb3⟩
end Go.Proofs.YteiojpglhmikoaaDoor.Var

