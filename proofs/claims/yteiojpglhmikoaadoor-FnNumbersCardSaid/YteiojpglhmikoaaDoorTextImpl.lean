/- Contracts of the encoding of strings, in the program; lengths of slices at most 2^40. -/
import Derived.Test.YteiojpglhmikoaaDoorCloneB
import Derived.Test.YteiojpglhmikoaaDoorAppT
namespace Go.Proofs.YteiojpglhmikoaaDoor.Var
open Go.RowKit Go.Proofs.YteiojpglhmikoaaDoor.Bytes
set_option linter.unusedVariables false

/-! ### PutText -/
def ptB (s : ByteArray) : Bool := decide (s.size ≤ 4000)
def ptO (zs : List Int) (s : ByteArray) : List Int := if s.size ≤ 4000 then zs ++ vEnc s.size ++ byt s else []
set_option maxRecDepth 100000 in
set_option maxHeartbeats 800000 in
theorem impl_PutText_any (A : Option Addr) (n c : Nat) (zs : List Int) (s : ByteArray) (w : World) (hA : A = none → n = 0 ∧ c = 0) (hr : Rd w w.heap.size A zs) (hl : zs.length = n) (hn : n ≤ 1099511627776) (hs : s.size ≤ maxLen) :
    Calls Tryd.prog 14 #[.slice A n c, .string s] w fun e w' => ∃ A' n' c', e = .returned (.tuple #[.slice A' n' c', .bool (ptB s)]) ∧ Own w' w.heap.size A' n' c' (ptO zs s) ∧ Below w.heap.size w w' := by
  unfold maxLen at hs
  by_cases h4 : s.size ≤ 4000
  · have e1 : ptB s = true := decide_eq_true h4
    have e2 : ptO zs s = zs ++ vEnc s.size ++ byt s := by unfold ptO; rw [if_pos h4]
    rw [e1, e2]
    have HL := Lib.hid hl
    have HA := Lib.hid hA
    clear hl hA e1 e2
    go_enter Tryd.func14, Tryd.ntmps14
    go_wp2_with fail
    refine (clone_any A n c zs _ HA.out hr HL.out hn).mono ?_
    rintro e w0 ⟨A0, c0, rfl, ho0, hb0⟩
    have hbs0 := hb0.size
    go_wp2_with fail
    refine (appendText_any A0 n c0 w.heap.size zs s _ ho0 (by omega) hn h4).mono ?_
    rintro e w1 ⟨A1, n1, c1, rfl, ho1, hb1⟩
    have hb3 := hb0.trans hb1
    clear ho0 hb0 hb1 hr
    go_wp2_with fail
    go_ret2
    exact ⟨_, _, _, rfl, ho1, hb3⟩
  · have e1 : ptB s = false := decide_eq_false h4
    have e2 : ptO zs s = [] := by unfold ptO; rw [if_neg h4]
    rw [e1, e2]
    have h5 : 4000 < s.size := by omega
    clear h4 e1 e2
    go_enter Tryd.func14, Tryd.ntmps14
    go_wp2_with fail
    go_ret2
    exact ⟨none, 0, 0, rfl, own_nil _ _, Below.refl _ _⟩

end Go.Proofs.YteiojpglhmikoaaDoor.Var

