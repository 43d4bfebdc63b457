/- Contracts of the encoding of strings, in the model; lengths of slices at most 2^40. -/
import Derived.Test.YteiojpglhmikoaaTextImpl
import Derived.Test.YteiojpglhmikoaaPutVar
import Derived.Lib.AppendStr
namespace Go.Proofs.Yteiojpglhmikoaa.Var
open Go.RowKit Go.Proofs.Yteiojpglhmikoaa.Bytes
set_option linter.unusedVariables false
set_option maxRecDepth 100000 in
set_option maxHeartbeats 800000 in
theorem spec_PutText_any (A : Option Addr) (n c : Nat) (zs : List Int) (s : ByteArray) (w : World) (hA : A = none → n = 0 ∧ c = 0) (hr : Rd w w.heap.size A zs) (hl : zs.length = n) (hn : n ≤ 1099511627776) (hs : s.size ≤ maxLen) :
    Calls Try.prog 74 #[.slice A n c, .string s] w fun e w' => ∃ A' n' c', e = .returned (.tuple #[.slice A' n' c', .bool (ptB s)]) ∧ Own w' w.heap.size A' n' c' (ptO zs s) ∧ Below w.heap.size w w' := by
  unfold maxLen at hs
  by_cases h4 : s.size ≤ 4000
  · have e1 : ptB s = true := decide_eq_true h4
    have e2 : ptO zs s = zs ++ vEnc s.size ++ byt s := by unfold ptO; rw [if_pos h4]
    rw [e1, e2]
    have HL := Lib.hid hl
    have HA := Lib.hid hA
    clear hl hA e1 e2
    go_enter Try.func74, Try.ntmps74
    go_wp2_with fail
    refine (spec_PutVar_yes A n c zs s.size _ HA.out hr HL.out hn (by omega)).mono ?_
    rintro e w1 ⟨A1, n1, c1, rfl, ho1, hb1⟩
    have hl1 := ho1.len
    rw [List.length_append, HL.out] at hl1
    have hv := vEnc_len5 (n := s.size) (by omega)
    have hn1 : n1 ≤ n + 5 := by omega
    have hbs := hb1.size
    clear hl1 hv
    go_wp2_with (at_builtin; refine append_text rfl _ _ rfl rfl rfl ho1 (by omega) (by omega) (by omega) ?_)
    intro A2 c2 w2 ho2 hb2
    have hb3 := hb1.trans hb2
    clear ho1 hb1 hb2 hr
    go_wp2_with fail
    go_ret2
    exact ⟨_, _, _, rfl, by simpa [List.append_assoc] using ho2, hb3⟩
  · have e1 : ptB s = false := decide_eq_false h4
    have e2 : ptO zs s = [] := by unfold ptO; rw [if_neg h4]
    rw [e1, e2]
    have h5 : 4000 < s.size := by omega
    clear h4 e1 e2
    go_enter Try.func74, Try.ntmps74
    go_wp2_with fail
    go_ret2
    exact ⟨none, 0, 0, rfl, own_nil _ _, Below.refl _ _⟩
end Go.Proofs.Yteiojpglhmikoaa.Var

