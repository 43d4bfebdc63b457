/- The laws' helper that bounds a slice of ints. -/
import Derived.Test.YthlpchojlddnbaaIntsB
namespace Go.Proofs.Ythlpchojlddnbaa.DOk
open Go.RowKit Go.Proofs.Ythlpchojlddnbaa.Bytes
set_option linter.unusedVariables false
theorem szIntS_any (A : Option Addr) (n c : Nat) (left : Int) (w : World) (hn : n ≤ 9223372036854775807) (h0 : 0 ≤ left) (h1 : left ≤ 1048576) :
    Calls Try.prog 56 #[.slice A n c, .int .i64 left] w fun e w' => e = .returned (.int .i64 (if left < (n : Int) then -1 else left - n)) ∧ w = w' := by
  by_cases h : left < (n : Int)
  · have HI := Lib.hid (if_pos h : (if left < (n : Int) then (-1 : Int) else left - n) = -1)
    have h' : left - (n : Int) < 0 := by omega
    rw [HI.out]
    go_enter Try.func56, Try.ntmps56
    go_wp2_with fail
    go_ret
    exact ⟨rfl, rfl⟩
  · have HI := Lib.hid (if_neg h : (if left < (n : Int) then (-1 : Int) else left - n) = left - n)
    have h' : 0 ≤ left - (n : Int) := by omega
    rw [HI.out]
    go_enter Try.func56, Try.ntmps56
    go_wp2_with fail
    go_ret
    exact ⟨rfl, rfl⟩
end Go.Proofs.Ythlpchojlddnbaa.DOk

