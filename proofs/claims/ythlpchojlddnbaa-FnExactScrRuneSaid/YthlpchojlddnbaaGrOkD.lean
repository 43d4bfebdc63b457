/- The size of a grid, as data and in the program. -/
import Derived.Test.YthlpchojlddnbaaGrTo
namespace Go.Proofs.Ythlpchojlddnbaa.Gr
open Go.RowKit Go.Proofs.Ythlpchojlddnbaa.Bytes Go.Proofs.Ythlpchojlddnbaa.Rows_ Go.Proofs.Ythlpchojlddnbaa.RowK
set_option linter.unusedVariables false
def sizeB (gw gh : Int) : Bool := decide (1 ≤ gw ∧ gw ≤ 120 ∧ 1 ≤ gh ∧ gh ≤ 120 ∧ gw * gh ≤ 4000)
def okG (gw gh : Int) (cs : List CellD) : Bool := sizeB gw gh && (decide ((cs.length : Int) = gw * gh) && cs.all okC)
theorem sizeB_f {gw gh : Int} (h : ¬ (1 ≤ gw ∧ gw ≤ 120 ∧ 1 ≤ gh ∧ gh ≤ 120 ∧ gw * gh ≤ 4000)) : sizeB gw gh = false := decide_eq_false h
theorem sizeB_t {gw gh : Int} (h : 1 ≤ gw ∧ gw ≤ 120 ∧ 1 ≤ gh ∧ gh ≤ 120 ∧ gw * gh ≤ 4000) : sizeB gw gh = true := decide_eq_true h
theorem of_sizeB {gw gh : Int} (h : sizeB gw gh = true) : 1 ≤ gw ∧ gw ≤ 120 ∧ 1 ≤ gh ∧ gh ≤ 120 ∧ gw * gh ≤ 4000 := of_decide_eq_true h
theorem mul_bd {gw gh : Int} (h1 : 1 ≤ gw) (h2 : gw ≤ 120) (h3 : 1 ≤ gh) (h4 : gh ≤ 120) : 1 ≤ gw * gh ∧ gw * gh ≤ 14400 := by
  have a := Int.mul_le_mul h1 h3 (by omega) (by omega)
  have b := Int.mul_le_mul h2 h4 (by omega) (by omega)
  omega
theorem all_no {cs : List CellD} {k : Nat} (h : k < cs.length) (ho : okC cs[k] = false) : cs.all okC = false := by
  rw [List.all_eq_false]; exact ⟨cs[k], List.getElem_mem h, by rw [ho]; simp⟩
theorem all_next {cs : List CellD} {k : Nat} (h : k < cs.length) (ha : (cs.take k).all okC = true) (ho : okC cs[k] = true) : (cs.take (k + 1)).all okC = true := by
  rw [List.take_succ_eq_append_getElem h, List.all_append, ha]; simp [ho]

def sideG (n : Int) : Bool := decide (1 ≤ n) && decide (n ≤ 120)
set_option maxRecDepth 100000 in
theorem isSideG_any (n : Int) (w : World) : Calls Try.prog 115 #[.int .i64 n] w fun e w' => e = .returned (.bool (sideG n)) ∧ w = w' := by
  by_cases h1 : 1 ≤ n <;> by_cases h2 : n ≤ 120
  all_goals
    have HE := Lib.hid (show sideG n = (decide (1 ≤ n) && decide (n ≤ 120)) from rfl)
    go_enter Try.func115, Try.ntmps115
    go_wp2_with fail
    go_ret
    exact ⟨Attr.rt_bool (by rw [HE.out]; simp [h1, h2]), rfl⟩
theorem sideG_t {n : Int} (h : sideG n = true) : 1 ≤ n ∧ n ≤ 120 := by simpa [sideG] using h
theorem sideG_f {n : Int} (h : sideG n = false) : ¬ (1 ≤ n ∧ n ≤ 120) := fun k => by simp [sideG, k] at h
set_option maxRecDepth 100000 in
set_option maxHeartbeats 800000 in
theorem isGridSize_any (gw gh : Int) (w : World) :
    Calls Try.prog 85 #[.int .i64 gw, .int .i64 gh] w fun e w' => e = .returned (.bool (sizeB gw gh)) ∧ w = w' := by
  cases hs1 : sideG gw <;> have S1 := Lib.hid hs1 <;> clear hs1
  · have HE := Lib.hid (sizeB_f (gw := gw) (gh := gh) (fun k => sideG_f S1.out ⟨k.1, k.2.1⟩))
    go_enter Try.func85, Try.ntmps85
    go_wp2_with (go_at_call 115; refine (isSideG_any gw _).mono ?_; rintro e v ⟨rfl, rfl⟩; rw [S1.out])
    go_ret
    exact ⟨Attr.rt_bool HE.out.symm, rfl⟩
  · cases hs2 : sideG gh <;> have S2 := Lib.hid hs2 <;> clear hs2
    · have HE := Lib.hid (sizeB_f (gw := gw) (gh := gh) (fun k => sideG_f S2.out ⟨k.2.2.1, k.2.2.2.1⟩))
      go_enter Try.func85, Try.ntmps85
      go_wp2_with fail
      refine (isSideG_any gw _).mono ?_
      rintro e v ⟨rfl, rfl⟩
      rw [S1.out]
      go_wp2_with fail
      refine (isSideG_any gh _).mono ?_
      rintro e v ⟨rfl, rfl⟩
      rw [S2.out]
      go_wp2_with fail
      go_ret
      exact ⟨Attr.rt_bool HE.out.symm, rfl⟩
    · obtain ⟨h1, h2⟩ := sideG_t S1.out
      obtain ⟨h3, h4⟩ := sideG_t S2.out
      obtain ⟨m1, m2⟩ := mul_bd h1 h2 h3 h4
      have HE := Lib.hid (show sizeB gw gh = decide (gw * gh ≤ 4000) by unfold sizeB; simp [h1, h2, h3, h4])
      go_enter Try.func85, Try.ntmps85
      go_wp2_with fail
      refine (isSideG_any gw _).mono ?_
      rintro e v ⟨rfl, rfl⟩
      rw [S1.out]
      go_wp2_with fail
      refine (isSideG_any gh _).mono ?_
      rintro e v ⟨rfl, rfl⟩
      rw [S2.out]
      go_wp2_with fail
      go_ret
      exact ⟨Attr.rt_bool HE.out.symm, rfl⟩

end Go.Proofs.Ythlpchojlddnbaa.Gr

