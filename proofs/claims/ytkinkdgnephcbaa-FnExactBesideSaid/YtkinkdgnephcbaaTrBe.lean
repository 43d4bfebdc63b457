/- Beside in the model. -/
import Derived.Test.YtkinkdgnephcbaaTrPu
import Derived.RegionTactic
import Derived.WalkSpells
namespace Go.Proofs.Ytkinkdgnephcbaa.Tr
open Go.RowKit Go.Proofs.Ytkinkdgnephcbaa.Bytes Go.Proofs.Ytkinkdgnephcbaa.Rows_ Go.Proofs.Ytkinkdgnephcbaa.RowK Go.Proofs.Ytkinkdgnephcbaa.DOk Go.Proofs.Ytkinkdgnephcbaa.Opq
open Tree
set_option linter.unusedVariables false
attribute [local go_sem ↓] Go.wp_at_zero Go.wp_at_succ
def meetD (a an b bn : Int) : Bool := decide (a < b + bn) && decide (b < a + an)
def besideD (o : RectD) (s : Int) (z : RectD) : Bool :=
  if s = 76 then decide (z.x + z.w + 1 = o.x) && meetD o.y o.h z.y z.h
  else if s = 82 then decide (o.x + o.w + 1 = z.x) && meetD o.y o.h z.y z.h
  else if s = 85 then decide (z.y + z.h + 1 = o.y) && meetD o.x o.w z.x z.w
  else if s = 68 then decide (o.y + o.h + 1 = z.y) && meetD o.x o.w z.x z.w
  else false
def besD (zs : List RectD) (p s : Int) : Int := match pofD zs p with
  | none => 0
  | some o => match zs.find? (besideD o s) with
    | none => 0
    | some z => z.pane
theorem besD_no {zs : List RectD} {p s : Int} (h : pofD zs p = none) : besD zs p s = 0 := by unfold besD; rw [h]
theorem besD_hit {zs : List RectD} {p s : Int} {o z : RectD} (h : pofD zs p = some o) (hf : zs.find? (besideD o s) = some z) : besD zs p s = z.pane := by unfold besD; rw [h]; simp only; rw [hf]
theorem besD_miss {zs : List RectD} {p s : Int} {o : RectD} (h : pofD zs p = some o) (hf : zs.find? (besideD o s) = none) : besD zs p s = 0 := by unfold besD; rw [h]; simp only; rw [hf]
theorem pofR_some' {zs : List RectD} {p : Int} {r : RectD} (h : pofD zs p = some r) : pofR zs p = r := by unfold pofR; rw [h]; rfl
theorem pof_rb {t : List NodeD} {a b p : Int} {r : RectD} (h : pofD (listD t a b) p = some r) : RB r := listD_rb t a b r (List.mem_of_find?_eq_some h)
set_option maxRecDepth 100000 in
set_option maxHeartbeats 800000 in
theorem l13Meet_any (a an b bn : Int) (w : World) (h1 : 0 ≤ a ∧ a ≤ 1000) (h2 : 0 ≤ an ∧ an ≤ 1000) (h3 : 0 ≤ b ∧ b ≤ 1000) (h4 : 0 ≤ bn ∧ bn ≤ 1000) :
    Calls Try.prog 96 #[.int .i64 a, .int .i64 an, .int .i64 b, .int .i64 bn] w fun e w' => e = .returned (.bool (meetD a an b bn)) ∧ w = w' := by
  obtain ⟨h10, h11⟩ := h1
  obtain ⟨h20, h21⟩ := h2
  obtain ⟨h30, h31⟩ := h3
  obtain ⟨h40, h41⟩ := h4
  by_cases q1 : a < b + bn
  · by_cases q2 : b < a + an
    · have HM := Lib.hid (show meetD a an b bn = true by unfold meetD; simp [q1, q2])
      go_enter Try.func96, Try.ntmps96
      go_wp2_with fail
      go_ret
      exact ⟨by rw [HM.out]; first | rfl | simp [*] | simp_all, rfl⟩
    · have HM := Lib.hid (show meetD a an b bn = false by unfold meetD; simp [q1, q2])
      have q2' : decide (b < a + an) = false := by simpa using q2
      go_enter Try.func96, Try.ntmps96
      go_wp2_with fail
      go_ret
      exact ⟨by rw [HM.out]; first | rfl | simp [*] | simp_all, rfl⟩
  · have HM := Lib.hid (show meetD a an b bn = false by unfold meetD; simp [q1])
    have q1' : decide (a < b + bn) = false := by simpa using q1
    go_enter Try.func96, Try.ntmps96
    go_wp2_with fail
    go_ret
    exact ⟨by rw [HM.out]; first | rfl | simp [*] | simp_all, rfl⟩
end Go.Proofs.Ytkinkdgnephcbaa.Tr
