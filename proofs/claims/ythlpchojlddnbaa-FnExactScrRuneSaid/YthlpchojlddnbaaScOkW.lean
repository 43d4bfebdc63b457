/- Which screens are valid: words. No function of the program is named. -/
import Derived.Test.YthlpchojlddnbaaScW
import Derived.Test.YthlpchojlddnbaaGrOk
namespace Go.Proofs.Ythlpchojlddnbaa.Sc
open Go.RowKit Go.Proofs.Ythlpchojlddnbaa.Bytes Go.Proofs.Ythlpchojlddnbaa.Rows_ Go.Proofs.Ythlpchojlddnbaa.RowK Go.Proofs.Ythlpchojlddnbaa.Gr Go.Proofs.Ythlpchojlddnbaa.DOk Go.Proofs.Ythlpchojlddnbaa.Opq Go.Proofs.Ythlpchojlddnbaa.Attr
set_option linter.unusedVariables false
def okT : Int → Int → List Int → Bool
  | _, _, [] => true
  | last, w, t :: l => decide (last < t ∧ t < w) && okT t w l
def okRow (cs : List CellD) : Bool := decide (1 ≤ cs.length ∧ cs.length ≤ 120) && cs.all okC
def C1 (d : ScrD) : Prop := okG d.mw d.mh d.M = true ∧ okG d.aw d.ah d.A = true ∧ d.mw = d.w ∧ d.mh = d.h ∧ d.aw = d.w ∧ d.ah = d.h
def C3 (d : ScrD) : Prop := 0 ≤ d.x ∧ d.x < d.w ∧ 0 ≤ d.y ∧ d.y < d.h ∧ (d.wrap = true → d.x = d.w - 1) ∧ 0 ≤ d.sx ∧ d.sx < d.w ∧ 0 ≤ d.sy ∧ d.sy < d.h ∧ okA d.fg d.bg = true ∧ okA d.sfg d.sbg = true
def C5 (d : ScrD) : Prop := 0 ≤ d.top ∧ d.bot < d.h ∧ d.top ≤ d.bot ∧ (d.top = d.bot → d.h = 1) ∧ 0 ≤ d.lim ∧ d.lim ≤ 100 ∧ (d.rows.length : Int) ≤ d.lim
def OkP (d : ScrD) : Prop := C1 d ∧ C3 d ∧ C5 d ∧ okT (-1) d.w d.tabs = true ∧ d.rows.all okRow = true
noncomputable def okD (d : ScrD) : Bool := @decide (OkP d) (Classical.propDecidable _)
theorem okD_iff {d : ScrD} : okD d = true ↔ OkP d := by unfold okD; exact @decide_eq_true_iff _ (Classical.propDecidable _)
theorem okD_f {d : ScrD} (h : ¬ OkP d) : okD d = false := by
  cases h' : okD d
  · rfl
  · exact absurd (okD_iff.1 h') h
theorem okD_t {d : ScrD} (h : OkP d) : okD d = true := okD_iff.2 h
/-- a test's answer -/
def Tst (P : Prop) (s : Value) : Prop := ∃ b : Bool, s = .bool b ∧ Hid (b = true ↔ P)
theorem Tst.mk {P : Prop} (b : Bool) (h : b = true ↔ P) : Tst P (.bool b) := ⟨b, rfl, h⟩
def lastOf : Int → List Int → Int
  | last, [] => last
  | _, t :: l => lastOf t l
theorem okT_app : ∀ (last w : Int) (l r : List Int), okT last w (l ++ r) = (okT last w l && okT (lastOf last l) w r)
  | last, w, [], r => by simp [okT, lastOf]
  | last, w, t :: l, r => by rw [List.cons_append, okT, okT_app, okT, lastOf, Bool.and_assoc]
theorem okT_last : ∀ (last w : Int) (l : List Int), okT last w l = true → last ≤ lastOf last l ∧ (l ≠ [] → last < lastOf last l)
  | last, w, [], h => ⟨by simp [lastOf], fun h => absurd rfl h⟩
  | last, w, t :: l, h => by
    rw [okT, Bool.and_eq_true] at h
    have h1 := of_decide_eq_true h.1
    have h2 := okT_last t w l h.2
    rw [lastOf]
    exact ⟨by omega, fun _ => by omega⟩
theorem lastOf_snoc : ∀ (last : Int) (l : List Int) (t : Int), lastOf last (l ++ [t]) = t
  | _, [], t => rfl
  | _, x :: l, t => lastOf_snoc x l t
theorem okT_next {w : Int} {zs : List Int} {k : Nat} (hk : k < zs.length) (h : okT (-1) w (zs.take k) = true) (h1 : lastOf (-1) (zs.take k) < zs[k]) (h2 : zs[k] < w) : okT (-1) w (zs.take (k + 1)) = true := by
  rw [List.take_succ_eq_append_getElem hk, okT_app, h, Bool.true_and]
  simp [okT, h1, h2]
theorem okT_no {w : Int} {zs : List Int} {k : Nat} (hk : k < zs.length) (h1 : ¬ (lastOf (-1) (zs.take k) < zs[k] ∧ zs[k] < w)) : okT (-1) w zs = false := by
  have e : zs = zs.take k ++ zs[k] :: zs.drop (k + 1) := by rw [List.getElem_cons_drop, List.take_append_drop]
  rw [e, okT_app, okT]
  rw [decide_eq_false h1]; simp
theorem last_succ {zs : List Int} {j : Nat} (hj : j < zs.length) : lastOf (-1) (zs.take (j + 1)) = zs[j] := by rw [List.take_succ_eq_append_getElem hj, lastOf_snoc]
theorem last_nonneg {w : Int} {zs : List Int} {j : Nat} (hj : j < zs.length) (h : okT (-1) w (zs.take (j + 1)) = true) : 0 ≤ zs[j] := by
  have h1 := (okT_last _ _ _ h).2 (by intro e; simp at e; subst e; simp at hj)
  rw [last_succ hj] at h1; omega
end Go.Proofs.Ythlpchojlddnbaa.Sc

