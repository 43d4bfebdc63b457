/- Contracts of reading a decimal numeral, in the model and in the program: both answer the same number and the same yes or no, for every string within the reach. -/
import Derived.Test.YteiojpglhmikoaaDoorTextNt
import Derived.Test.YteiojpglhmikoaaDoorNumCore
import Derived.Test.YteiojpglhmikoaaDoorDecPlain
import Derived.Stop.IfaceNil
namespace Go.Proofs.YteiojpglhmikoaaDoor.Num
open Go.RowKit Go.Shelf
set_option linter.unusedVariables false

def ErrVars (w : World) : Prop := (∃ tp p, w.var? Tryd.prog "strconv.ErrSyntax" = some #[.iface tp p]) ∧ (∃ tp p, w.var? Tryd.prog "strconv.ErrRange" = some #[.iface tp p])
theorem var_lt {w : World} {n : String} {g : Nat} {v : Value} (hg : Tryd.prog.globalNamed n = some g) (h : w.var? Tryd.prog n = some #[v]) : g < w.heap.size := by
  have := World.var?_cell hg h 0
  exact World.block_lt_of_cell? w _ (by simpa using this)
theorem ErrVars.below {w w' : World} (h : ErrVars w) (hb : Below w.heap.size w w') : ErrVars w' := by
  obtain ⟨⟨t1, p1, h1⟩, ⟨t2, p2, h2⟩⟩ := h
  have g1 : Tryd.prog.globalNamed "strconv.ErrSyntax" = some 1 := by kernel_rfl
  have g2 : Tryd.prog.globalNamed "strconv.ErrRange" = some 2 := by kernel_rfl
  exact ⟨⟨t1, p1, var?_below hb g1 (var_lt g1 h1) h1⟩, ⟨t2, p2, var?_below hb g2 (var_lt g2 h2) h2⟩⟩

theorem atoi_bad (s : ByteArray) (hlim : s.size ≤ 281474976710656) (h : ∀ v, Lib.atoiAll s.data.toList ≠ .ok v) (w : World) (he : ErrVars w) :
    Calls Tryd.prog 35 #[.string s] w fun e w' => ∃ v N, e = .returned (.tuple #[.int .i64 v, .iface 108 (.pointer (some ⟨N, 0, none⟩))]) ∧ Below w.heap.size w w' := by
  obtain ⟨⟨t1, p1, h1⟩, ⟨t2, p2, h2⟩⟩ := he
  cases hh : Lib.atoiAll s.data.toList
  · exact absurd hh (h _)
  · refine (Any.strconv_Atoi_syntax_var Tryd.laysC172 s hlim hh t1 p1 w h1).mono ?_
    rintro e w' ⟨N, he, _, _, hb⟩
    exact ⟨_, N, he, hb⟩
  · refine (Any.strconv_Atoi_range_var Tryd.laysC172 s hlim hh t2 p2 w h2).mono ?_
    rintro e w' ⟨N, he, _, _, hb⟩
    exact ⟨_, N, he, hb⟩

set_option maxRecDepth 100000 in
set_option maxHeartbeats 800000 in
theorem impl_ok (s : ByteArray) (hlim : s.size ≤ 1048576) (w : World) (v : Int) (hv : Lib.atoiAll s.data.toList = .ok v) (b : Bool) (hb : tnOk s.data.toList = b) (r : Int) (hr : (if b then v else 0) = r)
    (ht : ((nt v).toList == s.toList) = b ∧ (!((nt v).toList == s.toList)) = (!b)) (htab : Lib.TabIs Tryd.prog w "internal/strconv.uint64pow10" .u64 Lib.pow10Tab) :
    Calls Tryd.prog 16 #[.string s] w fun e w' => e = .returned (.tuple #[.int .i64 r, .bool b]) ∧ Below w.heap.size w w' := by
  have hif : Tryd.prog.isIface 49 = true := by kernel_rfl
  have hn2 := fun (W : World) => run_neq_nil_nil_at (P := Tryd.prog) W 49 hif
  obtain ⟨hs1, hs2⟩ := ht
  have HT := Lib.hid htab
  have HV := Lib.hid hv
  have hi := Lib.hid (impl_nt v)
  generalize nt v = T at *
  clear htab hif hv hb
  cases b <;> simp only [Bool.false_eq_true, if_false, if_true, Bool.not_true, Bool.not_false] at hr hs2 <;> subst hr <;>
  · go_enter Tryd.func16, Tryd.ntmps16
    go_wp2_with fail
    refine (Tryd.strconv_Atoi_ok s (by omega) v HV.out _).mono ?_
    rintro e w1 ⟨rfl, hw⟩
    have hb1 : Below w.heap.size w w1 := by
      rcases hw with rfl | ⟨t, rfl⟩
      · exact Below.refl _ _
      · exact Lib.bytesWorld_below _ _ _
    have hs := hb1.size
    have HT1 := Lib.hid (var_below hb1 HT.out)
    clear hw
    go_wp2_with fail
    refine (hi.out _ HT1.out).mono ?_
    rintro e w2 ⟨rfl, hb2⟩
    have hb3 := hb1.trans (hb2.mono hs)
    clear hb1 hb2
    go_wp2_with fail
    go_ret2
    exact ⟨rfl, hb3⟩
set_option maxRecDepth 100000 in
set_option maxHeartbeats 800000 in
theorem impl_bad (s : ByteArray) (hlim : s.size ≤ 1048576) (w : World) (hv : ∀ v, Lib.atoiAll s.data.toList ≠ .ok v) (he : ErrVars w) :
    Calls Tryd.prog 16 #[.string s] w fun e w' => e = .returned (.tuple #[.int .i64 0, .bool false]) ∧ Below w.heap.size w w' := by
  have hif : Tryd.prog.isIface 49 = true := by kernel_rfl
  have hn1 := fun (W : World) (x : Value) => run_neq_iface_nil (P := Tryd.prog) W 49 hif 108 x
  have HE := Lib.hid he
  have HV := Lib.hid hv
  clear he hif hv
  go_enter Tryd.func16, Tryd.ntmps16
  go_wp2_with fail
  refine (atoi_bad s (by omega) HV.out _ HE.out).mono ?_
  rintro e w1 ⟨v, N, rfl, hb1⟩
  go_wp2_with fail
  go_ret2
  exact ⟨rfl, hb1⟩
theorem impl_TextNum (s : ByteArray) (hlim : s.size ≤ 1048576) (w : World) (he : ErrVars w) (htab : Lib.TabIs Tryd.prog w "internal/strconv.uint64pow10" .u64 Lib.pow10Tab) :
    Calls Tryd.prog 16 #[.string s] w fun e w' => e = .returned (.tuple #[.int .i64 (tnV s.data.toList), .bool (tnOk s.data.toList)]) ∧ Below w.heap.size w w' := by
  by_cases hok : ∃ v, Lib.atoiAll s.data.toList = .ok v
  · obtain ⟨v, hv⟩ := hok
    have hne : s.data.toList ≠ [] := by intro e0; rw [e0] at hv; cases hv
    cases hq : tnOk s.data.toList
    · rw [tnV_no hq]
      exact impl_ok s hlim w v hv false hq 0 rfl (str_ne (nt_no hne hq)) htab
    · rw [tnV_yes hq]
      have h1 := atoi_dg hq
      rw [hv] at h1
      injection h1 with h1
      have h2 := of_decide_eq_true hq
      exact impl_ok s hlim w v hv true hq _ (by rw [if_pos rfl, h1]) (by rw [h1, nt_yes h2.1 h2.2]; simp) htab
  · have hv : ∀ v, Lib.atoiAll s.data.toList ≠ .ok v := fun v e => hok ⟨v, e⟩
    have hq : tnOk s.data.toList = false := by
      cases hq : tnOk s.data.toList
      · rfl
      · exact absurd (atoi_dg hq) (hv _)
    rw [tnV_no hq, hq]
    exact impl_bad s hlim w hv he

/-! ### the model -/
end Go.Proofs.YteiojpglhmikoaaDoor.Num

