/- Contracts of reading a decimal numeral, in the model and in the program: both answer the same number and the same yes or no, for every string within the reach. -/
import Derived.Test.YtmlodfceepokoaaDoorNumCore
import Derived.Test.YtmlodfceepokoaaDoorDecPlain
import Derived.Stop.IfaceNil
namespace Go.Proofs.YtmlodfceepokoaaDoor.Num
open Go.RowKit Go.Shelf
set_option linter.unusedVariables false

def ErrVars (w : World) : Prop := (∃ tp p, w.var? Tryd.prog "strconv.ErrSyntax" = some #[.iface tp p]) ∧ (∃ tp p, w.var? Tryd.prog "strconv.ErrRange" = some #[.iface tp p])
theorem var_lt {w : World} {n : String} {g : Nat} {v : Value} (hg : Tryd.prog.globalNamed n = some g) (h : w.var? Tryd.prog n = some #[v]) : g < w.heap.size := by
  have := World.var?_cell hg h 0
  exact World.block_lt_of_cell? w _ (by simpa using this)
theorem ErrVars.below {w w' : World} (h : ErrVars w) (hb : Below w.heap.size w w') : ErrVars w' := by
  obtain ⟨⟨t1, p1, h1⟩, ⟨t2, p2, h2⟩⟩ := h
  have g1 : Tryd.prog.globalNamed "strconv.ErrSyntax" = some 1 := by kernel_rfl
  have g2 : Tryd.prog.globalNamed "strconv.ErrRange" = some 2 := by kernel_rfl
  exact ⟨⟨t1, p1, var?_below hb g1 (var_lt g1 h1) h1⟩, ⟨t2, p2, var?_below hb g2 (var_lt g2 h2) h2⟩⟩

theorem atoi_bad (s : ByteArray) (hlim : s.size ≤ 281474976710656) (h : ∀ v, Lib.atoiAll s.data.toList ≠ .ok v) (w : World) (he : ErrVars w) :
    Calls Tryd.prog 60 #[.string s] w fun e w' => ∃ v N, e = .returned (.tuple #[.int .i64 v, .iface 102 (.pointer (some ⟨N, 0, none⟩))]) ∧ Below w.heap.size w w' := by
  obtain ⟨⟨t1, p1, h1⟩, ⟨t2, p2, h2⟩⟩ := he
  cases hh : Lib.atoiAll s.data.toList
  · exact absurd hh (h _)
  · refine (Any.strconv_Atoi_syntax_var Tryd.laysC172 s hlim hh t1 p1 w h1).mono ?_
    rintro e w' ⟨N, he, _, _, hb⟩
    exact ⟨_, N, he, hb⟩
  · refine (Any.strconv_Atoi_range_var Tryd.laysC172 s hlim hh t2 p2 w h2).mono ?_
    rintro e w' ⟨N, he, _, _, hb⟩
    exact ⟨_, N, he, hb⟩

theorem bytes_eq {a b : ByteArray} (h : a.data.toList = b.data.toList) : a = b := by
  have e : a.data = b.data := by rw [← Array.toArray_toList (xs := a.data), h, Array.toArray_toList]
  exact ByteArray.ext e
theorem str_eq {a b : ByteArray} (h : a = b) : (a.toList == b.toList) = true ∧ (a.toList != b.toList) = false := by subst h; simp
theorem str_ne {a b : ByteArray} (h : a ≠ b) : (a.toList == b.toList) = false ∧ (!(a.toList == b.toList)) = true := by
  have hne : a.toList ≠ b.toList := by
    intro e
    rw [ByteArray.toList_eq, ByteArray.toList_eq] at e
    exact h (bytes_eq e)
  exact ⟨beq_eq_false_iff_ne.2 hne, by rw [beq_eq_false_iff_ne.2 hne]; rfl⟩

/-- the text that NumText answers -/
def nt (z : Int) : ByteArray := if 0 ≤ z ∧ z ≤ 4294967295 then dg z.toNat else ⟨#[]⟩
theorem nt_yes {s : ByteArray} {m : Nat} (hm : m ≤ 4294967295) (h : Lib.decDigits m = s.data.toList) : nt (m : Int) = s := by
  unfold nt; rw [if_pos ⟨by omega, by omega⟩, Int.toNat_natCast]
  exact bytes_eq (by unfold dg; exact h)
theorem nt_no {s : ByteArray} {z : Int} (hs : s.data.toList ≠ []) (h : tnOk s.data.toList = false) : nt z ≠ s := by
  intro e
  unfold nt at e
  split at e
  · rename_i hz
    have e2 : Lib.decDigits z.toNat = s.data.toList := by rw [← e]; rfl
    have := (tn_of (m := z.toNat) (by omega) e2).1
    rw [h] at this; cases this
  · exact hs (by rw [← e])

theorem impl_nt (z : Int) (w : World) (htab : Lib.TabIs Tryd.prog w "internal/strconv.uint64pow10" .u64 Lib.pow10Tab) :
    Calls Tryd.prog 49 #[.int .i64 z] w fun e w' => e = .returned (.string (nt z)) ∧ Below w.heap.size w w' := impl_any z w htab
theorem spec_nt (z : Int) (w : World) :
    Calls Tryd.prog 52 #[.int .i64 z] w fun e w' => e = .returned (.string (nt z)) ∧ Below w.heap.size w w' := spec_any z w

set_option maxRecDepth 100000 in
set_option maxHeartbeats 800000 in
theorem impl_ok (s : ByteArray) (hlim : s.size ≤ 1048576) (w : World) (v : Int) (hv : Lib.atoiAll s.data.toList = .ok v) (b : Bool) (hb : tnOk s.data.toList = b) (r : Int) (hr : (if b then v else 0) = r)
    (ht : ((nt v).toList == s.toList) = b ∧ (!((nt v).toList == s.toList)) = (!b)) (htab : Lib.TabIs Tryd.prog w "internal/strconv.uint64pow10" .u64 Lib.pow10Tab) :
    Calls Tryd.prog 48 #[.string s] w fun e w' => e = .returned (.tuple #[.int .i64 r, .bool b]) ∧ Below w.heap.size w w' := by
  have hif : Tryd.prog.isIface 44 = true := by kernel_rfl
  have hn2 := fun (W : World) => run_neq_nil_nil_at (P := Tryd.prog) W 44 hif
  obtain ⟨hs1, hs2⟩ := ht
  have HT := Lib.hid htab
  have HV := Lib.hid hv
  have hi := Lib.hid (impl_nt v)
  generalize nt v = T at *
  clear htab hif hv hb
  cases b <;> simp only [Bool.false_eq_true, if_false, if_true, Bool.not_true, Bool.not_false] at hr hs2 <;> subst hr <;>
  · go_enter Tryd.func48, Tryd.ntmps48
    go_wp2_with fail
    refine (Tryd.strconv_Atoi_ok s (by omega) v HV.out _).mono ?_
    rintro e w1 ⟨rfl, hw⟩
    have hb1 : Below w.heap.size w w1 := by
      rcases hw with rfl | ⟨t, rfl⟩
      · exact Below.refl _ _
      · exact Lib.bytesWorld_below _ _ _
    have hs := hb1.size
    have HT1 := Lib.hid (var_below hb1 HT.out)
    clear hw
    go_wp2_with fail
    refine (hi.out _ HT1.out).mono ?_
    rintro e w2 ⟨rfl, hb2⟩
    have hb3 := hb1.trans (hb2.mono hs)
    clear hb1 hb2
    go_wp2_with fail
    go_ret2
    exact ⟨rfl, hb3⟩
set_option maxRecDepth 100000 in
set_option maxHeartbeats 800000 in
theorem impl_bad (s : ByteArray) (hlim : s.size ≤ 1048576) (w : World) (hv : ∀ v, Lib.atoiAll s.data.toList ≠ .ok v) (he : ErrVars w) :
    Calls Tryd.prog 48 #[.string s] w fun e w' => e = .returned (.tuple #[.int .i64 0, .bool false]) ∧ Below w.heap.size w w' := by
  have hif : Tryd.prog.isIface 44 = true := by kernel_rfl
  have hn1 := fun (W : World) (x : Value) => run_neq_iface_nil (P := Tryd.prog) W 44 hif 102 x
  have HE := Lib.hid he
  have HV := Lib.hid hv
  clear he hif hv
  go_enter Tryd.func48, Tryd.ntmps48
  go_wp2_with fail
  refine (atoi_bad s (by omega) HV.out _ HE.out).mono ?_
  rintro e w1 ⟨v, N, rfl, hb1⟩
  go_wp2_with fail
  go_ret2
  exact ⟨rfl, hb1⟩
theorem impl_TextNum (s : ByteArray) (hlim : s.size ≤ 1048576) (w : World) (he : ErrVars w) (htab : Lib.TabIs Tryd.prog w "internal/strconv.uint64pow10" .u64 Lib.pow10Tab) :
    Calls Tryd.prog 48 #[.string s] w fun e w' => e = .returned (.tuple #[.int .i64 (tnV s.data.toList), .bool (tnOk s.data.toList)]) ∧ Below w.heap.size w w' := by
  by_cases hok : ∃ v, Lib.atoiAll s.data.toList = .ok v
  · obtain ⟨v, hv⟩ := hok
    have hne : s.data.toList ≠ [] := by intro e0; rw [e0] at hv; cases hv
    cases hq : tnOk s.data.toList
    · rw [tnV_no hq]
      exact impl_ok s hlim w v hv false hq 0 rfl (str_ne (nt_no hne hq)) htab
    · rw [tnV_yes hq]
      have h1 := atoi_dg hq
      rw [hv] at h1
      injection h1 with h1
      have h2 := of_decide_eq_true hq
      exact impl_ok s hlim w v hv true hq _ (by rw [if_pos rfl, h1]) (by rw [h1, nt_yes h2.1 h2.2]; simp) htab
  · have hv : ∀ v, Lib.atoiAll s.data.toList ≠ .ok v := fun v e => hok ⟨v, e⟩
    have hq : tnOk s.data.toList = false := by
      cases hq : tnOk s.data.toList
      · rfl
      · exact absurd (atoi_dg hq) (hv _)
    rw [tnV_no hq, hq]
    exact impl_bad s hlim w hv he

/-! ### the model -/
theorem take_at (s : ByteArray) (k : Nat) (h : k < s.size) : s.data.toList.take (k + 1) = s.data.toList.take k ++ [s[k]] := by
  rw [List.take_succ_eq_append_getElem (by simpa using h)]; rfl
theorem mem_at (s : ByteArray) (k : Nat) (h : k < s.size) : s[k] ∈ s.data.toList := by
  simp [ByteArray.getElem_eq_getElem_data]
theorem list_len (s : ByteArray) : s.data.toList.length = s.size := by simp
def Dgs (l : List UInt8) : Prop := ∀ c ∈ l, isDg c
theorem Dgs.snoc {l : List UInt8} {c : UInt8} (h : Dgs l) (hc : isDg c) : Dgs (l ++ [c]) := by
  intro x hx
  rcases List.mem_append.1 hx with hx | hx
  · exact h x hx
  · rw [List.mem_singleton] at hx; subst hx; exact hc
theorem Dgs.lt {l : List UInt8} (h : Dgs l) (hl : l.length ≤ 10) : dv 0 l < 10000000000 := by
  have h1 := dv_lt l h 0
  have h2 : 10 ^ l.length ≤ 10 ^ 10 := Nat.pow_le_pow_right (by omega) hl
  omega

set_option maxRecDepth 100000 in
set_option maxHeartbeats 1600000 in
theorem spec_in (s : ByteArray) (w : World) (h1 : 1 ≤ s.size) (h10 : s.size ≤ 10) (b : Bool) (hb : tnOk s.data.toList = b) (r : Int) (hr0 : b = false → r = 0)
    (ht : Dgs s.data.toList → ((nt (dv 0 s.data.toList)).toList == s.toList) = b ∧ (!((nt (dv 0 s.data.toList)).toList == s.toList)) = (!b)) (hrv : b = true → r = (dv 0 s.data.toList : Int)) :
    Calls Tryd.prog 38 #[.string s] w fun e w' => e = .returned (.tuple #[.int .i64 r, .bool b]) ∧ Below w.heap.size w w' := by
  have HB := Lib.hid hb
  have HR0 := Lib.hid hr0
  have HT := Lib.hid ht
  have HRV := Lib.hid hrv
  clear hb hr0 ht hrv
  go_enter Tryd.func38, Tryd.ntmps38
  go_wp2
  go_loop [4, 5] (fun v i => ∃ k : Nat, k ≤ s.size ∧ i = .int .i64 k ∧ v = .int .i64 (dv 0 (s.data.toList.take k) : Nat) ∧ Dgs (s.data.toList.take k)) (fun _ i => s.size - (intOf i).toNat)
  case atStart => exact ⟨0, Nat.zero_le _, rfl, rfl, by intro c hc; simp at hc⟩
  case round =>
    obtain ⟨k, hk, rfl, rfl, hd⟩ := hrel
    have hlt32 := hd.lt (by rw [List.length_take, list_len]; omega)
    by_cases hlt : k < s.size
    · have hn0 : (0 : Int) ≤ (s[k].toNat : Int) := by omega
      have hn1 : (s[k].toNat : Int) < 256 := by have := s[k].toNat_lt; omega
      by_cases hdg : 48 ≤ s[k].toNat ∧ s[k].toNat ≤ 57
      · have HN := Lib.hid (show dv 0 (s.data.toList.take (k + 1)) = dv 0 (s.data.toList.take k) * 10 + (s[k].toNat - 48) by rw [take_at s k hlt, dv_snoc])
        have HD := Lib.hid (show Dgs (s.data.toList.take (k + 1)) by rw [take_at s k hlt]; exact hd.snoc hdg)
        obtain ⟨hg1, hg2⟩ := hdg
        have hg1' : (48 : Int) ≤ (s[k].toNat : Int) := by omega
        have hg2' : (s[k].toNat : Int) ≤ 57 := by omega
        generalize dv 0 (s.data.toList.take k) = V at *
        clear hd
        go_wp2
        exact ⟨⟨k + 1, by omega, by go_num, by rw [HN.out]; go_num, HD.out⟩, by simp [intOf]; omega⟩
      · have hbad := tn_bad (mem_at s k hlt) hdg
        rw [HB.out] at hbad
        have hrb : r = 0 := HR0.out hbad
        subst hbad
        subst hrb
        have hout : (s[k].toNat : Int) < 48 ∨ 57 < (s[k].toNat : Int) := by omega
        generalize dv 0 (s.data.toList.take k) = V at *
        clear hd hdg
        rcases hout with ho | ho
        all_goals
          go_wp2
          go_ret2
          exact ⟨rfl, Below.refl _ _⟩
    · obtain rfl : s.size = k := by omega
      have hfull : s.data.toList.take s.size = s.data.toList := List.take_of_length_le (by rw [list_len]; exact Nat.le_refl _)
      rw [hfull] at hd hlt32 ⊢
      obtain ⟨hs1, hs2⟩ := HT.out hd
      have hi := Lib.hid (spec_nt (dv 0 s.data.toList : Int))
      have HRV' := HRV
      clear hd hfull HT HB HRV
      generalize dv 0 s.data.toList = V at *
      generalize nt (V : Int) = T at *
      cases b
      · obtain rfl := HR0.out rfl
        simp only [Bool.not_false] at hs2
        go_wp2_with fail
        refine (hi.out _).mono ?_
        rintro e w1 ⟨rfl, hb1⟩
        go_wp2_with fail
        go_ret2
        exact ⟨rfl, hb1⟩
      · obtain rfl := HRV'.out rfl
        simp only [Bool.not_true] at hs2
        go_wp2_with fail
        refine (hi.out _).mono ?_
        rintro e w1 ⟨rfl, hb1⟩
        go_wp2_with fail
        go_ret2
        exact ⟨rfl, hb1⟩

set_option maxRecDepth 100000 in
theorem spec_TextNum (s : ByteArray) (w : World) (hlim : s.size ≤ 1048576) :
    Calls Tryd.prog 38 #[.string s] w fun e w' => e = .returned (.tuple #[.int .i64 (tnV s.data.toList), .bool (tnOk s.data.toList)]) ∧ Below w.heap.size w w' := by
  by_cases hl : s.size < 1 ∨ 10 < s.size
  · have hq : tnOk s.data.toList = false := tn_len (by rw [list_len]; exact hl)
    rw [tnV_no hq, hq]
    clear hq
    rcases hl with hl | hl <;>
    · go_enter Tryd.func38, Tryd.ntmps38
      go_wp2
      go_ret2
      exact ⟨rfl, Below.refl _ _⟩
  · have hne : s.data.toList ≠ [] := by
      intro e0
      have := list_len s
      rw [e0] at this
      simp at this
      omega
    refine spec_in s w (by omega) (by omega) _ rfl _ (fun h => tnV_no h) (fun hd => ?_) (fun h => tnV_yes h)
    cases hq : tnOk s.data.toList
    · exact str_ne (nt_no hne hq)
    · have h2 := of_decide_eq_true hq
      rw [nt_yes h2.1 h2.2]; simp

end Go.Proofs.YtmlodfceepokoaaDoor.Num
