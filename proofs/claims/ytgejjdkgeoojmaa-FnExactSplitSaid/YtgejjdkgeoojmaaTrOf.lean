/- impl.treeOf, TreeOk and Leaves at every list of nodes. -/
import Derived.Test.YtgejjdkgeoojmaaTrRead
import Derived.Test.YtgejjdkgeoojmaaTrPn
import Derived.Test.YtgejjdkgeoojmaaTrSet
import Derived.Test.YtgejjdkgeoojmaaTrP
namespace Go.Proofs.Ytgejjdkgeoojmaa.Tr
open Go.RowKit Go.Proofs.Ytgejjdkgeoojmaa.Bytes Go.Proofs.Ytgejjdkgeoojmaa.Rows_ Go.Proofs.Ytgejjdkgeoojmaa.RowK Go.Proofs.Ytgejjdkgeoojmaa.DOk Go.Proofs.Ytgejjdkgeoojmaa.Opq
open Tree
set_option linter.unusedVariables false
/-- a list of nodes that came in -/
structure InN (w : World) (B : Nat) (A : Option Addr) (n c : Nat) (t : List NodeD) : Prop where
  rd : RdN w B A t
  len : t.length = n
  cap : n ≤ c
  max : c ≤ maxLen
  base : B ≤ w.heap.size
theorem InN.below {w w' : World} {B : Nat} {A : Option Addr} {n c : Nat} {t : List NodeD} (h : InN w B A n c t) (hb : Below w.heap.size w w') : InN w' B A n c t :=
  ⟨h.rd.below (Nat.le_refl _) (hb.mono h.base), h.len, h.cap, h.max, Nat.le_trans h.base hb.size⟩
theorem OwnN.in_ {w : World} {base : Nat} {A : Option Addr} {n c : Nat} {cs : List NodeD} (h : OwnN w base A n c cs) : InN w w.heap.size A n c cs :=
  ⟨h.rd, h.len, h.cap, by
    rcases h.2 with ⟨hv, h0⟩ | ⟨g, cap, cur, hv, _, _, hnc, hm, _⟩
    · injection hv with e1 e2 e3; unfold maxLen; omega
    · injection hv with e1 e2 e3; omega, Nat.le_refl _⟩
theorem panes_wf (t : List NodeD) : ∀ z ∈ panesD t, (Lit.int .i64 z).wf = true := by
  intro z hz
  unfold panesD at hz
  obtain ⟨n, hn, rfl⟩ := List.mem_map.1 hz
  have h := (leafB_form (List.mem_filter.1 hn).2).2
  exact WalkArith.wf_i64 (by omega)
/-- what treeOf leaves -/
def TreeP (w : World) (o : Option Tree) (e : Ending) (w' : World) : Prop :=
  Below w.heap.size w w' ∧ match o with
  | none => e = .returned (.tuple #[.nilIface, .bool false])
  | some x => ∃ v, e = .returned (.tuple #[v, .bool true]) ∧ TreeAt w' x w.heap.size w'.heap.size v
theorem TreeP.no {w w' : World} {o : Option Tree} (ho : o = none) (hb : Below w.heap.size w w') : TreeP w o (.returned (.tuple #[.nilIface, .bool false])) w' := by subst ho; exact ⟨hb, rfl⟩
theorem TreeP.yes {w w' : World} {o : Option Tree} {x : Tree} {v : Value} (ho : o = some x) (hb : Below w.heap.size w w') (hv : TreeAt w' x w.heap.size w'.heap.size v) : TreeP w o (.returned (.tuple #[v, .bool true])) w' := by subst ho; exact ⟨hb, v, rfl, hv⟩
set_option maxRecDepth 100000 in
set_option maxHeartbeats 3200000 in
theorem treeOf_any (A : Option Addr) (n c B : Nat) (t : List NodeD) (w : World) (hi : InN w B A n c t) :
    Calls Try.prog 77 #[.slice A n c] w (TreeP w (treeD t)) := by
  have HI := Lib.hid hi
  have hcm := hi.max
  have hnc := hi.cap
  unfold maxLen at hcm
  have HTD := Lib.hid (show treeD t = _ from rfl : treeD t = if 31 < t.length then none else match readT t.length t with
    | some (x, []) => if (panesD t).Nodup then some x else none
    | _ => none)
  rw [hi.len] at HTD
  clear hi
  by_cases hn : 31 < n
  · have HR := Lib.hid (show treeD t = none by rw [HTD.out, if_pos hn])
    go_enter Try.func77, Try.ntmps77
    go_wp2_with fail
    exact bodyPost_ret (v := .tuple #[.nilIface, .bool false]) (by simp [results, Try.results77, go_sem]) rfl (TreeP.no HR.out (Below.refl _ _))
  · have HT2 := Lib.hid (show treeD t = match readT n t with
      | some (x, []) => if (panesD t).Nodup then some x else none
      | _ => none by rw [HTD.out, if_neg hn])
    clear HTD
    have hn' : n ≤ 31 := by omega
    go_enter Try.func77, Try.ntmps77
    go_wp2_with fail
    refine (readPart_any n A n c B t _ HI.out.rd HI.out.len (Nat.le_refl _) HI.out.cap HI.out.max HI.out.base).mono ?_
    rintro e v1 ⟨hb1, he⟩
    have HB1 := Lib.hid hb1
    clear hb1
    rcases hr : readT n t with _ | ⟨x, _ | ⟨y, r⟩⟩ <;> rw [hr] at he <;> have HRD := Lib.hid hr <;> clear hr
    · have he' : e = .returned (.tuple #[.nilIface, .slice none 0 0, .bool false]) := he
      subst he'
      clear he
      have HR := Lib.hid (show treeD t = none by rw [HT2.out, HRD.out])
      go_wp2_with fail
      exact bodyPost_ret (v := .tuple #[.nilIface, .bool false]) (by simp [results, Try.results77, go_sem]) rfl (TreeP.no HR.out HB1.out)
    · obtain ⟨v, A1, c1, he', ha, hr1, hc1, hc1m⟩ := he
      subst he'
      have HA := Lib.hid ha
      clear ha hr1
      have HND := Lib.hid (show treeD t = if (panesD t).Nodup then some x else none by rw [HT2.out, HRD.out])
      go_wp2_with fail
      refine (panesOf_any A n c B t _ (HI.out.below HB1.out).rd (HI.out.below HB1.out).len (by omega) (HI.out.below HB1.out).base).mono ?_
      rintro e v2 ⟨A2, n2, c2, rfl, ho2, hb2⟩
      have HO2 := Lib.hid ho2
      have HB2 := Lib.hid hb2
      clear ho2 hb2
      have hn2 : n2 ≤ 31 := by have h1 := HO2.out.len; have h2 := panesD_le t; have h3 := HI.out.len; omega
      go_wp2_with fail
      refine (areDistinct_any A2 n2 c2 v2.heap.size (panesD t) _ HO2.out.rd HO2.out.len (by omega) (panes_wf t) (Nat.le_refl _)).mono ?_
      rintro e v3 ⟨rfl, hb3⟩
      have HB3 := Lib.hid (HB2.out.trans (hb3.mono HB2.out.size))
      clear hb3
      by_cases hnd : (panesD t).Nodup
      · have hdd : decide (panesD t).Nodup = true := decide_eq_true hnd
        have HR := Lib.hid (show treeD t = some x by rw [HND.out, if_pos hnd])
        rw [hdd]
        clear hdd hnd
        go_wp2_with fail
        exact bodyPost_ret (v := .tuple #[v, .bool true]) (by simp [results, Try.results77, go_sem]) rfl (TreeP.yes HR.out (HB1.out.trans (HB3.out.mono HB1.out.size)) ((TreeAt.below HB3.out HA.out (Nat.le_refl _)).mono (Nat.le_refl _) HB3.out.size))
      · have hdd : decide (panesD t).Nodup = false := decide_eq_false hnd
        have HR := Lib.hid (show treeD t = none by rw [HND.out, if_neg hnd])
        rw [hdd]
        clear hdd hnd
        go_wp2_with fail
        exact bodyPost_ret (v := .tuple #[.nilIface, .bool false]) (by simp [results, Try.results77, go_sem]) rfl (TreeP.no HR.out (HB1.out.trans (HB3.out.mono HB1.out.size)))
    · obtain ⟨v, A1, c1, he', ha, hr1, hc1, hc1m⟩ := he
      subst he'
      have HR := Lib.hid (show treeD t = none by rw [HT2.out, HRD.out])
      have hpos : (0 : Int) < ((y :: r).length : Int) := by simp
      have hle : (y :: r).length ≤ 9223372036854775807 := by unfold maxLen at hc1m; omega
      generalize (y :: r).length = L at *
      clear ha hr1 HRD HT2
      go_wp2_with fail
      exact bodyPost_ret (v := .tuple #[.nilIface, .bool false]) (by simp [results, Try.results77, go_sem]) rfl (TreeP.no HR.out HB1.out)
def okT (t : List NodeD) : Bool := (treeD t).isSome
set_option maxRecDepth 100000 in
set_option maxHeartbeats 800000 in
theorem impl_TreeOk_any (A : Option Addr) (n c B : Nat) (t : List NodeD) (w : World) (hi : InN w B A n c t) :
    Calls Try.prog 34 #[.slice A n c] w fun e w' => e = .returned (.bool (okT t)) ∧ Below w.heap.size w w' := by
  have HI := Lib.hid hi
  clear hi
  go_enter Try.func34, Try.ntmps34
  go_wp2_with fail
  refine (treeOf_any A n c B t _ HI.out).mono ?_
  rintro e v1 ⟨hb1, he⟩
  have HB1 := Lib.hid hb1
  clear hb1
  rcases ht : treeD t with _ | x <;> rw [ht] at he <;> have HT := Lib.hid ht <;> clear ht
  · have he' : e = .returned (.tuple #[.nilIface, .bool false]) := he
    subst he'
    clear he
    go_wp2_with fail
    go_ret
    exact ⟨ret_bool (by unfold okT; rw [HT.out]; rfl), HB1.out⟩
  · obtain ⟨v, he', ha⟩ := he
    subst he'
    go_wp2_with fail
    go_ret
    exact ⟨ret_bool (by unfold okT; rw [HT.out]; rfl), HB1.out⟩
def leavesD (t : List NodeD) : List Int := if okT t = true then panesD t else []
theorem leavesD_len (t : List NodeD) : (leavesD t).length ≤ 31 := by
  unfold leavesD
  split
  · rename_i h
    unfold okT at h
    obtain ⟨x, hx⟩ := Option.isSome_iff_exists.1 h
    have := (treeD_len hx).1
    have := panesD_le t
    omega
  · simp
set_option maxRecDepth 100000 in
set_option maxHeartbeats 800000 in
theorem impl_Leaves_any (A : Option Addr) (n c B : Nat) (t : List NodeD) (w : World) (hi : InN w B A n c t) :
    Calls Try.prog 37 #[.slice A n c] w fun e w' => ∃ A' n' c', e = .returned (.slice A' n' c') ∧ OwnI w' w.heap.size A' n' c' (leavesD t) ∧ Below w.heap.size w w' := by
  have HI := Lib.hid hi
  clear hi
  cases ho : okT t <;> have HO := Lib.hid ho <;> clear ho
  · have HR := Lib.hid (show leavesD t = [] by unfold leavesD; rw [if_neg (by rw [HO.out]; simp)])
    go_enter Try.func37, Try.ntmps37
    go_wp2_with fail
    refine (impl_TreeOk_any A n c B t _ HI.out).mono ?_
    rintro e v1 ⟨rfl, hb1⟩
    rw [HO.out]
    have HB1 := Lib.hid hb1
    clear hb1
    go_wp2_with fail
    go_ret
    exact ⟨none, 0, 0, rfl, by rw [HR.out]; exact World.ownsRow_nil _ _ _ _, HB1.out⟩
  · have HR := Lib.hid (show leavesD t = panesD t by unfold leavesD; rw [if_pos HO.out])
    have hn31 : n ≤ 31 := by
      have h1 := HO.out
      unfold okT at h1
      obtain ⟨x, hx⟩ := Option.isSome_iff_exists.1 h1
      have h2 := (treeD_len hx).1
      have h3 := HI.out.len
      omega
    go_enter Try.func37, Try.ntmps37
    go_wp2_with fail
    refine (impl_TreeOk_any A n c B t _ HI.out).mono ?_
    rintro e v1 ⟨rfl, hb1⟩
    rw [HO.out]
    have HB1 := Lib.hid hb1
    clear hb1
    go_wp2_with fail
    refine (panesOf_any A n c B t _ (HI.out.below HB1.out).rd (HI.out.below HB1.out).len (by omega) (HI.out.below HB1.out).base).mono ?_
    rintro e v2 ⟨A2, n2, c2, rfl, ho2, hb2⟩
    have HO2 := Lib.hid ho2
    have HB2 := Lib.hid hb2
    clear ho2 hb2
    go_wp2_with fail
    go_ret
    exact ⟨A2, n2, c2, rfl, by rw [HR.out]; exact HO2.out.more HB1.out.size, HB1.out.trans (HB2.out.mono HB1.out.size)⟩
end Go.Proofs.Ytgejjdkgeoojmaa.Tr

