/- Copies of a list of nodes; Swap in the program and in the model. -/
import Derived.Test.YtgejjdkgeoojmaaTrIx
import Derived.Test.YtgejjdkgeoojmaaTrCc
import Derived.RegionTactic
import Derived.WalkSpells
namespace Go.Proofs.Ytgejjdkgeoojmaa.Tr
open Go.RowKit Go.Proofs.Ytgejjdkgeoojmaa.Bytes Go.Proofs.Ytgejjdkgeoojmaa.Rows_ Go.Proofs.Ytgejjdkgeoojmaa.RowK Go.Proofs.Ytgejjdkgeoojmaa.DOk Go.Proofs.Ytgejjdkgeoojmaa.Opq
open Tree
set_option linter.unusedVariables false
attribute [local go_sem ↓] Go.wp_at_zero Go.wp_at_succ
theorem oneN (cs : List NodeD) : ∀ r ∈ cs.map nodeR, ∀ u ∈ r, u.oneCell' = true := by
  intro r hr u hu
  obtain ⟨z, hz, rfl⟩ := List.mem_map.1 hr
  simp [nodeR] at hu
  rcases hu with rfl | rfl | rfl <;> rfl
theorem own_zeroN (w : World) : OwnN (w.alloc (.cells #[] 90)) w.heap.size (some ⟨w.heap.size, 0, none⟩) 0 0 [] := own_zero w 90 3
/-- a row of nodes of the call's own with one node set -/
theorem OwnN.setRow {w : World} {base g n c : Nat} {cs : List NodeD} (h : OwnN w base (some ⟨g, 0, none⟩) n c cs) (i : Nat) (hi : i < n) (x : NodeD) :
    OwnN (((w.setCell ⟨g, i * 3, none⟩ (.int .i64 x.pane)).setCell ⟨g, i * 3 + 1, none⟩ (.bool x.down)).setCell ⟨g, i * 3 + 2, none⟩ (.int .i64 x.first)) base (some ⟨g, 0, none⟩) n c (cs.set i x) := by
  have hl := h.len
  have hi' : i < cs.length := by omega
  have e : cs = cs.take i ++ [cs[i]] ++ cs.drop (i + 1) := by rw [List.append_assoc, List.singleton_append, ← List.drop_eq_getElem_cons hi', List.take_append_drop]
  have e2 : cs.set i x = cs.take i ++ [x] ++ cs.drop (i + 1) := by rw [List.set_eq_take_append_cons_drop, if_pos hi']; simp
  unfold OwnN at h ⊢
  rw [e, List.map_append, List.map_append] at h
  rw [e2, List.map_append, List.map_append]
  exact rowN (.int .i64 x.pane) (.bool x.down) (.int .i64 x.first) (lenN _) i (by rw [List.length_map, List.length_take]; omega) h
set_option maxRecDepth 100000 in
set_option maxHeartbeats 3200000 in
theorem cloneN_any (A : Option Addr) (n c B : Nat) (t : List NodeD) (w : World) (hi : InN w B A n c t) (h0 : 0 < n) (hn : n ≤ 1000000) :
    Calls Try.prog 89 #[.slice A n c] w fun e w' => ∃ A' c', e = .returned (.slice A' n c') ∧ OwnN w' w.heap.size A' n c' t ∧ Below w.heap.size w w' := by
  have HI := Lib.hid hi
  obtain ⟨b, o, rfl, _⟩ := hi.rd (by rw [List.length_map, hi.len]; exact h0)
  clear hi
  have HB0 := Lib.hid ((Below.refl w.heap.size w).alloc (Nat.le_refl _) (.cells #[] 90))
  have HO0 := Lib.hid (own_zeroN w)
  have HRd := Lib.hid (show RdK 3 (w.alloc (.cells #[] 90)) B (some ⟨b, o, none⟩) (t.map nodeR) from (HI.out.below HB0.out).rd)
  have HLn := Lib.hid (show (t.map nodeR).length = n by rw [List.length_map]; exact HI.out.len)
  have qT : ∀ (W : World) (a : Addr), (binOp .eql 49 (.slice (some a) n c) (.slice none 0 0)).run Try.prog W = .ok (.bool false) W := fun W a => Lib.run_eql_slice_nil W _ _ (some a) n c 0 0 Try.underlying49
  go_enter Try.func89, Try.ntmps89
  go_wp2_with (at_builtin; refine append_rowsT Try.underlying49 infoN rfl (by decide) (by decide) rfl _ _ rfl rfl rfl HO0.out HRd.out (lenN t) (oneN t) (fun h => by cases h) HLn.out (by omega) (by omega) (by simp) ?_)
  intro A1 c1 w1 ho1 hb1 hg1
  have HO1 := Lib.hid (show OwnN w1 w.heap.size A1 n c1 t from ho1)
  have HB1 := Lib.hid (HB0.out.trans hb1)
  clear ho1 hb1 hg1
  go_wp2_with fail
  go_ret
  exact ⟨A1, c1, rfl, HO1.out, HB1.out⟩
set_option maxRecDepth 100000 in
set_option maxHeartbeats 3200000 in
theorem l13Copy_any (A : Option Addr) (n c B : Nat) (t : List NodeD) (w : World) (hi : InN w B A n c t) (hnil : A = none → n = 0 ∧ c = 0) (hn : n ≤ 1000000) :
    Calls Try.prog 85 #[.slice A n c] w fun e w' => ∃ A' c', e = .returned (.slice A' n c') ∧ OwnN w' w.heap.size A' n c' t ∧ Below w.heap.size w w' := by
  have HI := Lib.hid hi
  have HNil := Lib.hid hnil
  clear hi hnil
  have HB0 := Lib.hid ((Below.refl w.heap.size w).alloc (Nat.le_refl _) (.cells #[] 90))
  have HO0 := Lib.hid (own_zeroN w)
  have HRd := Lib.hid (show RdK 3 (w.alloc (.cells #[] 90)) B A (t.map nodeR) from (HI.out.below HB0.out).rd)
  have HLn := Lib.hid (show (t.map nodeR).length = n by rw [List.length_map]; exact HI.out.len)
  go_enter Try.func85, Try.ntmps85
  go_wp2_with (at_builtin; refine append_rowsT Try.underlying49 infoN rfl (by decide) (by decide) rfl _ _ rfl rfl rfl HO0.out HRd.out (lenN t) (oneN t) HNil.out HLn.out (by omega) (by omega) (by simp) ?_)
  intro A1 c1 w1 ho1 hb1 hg1
  have HO1 := Lib.hid (show OwnN w1 w.heap.size A1 n c1 t from ho1)
  have HB1 := Lib.hid (HB0.out.trans hb1)
  clear ho1 hb1 hg1
  go_wp2_with fail
  go_ret
  exact ⟨A1, c1, rfl, HO1.out, HB1.out⟩
end Go.Proofs.Ytgejjdkgeoojmaa.Tr

