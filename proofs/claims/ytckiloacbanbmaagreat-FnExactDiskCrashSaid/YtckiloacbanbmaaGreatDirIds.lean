/- The ids that a directory links, gathered from its map into a set of the call's own, in the program. -/
import Derived.Test.YtckiloacbanbmaaGreatLinkList
import Derived.Test.YtckiloacbanbmaaGreatImplIds
import Derived.Test.YtckiloacbanbmaaGreatKeep
namespace Go.Proofs.YtckiloacbanbmaaGreat.DOk
open Go.RowKit Go.Proofs.YtckiloacbanbmaaGreat.Bytes Go.Proofs.YtckiloacbanbmaaGreat.Rows_ Go.Maps Go.WideMaps
set_option linter.unusedVariables false

set_option maxRecDepth 100000 in
set_option maxHeartbeats 3200000 in
theorem ids_any (b nn : Nat) (D : Dat) (l : List LinkD) (w : World) (ho : OwnM w b nn D) (hS : Same l D) (hV : Val l D) (hR : Ris l) (hw : ∀ x ∈ l, (Lit.int .i64 x.2).wf = true) (hn : size D ≤ 2000000) :
    Calls Tryz.prog 89 #[.map (some b)] w fun e w' => ∃ n' ids, e = .returned (.map (some w.heap.size)) ∧ OwnB w' w.heap.size n' (idMap ids) ∧ (∀ z, z ∈ ids ↔ z ∈ l.map (·.2)) ∧ Below w.heap.size w w' := by
  have hmm := @run_makeMap Tryz.prog
  have HS := Lib.hid hS
  have HV := Lib.hid hV
  have HR := Lib.hid hR
  have HW := Lib.hid hw
  have hblt := ho.lt
  have hom := World.ownsMap_made w Tryz.prog 3 (plainElem (H := Unit) Tryz.prog 4)
  have hb0 : Below w.heap.size w (w.alloc (.map #[] 0)) := (Below.refl _ _).alloc (Nat.le_refl _) _
  have HOM := Lib.hid (show OwnB (w.alloc (.map #[] 0)) w.heap.size 0 (idMap []) from hom)
  have HB0 := Lib.hid hb0
  have hm1 : OwnM (w.alloc (.map #[] 0)) b nn D := ho.alloc _
  have hv := Lib.hid (plainElem_bool (H := Unit) Tryz.underlying4 true)
  have e1 : (w.alloc (.map #[] 0)).heap.size = w.heap.size + 1 := by simp
  clear hS hV hR hw hom hb0
  go_enter Tryz.func89, Tryz.ntmps89
  go_wp2_with (first
    | (at_range; refine wpList_range_own _ rfl _ 74 rfl 9 3 skey Tryz.underlying74 _ b nn D rfl hm1 ?_; intro w2 hrg2 hg2 hs2))
  have hs2' : w.heap.size ≤ w2.heap.size := by omega
  have hr0 : w.heap.size < (w.alloc (.map #[] 0)).heap.size := by omega
  clear hs2 e1
  generalize hrr : (w.alloc (.map #[] 0)).heap.size = r at *
  clear hrr
  go_frame
  go_loopw [5] (fun _ wr => ∃ (left : Lit → Bool) (cnt : Nat) (acc : List LinkD) (n2 : Nat), wr.ranges Tryz.prog 9 (plainElem Tryz.prog 3) b r nn D left cnt ∧ OwnB wr w.heap.size n2 (idMap (acc.map (·.2))) ∧ Coll l D left acc ∧ n2 + cnt ≤ size D ∧ Below w.heap.size w wr)
    (fun _ wr => wr.rangeLeft b r)
  case atStart =>
    exact ⟨_, _, [], 0, hrg2, World.ownsMap.kept HOM.out hg2 (by simp), coll_start l D HS.out, by omega, HB0.out.grown hg2 (by simp) (fun k h => by cases h)⟩
  case round =>
    obtain ⟨left, cnt, acc, n2, hrg, hown, hC, hcs, hb⟩ := hrel
    have HC := Lib.hid hC
    have HB := Lib.hid hb
    have hbs := hb.size
    have HRG := Lib.hid hrg
    have HOWN := Lib.hid hown
    clear hC hb ho hm1 hg2 hrg2 hs2' hown hrg
    go_wp2_with (first
      | (at_next; refine wpList_next_ranges _ rfl _ rfl 9 skey (plainElem Tryz.prog 3) Value.string (Value.int .i64) (fun key kl hkey => by obtain ⟨s, h, _⟩ := string_of_keyOf Tryz.underlying9 hkey; exact ⟨s, h⟩) (fun v y hv => by obtain ⟨a, h, _⟩ := plainElem_int_inv Tryz.underlying3 hv; exact ⟨a, h⟩) b r nn D left cnt rfl HRG.out ?_ ?_))
    · intro hc0 hl0
      have HP := Lib.hid (coll_end HC.out HR.out hl0)
      clear hl0 hc0
      go_wp2_with fail
      go_ret
      exact ⟨n2, acc.map (·.2), rfl, HOWN.out, fun z => (HP.out.map (·.2)).mem_iff, HB.out⟩
    · intro x c kl yd yp w3 cnt1 hkey hlx hvv hat hrg1 hlt hg3 hs3 hen
      obtain ⟨x', ex, rfl, _⟩ := string_of_keyOf Tryz.underlying9 hkey
      cases ex
      obtain ⟨c', ec, ey, _⟩ := plainElem_int_inv Tryz.underlying3 hvv
      cases ec
      cases ey
      have hin := coll_in HC.out HS.out HV.out hlx hat
      have hx := Lib.hid (keyOf_int_mk (k := 3) Tryz.underlying3 (HW.out _ hin))
      have HST := Lib.hid (coll_step HC.out HS.out HV.out HR.out hlx hat)
      have hown3 : OwnB w3 w.heap.size n2 (idMap (acc.map (·.2))) := World.ownsMap.kept HOWN.out hg3 (fun e => by injection e with e; omega)
      have HB3 := Lib.hid (HB.out.grown hg3 hbs (fun k h => by injection h with h; omega))
      have HRG1 := Lib.hid hrg1
      have HLT := Lib.hid hlt
      clear hat hvv hkey hlx hrg1 hg3 hin hlt
      go_wp2_with (at_mapUpdate; refine wpList_mapUpdate_own _ rfl _ _ _ 122 rfl 3 4 ikey Tryz.underlying122 _ w.heap.size n2 _ rfl hown3 (by unfold maxLen; omega) _ _ _ rfl rfl hx.out _ [] hv.out ?_)
      intro w4 hown4 hg4
      have HRG4 := Lib.hid (HRG1.out.kept hg4 (fun e => by injection e with e; omega) (fun e => by injection e with e; omega))
      have HO4 := Lib.hid (show OwnB w4 w.heap.size (n2 + 1) (idMap ((acc ++ [(x, c)]).map (·.2))) by rw [List.map_append, List.map_cons, List.map_nil, idMap_snoc]; exact hown4)
      have HB4 := Lib.hid (HB3.out.grown hg4 (by have := HB3.out.size; omega) (fun k h => by injection h with h; omega))
      clear hown4 hg4 hown3
      go_wp2_with fail
      exact ⟨⟨_, cnt1, acc ++ [(x, c)], n2 + 1, HRG4.out, HO4.out, HST.out, by have := HLT.out; omega, HB4.out⟩, by rw [HRG4.out.left_eq, HRG.out.left_eq]; exact HLT.out⟩
end Go.Proofs.YtckiloacbanbmaaGreat.DOk
