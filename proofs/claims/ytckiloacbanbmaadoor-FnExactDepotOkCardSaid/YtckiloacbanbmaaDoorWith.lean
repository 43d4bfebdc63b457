/- The model's helper over links that puts a new one in its place. -/
import Derived.Test.YtckiloacbanbmaaDoorLinks
namespace Go.Proofs.YtckiloacbanbmaaDoor.DOk
open Go.RowKit Go.Proofs.YtckiloacbanbmaaDoor.Bytes Go.Proofs.YtckiloacbanbmaaDoor.Rows_
set_option linter.unusedVariables false

def gtB (a b : List UInt8) : Bool := !(Op.bytesLess a b || a == b)
def withStep (s : ByteArray) (id : Int) (acc : List LinkD × Bool) (x : LinkD) : List LinkD × Bool :=
  if (!acc.2 && gtB x.1.toList s.toList) = true then (acc.1 ++ [(s, id)] ++ [(x.1, x.2)], true) else (acc.1 ++ [(x.1, x.2)], acc.2)
def withGo (s : ByteArray) (id : Int) (ks : List LinkD) : List LinkD × Bool := ks.foldl (withStep s id) ([], false)
def withD (ks : List LinkD) (s : ByteArray) (id : Int) : List LinkD := if (withGo s id ks).2 = true then (withGo s id ks).1 else (withGo s id ks).1 ++ [(s, id)]
theorem withGo_snoc (s : ByteArray) (id : Int) (ks : List LinkD) (k : Nat) (h : k < ks.length) : withGo s id (ks.take (k + 1)) = withStep s id (withGo s id (ks.take k)) ks[k] := by
  rw [List.take_succ_eq_append_getElem h]; unfold withGo; rw [List.foldl_append]; rfl
theorem withGo_len (s : ByteArray) (id : Int) : ∀ (ks : List LinkD) (acc : List LinkD × Bool), (ks.foldl (withStep s id) acc).1.length + (if (ks.foldl (withStep s id) acc).2 = true then 0 else 1) = acc.1.length + (if acc.2 = true then 0 else 1) + ks.length
  | [], acc => by rw [List.foldl_nil, List.length_nil, Nat.add_zero]
  | x :: r, acc => by
    rw [List.foldl_cons, withGo_len s id r]
    unfold withStep
    obtain ⟨l, d⟩ := acc
    cases d <;> cases hg : gtB x.1.toList s.toList <;> simp <;> omega
theorem withGo_le (s : ByteArray) (id : Int) (ks : List LinkD) : (withGo s id ks).1.length ≤ ks.length + 1 := by
  have := withGo_len s id ks ([], false)
  unfold withGo
  simp at this
  omega
theorem withD_len (ks : List LinkD) (s : ByteArray) (id : Int) : (withD ks s id).length = ks.length + 1 := by
  have := withGo_len s id ks ([], false)
  unfold withD withGo
  simp at this
  split <;> rename_i h <;> simp [h] at this ⊢ <;> omega

set_option maxRecDepth 100000 in
set_option maxHeartbeats 3200000 in
theorem l02With_any (A : Option Addr) (n c : Nat) (ks : List LinkD) (s : ByteArray) (id : Int) (w : World) (hr : RdL w w.heap.size A ks) (hl : ks.length = n) (hn : n ≤ 1099511627776) :
    Calls Tryd.prog 46 #[.slice A n c, .string s, .int .i64 id] w fun e w' => ∃ A' c', e = .returned (.slice A' (n + 1) c') ∧ OwnL w' w.heap.size A' (n + 1) c' (withD ks s id) ∧ Below w.heap.size w w' := by
  have HL := Lib.hid hl
  have HR := Lib.hid hr
  clear hl hr
  go_enter Tryd.func46, Tryd.ntmps46
  go_wp2_with fail
  go_loopw [7, 8, 14] (fun v d i wr => ∃ k A' c', k ≤ n ∧ i = .int .i64 (k : Nat) ∧ d = .bool (withGo s id (ks.take k)).2 ∧ v = .slice A' (withGo s id (ks.take k)).1.length c' ∧ OwnL wr w.heap.size A' (withGo s id (ks.take k)).1.length c' (withGo s id (ks.take k)).1 ∧ Below w.heap.size w wr) (fun _ _ i _ => n - (intOf i).toNat)
  case atStart => exact ⟨0, _, _, Nat.zero_le _, rfl, rfl, rfl, own_empty w _ _, (Below.refl _ _).alloc (Nat.le_refl _) _⟩
  case round =>
    obtain ⟨k, A', c', hk, rfl, rfl, rfl, ho, hb⟩ := hrel
    have hz : w.heap.size ≤ wr.heap.size := hb.size
    have hle : (withGo s id (ks.take k)).1.length ≤ k + 1 := by have := withGo_le s id (ks.take k); have := take_le' ks k; omega
    by_cases hlt : k < n
    · have hlt' : k < ks.length := by rw [HL.out]; exact hlt
      have hS := withGo_snoc s id ks k hlt'
      obtain ⟨b, o, rfl, hB, hc0, hc1⟩ := (HR.out.below (Nat.le_refl _) hb).at_ hlt'
      have HB := Lib.hid hb
      clear hb
      generalize hL : withGo s id (ks.take k) = L at *
      obtain ⟨L, d⟩ := L
      simp only at ho hle
      cases d
      · cases h1 : Op.bytesLess ks[k].1.toList s.toList <;> cases h2 : (ks[k].1.toList == s.toList)
        · have HS := Lib.hid (show withGo s id (ks.take (k + 1)) = (L ++ [(s, id)] ++ [(ks[k].1, ks[k].2)], true) by rw [hS]; unfold withStep gtB; rw [h1, h2]; rfl)
          clear hS
          generalize ks[k].1 = nm at *
          generalize ks[k].2 = kid at *
          have ho1 := ho.alloc (.cells #[.string nm, .int .i64 kid] 58)
          go_wp2_with (at_builtin; refine append_link rfl _ _ rfl rfl (wr.heap.size + 1) rfl (by simp) ho1 (by omega) (by simp; omega) ?_)
          intro A2 c2 w2 ho2 hb2 hg2
          have HB2 := Lib.hid ((HB.out.alloc hz _).trans hb2)
          have hne : some wr.heap.size ≠ (Value.slice A' L.length c').ownBlock := fun e => by have := (ho.blk _ e.symm).2; omega
          have q0 : w2.cell? ⟨wr.heap.size, 0, none⟩ = some (.string nm) := hg2.cell (a := ⟨wr.heap.size, 0, none⟩) (by simp) hne
          have q1 : w2.cell? ⟨wr.heap.size, 1, none⟩ = some (.int .i64 kid) := hg2.cell (a := ⟨wr.heap.size, 1, none⟩) (by simp) hne
          have hz2 : w.heap.size ≤ w2.heap.size := HB2.out.size
          clear ho ho1 hb2 hg2 hne
          go_wp2_with (at_builtin; refine append_link rfl _ _ rfl rfl w2.heap.size rfl rfl ho2 (by omega) hz2 ?_)
          intro A3 c3 w3 ho3 hb3 hg3
          have HO := Lib.hid (show OwnL w3 w.heap.size A3 (withGo s id (ks.take (k + 1))).1.length c3 (withGo s id (ks.take (k + 1))).1 by rw [HS.out]; simp only [List.append_assoc, List.cons_append, List.nil_append, List.length_append, List.length_cons, List.length_nil]; exact ho3)
          have HN := Lib.hid (show L.length + 1 + 1 = (withGo s id (ks.take (k + 1))).1.length by rw [HS.out, List.length_append, List.length_append]; rfl)
          have HD := Lib.hid (show (true : Bool) = (withGo s id (ks.take (k + 1))).2 by rw [HS.out])
          have HB3 := Lib.hid (HB2.out.trans hb3)
          clear ho2 ho3 hb3 hg3 q0 q1
          go_wp2_with fail
          exact ⟨⟨k + 1, A3, c3, by omega, by go_num, by rw [HD.out], by rw [HN.out], HO.out, HB3.out⟩, by simp [intOf]; omega⟩
        all_goals
          have HS := Lib.hid (show withGo s id (ks.take (k + 1)) = (L ++ [(ks[k].1, ks[k].2)], false) by rw [hS]; unfold withStep gtB; rw [h1, h2]; rfl)
          clear hS
          generalize ks[k].1 = nm at *
          generalize ks[k].2 = kid at *
          have ho1 := ho.alloc (.cells #[.string nm, .int .i64 kid] 58)
          go_wp2_with (at_builtin; refine append_link rfl _ _ rfl rfl (wr.heap.size + 1) rfl (by simp) ho1 (by omega) (by simp; omega) ?_)
          intro A3 c3 w3 ho3 hb3 hg3
          have HO := Lib.hid (show OwnL w3 w.heap.size A3 (withGo s id (ks.take (k + 1))).1.length c3 (withGo s id (ks.take (k + 1))).1 by rw [HS.out, List.length_append]; exact ho3)
          have HN := Lib.hid (show L.length + 1 = (withGo s id (ks.take (k + 1))).1.length by rw [HS.out, List.length_append]; rfl)
          have HD := Lib.hid (show (false : Bool) = (withGo s id (ks.take (k + 1))).2 by rw [HS.out])
          have HB3 := Lib.hid ((HB.out.alloc hz _).trans hb3)
          clear ho ho1 ho3 hb3 hg3
          go_wp2_with fail
          exact ⟨⟨k + 1, A3, c3, by omega, by go_num, by rw [HD.out], by rw [HN.out], HO.out, HB3.out⟩, by simp [intOf]; omega⟩
      · have HS := Lib.hid (show withGo s id (ks.take (k + 1)) = (L ++ [(ks[k].1, ks[k].2)], true) by rw [hS]; unfold withStep; rfl)
        clear hS
        generalize ks[k].1 = nm at *
        generalize ks[k].2 = kid at *
        have ho1 := ho.alloc (.cells #[.string nm, .int .i64 kid] 58)
        go_wp2_with (at_builtin; refine append_link rfl _ _ rfl rfl (wr.heap.size + 1) rfl (by simp) ho1 (by omega) (by simp; omega) ?_)
        intro A3 c3 w3 ho3 hb3 hg3
        have HO := Lib.hid (show OwnL w3 w.heap.size A3 (withGo s id (ks.take (k + 1))).1.length c3 (withGo s id (ks.take (k + 1))).1 by rw [HS.out, List.length_append]; exact ho3)
        have HN := Lib.hid (show L.length + 1 = (withGo s id (ks.take (k + 1))).1.length by rw [HS.out, List.length_append]; rfl)
        have HD := Lib.hid (show (true : Bool) = (withGo s id (ks.take (k + 1))).2 by rw [HS.out])
        have HB3 := Lib.hid ((HB.out.alloc hz _).trans hb3)
        clear ho ho1 ho3 hb3 hg3
        go_wp2_with fail
        exact ⟨⟨k + 1, A3, c3, by omega, by go_num, by rw [HD.out], by rw [HN.out], HO.out, HB3.out⟩, by simp [intOf]; omega⟩
    · obtain rfl : n = k := by omega
      have e : ks.take n = ks := List.take_of_length_le (by rw [HL.out]; exact Nat.le_refl _)
      have hW := withD_len ks s id
      rw [HL.out] at hW
      have hWD : withD ks s id = if (withGo s id ks).2 = true then (withGo s id ks).1 else (withGo s id ks).1 ++ [(s, id)] := rfl
      rw [e] at ho hle ⊢
      generalize hL : withGo s id ks = L at *
      obtain ⟨L, d⟩ := L
      simp only at ho hle
      have HB := Lib.hid hb
      clear hb
      cases d
      · have HW := Lib.hid (show withD ks s id = L ++ [(s, id)] from hWD)
        have hlen : L.length + 1 = n + 1 := by rw [HW.out, List.length_append] at hW; simpa using hW
        have HN := Lib.hid hlen
        clear hWD hL hW hlen
        go_wp2_with (at_builtin; refine append_link rfl _ _ rfl rfl wr.heap.size rfl rfl ho (by omega) hz ?_)
        intro A3 c3 w3 ho3 hb3 hg3
        have HO := Lib.hid (show OwnL w3 w.heap.size A3 (n + 1) c3 (withD ks s id) by rw [HW.out, ← HN.out]; exact ho3)
        have HB3 := Lib.hid (HB.out.trans hb3)
        clear ho ho3 hb3 hg3
        go_wp2_with fail
        go_ret
        exact ⟨A3, c3, Eq.trans rfl (congrArg (fun m => Ending.returned (Value.slice A3 m c3)) HN.out), HO.out, HB3.out⟩
      · have HW := Lib.hid (show withD ks s id = L from hWD)
        have HN := Lib.hid (show L.length = n + 1 by rw [HW.out] at hW; exact hW)
        have HO := Lib.hid (show OwnL wr w.heap.size A' (n + 1) c' (withD ks s id) by rw [HW.out, ← HN.out]; exact ho)
        clear hWD hL hW ho
        go_wp2_with fail
        go_ret
        exact ⟨A', c', Eq.trans rfl (congrArg (fun m => Ending.returned (Value.slice A' m c')) HN.out), HO.out, HB.out⟩
end Go.Proofs.YtckiloacbanbmaaDoor.DOk
