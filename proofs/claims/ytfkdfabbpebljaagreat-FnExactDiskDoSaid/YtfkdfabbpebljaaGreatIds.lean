/- The model's helper that lists the ids of links and creating turns. -/
import Derived.Test.YtfkdfabbpebljaaGreatKitA
namespace Go.Proofs.YtfkdfabbpebljaaGreat.DOk
open Go.RowKit Go.Proofs.YtfkdfabbpebljaaGreat.Bytes Go.Proofs.YtfkdfabbpebljaaGreat.Rows_
set_option linter.unusedVariables false

def tids (ts : List TurnD) : List Int := (ts.filter (fun t => t.kind == 1)).map (·.id)
def idsD (ks : List LinkD) (ts : List TurnD) : List Int := ks.map (·.2) ++ tids ts
theorem kids_snoc (ks : List LinkD) (k : Nat) (h : k < ks.length) : (ks.take (k + 1)).map (·.2) = (ks.take k).map (·.2) ++ [ks[k].2] := by
  rw [List.take_succ_eq_append_getElem h, List.map_append]; rfl
theorem tids_snoc (ts : List TurnD) (k : Nat) (h : k < ts.length) : tids (ts.take (k + 1)) = if (ts[k].kind == 1) = true then tids (ts.take k) ++ [ts[k].id] else tids (ts.take k) := by
  rw [List.take_succ_eq_append_getElem h]
  unfold tids
  rw [List.filter_append, List.map_append]
  cases hc : (ts[k].kind == 1) <;> simp [hc]
theorem tids_le (ts : List TurnD) : (tids ts).length ≤ ts.length := by unfold tids; rw [List.length_map]; exact List.length_filter_le _ _

set_option maxRecDepth 100000 in
set_option maxHeartbeats 3200000 in
theorem l02Ids_any (room fuse next : Int) (F : Option Addr) (nf cf : Nat) (K : Option Addr) (nk ck : Nat) (T : Option Addr) (nt ct : Nat) (ks : List LinkD) (ts : List TurnD) (w : World)
    (hk : RdL w w.heap.size K ks) (hkl : ks.length = nk) (hkn : nk ≤ 1000000) (ht : RdT w w.heap.size T ts) (htl : ts.length = nt) (htn : nt ≤ 1000000) :
    Calls Tryz.prog 53 #[.agg #[.int .i64 room, .int .i64 fuse, .int .i64 next, .slice F nf cf, .slice K nk ck, .slice T nt ct]] w fun e w' => ∃ A' c', e = .returned (.slice A' (idsD ks ts).length c') ∧ OwnI w' w.heap.size A' (idsD ks ts).length c' (idsD ks ts) ∧ Below w.heap.size w w' := by
  have HKL := Lib.hid hkl
  have HK := Lib.hid hk
  have HTL := Lib.hid htl
  have HT := Lib.hid ht
  clear hk hkl ht htl
  have hb0 := Lib.hid ((Below.refl w.heap.size w).alloc (Nat.le_refl _) (.cells #[.int .i64 room, .int .i64 fuse, .int .i64 next, .slice F nf cf, .slice K nk ck, .slice T nt ct] 36))
  have p5 := Lib.hid (show (w.alloc (.cells #[.int .i64 room, .int .i64 fuse, .int .i64 next, .slice F nf cf, .slice K nk ck, .slice T nt ct] 36)).cell? ⟨w.heap.size, 5, none⟩ = some (.slice T nt ct) by rw [World.cell?_alloc_at _ _ _ _ rfl]; rfl)
  have he := Lib.hid (own_empty (w.alloc (.cells #[.int .i64 room, .int .i64 fuse, .int .i64 next, .slice F nf cf, .slice K nk ck, .slice T nt ct] 36)) 3 1)
  have hbe := Lib.hid ((Below.refl (w.heap.size + 1) (w.alloc (.cells #[.int .i64 room, .int .i64 fuse, .int .i64 next, .slice F nf cf, .slice K nk ck, .slice T nt ct] 36))).alloc (by simp) (.cells #[] 3))
  generalize hW0 : w.alloc (.cells #[.int .i64 room, .int .i64 fuse, .int .i64 next, .slice F nf cf, .slice K nk ck, .slice T nt ct] 36) = W0 at hb0 p5 he hbe
  have HW0 := Lib.hid hW0
  clear hW0
  go_enter Tryz.func53, Tryz.ntmps53
  go_wp2_with fail
  go_loopw [3, 12] (fun v i wr => ∃ k A' c', k ≤ nk ∧ i = .int .i64 (k : Nat) ∧ v = .slice A' k c' ∧ OwnI wr (w.heap.size + 1) A' k c' ((ks.take k).map (·.2)) ∧ Below (w.heap.size + 1) W0 wr) (fun _ i _ => nk - (intOf i).toNat)
  case atStart =>
    rw [HW0.out]
    refine ⟨0, _, _, Nat.zero_le _, rfl, rfl, ?_, hbe.out⟩
    have := he.out
    rw [← HW0.out] at this ⊢
    simpa [OwnI, iv] using this
  case round =>
    obtain ⟨k, A', c', hk, rfl, rfl, ho, hb⟩ := hrel
    have hz : w.heap.size + 1 ≤ wr.heap.size := by have := hb.size; rw [← HW0.out] at this; simpa using this
    by_cases hlt : k < nk
    · have hlt' : k < ks.length := by rw [HKL.out]; exact hlt
      obtain ⟨b, o, rfl, hB, hc0, hc1⟩ := (HK.out.below (Nat.le_refl _) (hb0.out.trans (hb.mono (by omega)))).at_ hlt'
      have HS := Lib.hid (kids_snoc ks k hlt')
      have HB := Lib.hid hb
      clear hb
      generalize ks[k].1 = nm at *
      generalize ks[k].2 = kid at *
      have ho1 := ho.alloc (.cells #[.string nm, .int .i64 kid] 86)
      go_wp2_with (at_builtin; refine append_int rfl _ _ rfl rfl (wr.heap.size + 1) rfl (by simp) ho1 (by omega) (by simp; omega) ?_)
      intro A2 c2 w2 ho2 hb2 hg2
      have HO := Lib.hid (show OwnI w2 (w.heap.size + 1) A2 (k + 1) c2 ((ks.take (k + 1)).map (·.2)) by rw [HS.out, List.map_take]; exact ho2)
      have HB2 := Lib.hid ((HB.out.alloc hz _).trans hb2)
      clear ho ho1 ho2 hb2 hg2
      go_wp2_with fail
      exact ⟨⟨k + 1, A2, c2, by omega, by go_num, rfl, HO.out, HB2.out⟩, by simp [intOf]; omega⟩
    · obtain rfl : nk = k := by omega
      have e : ks.take nk = ks := List.take_of_length_le (by rw [HKL.out]; exact Nat.le_refl _)
      rw [e] at ho
      have q5 : wr.cell? ⟨w.heap.size, 5, none⟩ = some (.slice T nt ct) := (hb.cell (p := ⟨w.heap.size, 5, none⟩) (by show w.heap.size < w.heap.size + 1; omega)).trans p5.out
      have HO := Lib.hid (show OwnI wr (w.heap.size + 1) A' (ks.map (·.2) ++ tids (ts.take 0)).length c' (ks.map (·.2) ++ tids (ts.take 0)) by
        have e0 : tids (ts.take 0) = [] := rfl
        rw [e0, List.append_nil, List.length_map, HKL.out]; exact ho)
      have HLn := Lib.hid (show nk = (ks.map (·.2) ++ tids (ts.take 0)).length by
        have e0 : tids (ts.take 0) = [] := rfl
        rw [e0, List.append_nil, List.length_map, HKL.out])
      have HB := Lib.hid hb
      clear ho hb e
      obtain ⟨wo, hwo⟩ : ∃ wo : World, wo = wr := ⟨_, rfl⟩
      subst hwo
      go_wp2_with fail
      go_loopw [3, 25] (fun v i wr => ∃ k A' c', k ≤ nt ∧ i = .int .i64 (k : Nat) ∧ v = .slice A' (ks.map (·.2) ++ tids (ts.take k)).length c' ∧ OwnI wr (w.heap.size + 1) A' (ks.map (·.2) ++ tids (ts.take k)).length c' (ks.map (·.2) ++ tids (ts.take k)) ∧ Below (w.heap.size + 1) W0 wr) (fun _ i _ => nt - (intOf i).toNat)
      case atStart => exact ⟨0, _, _, Nat.zero_le _, rfl, by rw [← HLn.out], HO.out, HB.out⟩
      case round =>
        clear HO HB q5 hlt hk
        obtain ⟨k, A', c', hk, rfl, rfl, ho, hb⟩ := hrel
        have hz : w.heap.size + 1 ≤ wr.heap.size := by have := hb.size; rw [← HW0.out] at this; simpa using this
        have hle : (ks.map (·.2) ++ tids (ts.take k)).length ≤ nk + k := by
          have h1 := tids_le (ts.take k); have h2 := take_le' ts k
          rw [List.length_append, List.length_map, HKL.out]; omega
        by_cases hlt : k < nt
        · have hlt' : k < ts.length := by rw [HTL.out]; exact hlt
          obtain ⟨b, o, rfl, hB, hc0, hc1, hc2, hc3⟩ := (HT.out.below (Nat.le_refl _) (hb0.out.trans (hb.mono (by omega)))).at_ hlt'
          have hS := tids_snoc ts k hlt'
          have HB := Lib.hid hb
          clear hb
          cases hkd : (ts[k].kind == 1)
          · rw [hkd] at hS
            have HS := Lib.hid (show ks.map (·.2) ++ tids (ts.take (k + 1)) = ks.map (·.2) ++ tids (ts.take k) by rw [hS]; rfl)
            clear hS
            generalize ts[k].kind = x0 at *
            generalize ts[k].name = x1 at *
            generalize ts[k].to_ = x2 at *
            generalize ts[k].id = x3 at *
            have HO := Lib.hid (ho.alloc (.cells #[.int .i64 x0, .string x1, .string x2, .int .i64 x3] 60))
            clear ho
            go_wp2_with fail
            exact ⟨⟨k + 1, A', c', by omega, by go_num, by rw [HS.out], by rw [HS.out]; exact HO.out, HB.out.alloc hz _⟩, by simp [intOf]; omega⟩
          · rw [hkd] at hS
            have HS := Lib.hid (show ks.map (·.2) ++ tids (ts.take (k + 1)) = ks.map (·.2) ++ tids (ts.take k) ++ [ts[k].id] by rw [hS, List.append_assoc]; rfl)
            clear hS
            generalize ts[k].kind = x0 at *
            generalize ts[k].name = x1 at *
            generalize ts[k].to_ = x2 at *
            generalize ts[k].id = x3 at *
            generalize ks.map (·.2) ++ tids (ts.take k) = L at *
            have ho1 := ho.alloc (.cells #[.int .i64 x0, .string x1, .string x2, .int .i64 x3] 60)
            go_wp2_with (at_builtin; refine append_int rfl _ _ rfl rfl (wr.heap.size + 1) rfl (by simp) ho1 (by omega) (by simp; omega) ?_)
            intro A2 c2 w2 ho2 hb2 hg2
            have HO := Lib.hid (show OwnI w2 (w.heap.size + 1) A2 (ks.map (·.2) ++ tids (ts.take (k + 1))).length c2 (ks.map (·.2) ++ tids (ts.take (k + 1))) by rw [HS.out, List.length_append]; exact ho2)
            have HN := Lib.hid (show L.length + 1 = (ks.map (·.2) ++ tids (ts.take (k + 1))).length by rw [HS.out, List.length_append]; rfl)
            have HB2 := Lib.hid ((HB.out.alloc hz _).trans hb2)
            clear ho ho1 ho2 hb2 hg2
            go_wp2_with fail
            exact ⟨⟨k + 1, A2, c2, by omega, by go_num, by rw [HN.out], HO.out, HB2.out⟩, by simp [intOf]; omega⟩
        · obtain rfl : nt = k := by omega
          have e : ts.take nt = ts := List.take_of_length_le (by rw [HTL.out]; exact Nat.le_refl _)
          rw [e] at ho ⊢
          have HO := Lib.hid (ho.more (base' := w.heap.size) (by omega))
          have HB := Lib.hid (hb0.out.trans (hb.mono (by omega)))
          clear ho hb
          go_wp2_with fail
          go_ret
          exact ⟨_, _, Eq.trans rfl (congrArg (fun m => Ending.returned (Value.slice A' m c')) (show ks.length + (tids ts).length = (idsD ks ts).length by simp [idsD])), HO.out, HB.out⟩
end Go.Proofs.YtfkdfabbpebljaaGreat.DOk
