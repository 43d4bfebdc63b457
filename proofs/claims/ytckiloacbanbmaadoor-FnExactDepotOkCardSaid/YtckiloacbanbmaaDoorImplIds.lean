/- The program's idsOk. -/
import Derived.Test.YtckiloacbanbmaaDoorImplTurns
namespace Go.Proofs.YtckiloacbanbmaaDoor.DOk
open Go.RowKit Go.Proofs.YtckiloacbanbmaaDoor.Bytes Go.Proofs.YtckiloacbanbmaaDoor.Rows_ Go.Maps Go.WideMaps
set_option linter.unusedVariables false

theorem ikey : Keyed Tryd.prog 3 := int_keyed Tryd.underlying3
theorem zeroB (w : World) : (zeroValue 4).run Tryd.prog w = .ok (.bool false) w := by kernel_rfl
def kI (z : Int) : Lit := .int .i64 z
def tru : Dat := .lit (.bool true)
def idMap (ids : List Int) : Dat := setOf tru (ids.map kI)
theorem idMap_snoc (ids : List Int) (z : Int) : idMap (ids ++ [z]) = (idMap ids).put (kI z) tru := by unfold idMap; rw [List.map_append]; exact setOf_snoc _ _ _
theorem idMap_lits (ids : List Int) : ∀ x ∈ ids.map kI, WideAt.IsKeyLit x := by intro x hx; simp at hx; obtain ⟨z, _, rfl⟩ := hx; trivial
theorem idMap_tidy (ids : List Int) : Tidy (idMap ids) := tidy_setOf tru _ (idMap_lits ids)
theorem kI_ne {a b : Int} (h : a ≠ b) : kI a ≠ kI b := fun e => h (by unfold kI at e; injection e)
theorem idMap_at_rev (z : Int) : ∀ (r : List Int), (idMap r.reverse).atKey (kI z) (.lit (.bool false)) = .lit (.bool (has (idMap r.reverse) (kI z)))
  | [] => rfl
  | x :: r => by
    rw [List.reverse_cons, idMap_snoc]
    by_cases h : z = x
    · subst h
      rw [atKey_put_same (k := kI z) (idMap_tidy _).isMap (show WideAt.IsKeyLit (kI z) from trivial), has_put_same (k := kI z) (idMap_tidy _).isMap (show WideAt.IsKeyLit (kI z) from trivial)]; rfl
    · rw [atKey_put_other (kI_ne h), has_put_other (kI_ne h)]
      exact idMap_at_rev z r
theorem idMap_at (ids : List Int) (z : Int) : (idMap ids).atKey (kI z) (.lit (.bool false)) = .lit (.bool (has (idMap ids) (kI z))) := by
  have := idMap_at_rev z ids.reverse; rw [List.reverse_reverse] at this; exact this
def OwnB (w : World) (b n : Nat) (D : Dat) : Prop := w.ownsMap Tryd.prog 3 (plainElem Tryd.prog 4) b n D
theorem OwnB.lt {w : World} {b n : Nat} {D : Dat} (h : OwnB w b n D) : b < w.heap.size := World.ownsMap.lt h
theorem OwnB.alloc {w : World} {b n : Nat} {D : Dat} (h : OwnB w b n D) (o : Obj) : OwnB (w.alloc o) b n D := World.ownsMap.alloc h o
set_option maxRecDepth 100000 in
theorem plainElem_bool_inv {v : Value} {z : Dat × List MemPlace} (h : plainElem Tryd.prog 4 v = some z) : ∃ x, v = .bool x ∧ z = (.lit (.bool x), []) := by
  unfold plainElem at h
  rw [Tryd.underlying4] at h
  cases v <;> simp at h
  exact ⟨_, rfl, h.symm⟩

set_option maxRecDepth 100000 in
/-- 'linked[x]' on the call's own set of ids -/
theorem lookup_ids {w : World} {ops : Array Oper} {rest : List Oper} {o : Oper} {a : Act} {Q : Exit → Act → World → Prop} (hg : o.guard = none) (m x : Operand) (hop : o.op = Op.lookup 95 m x false)
    {b n : Nat} {ids : List Int} {z : Int} (hm : a.eval m = .map (some b)) (hown : OwnB w b n (idMap ids)) (hx : a.eval x = .int .i64 z) (hw : (Lit.int .i64 z).wf = true) {y : Bool} (hyy : has (idMap ids) (kI z) = y)
    (hK : wpList Tryd.prog ops Q rest (a.put o.dst (.bool y)) w) : wpList Tryd.prog ops Q (o :: rest) a w := by
  refine wpList_plain hg fun K' hK' => ?_
  obtain ⟨v, ps, hrun, hv⟩ := World.ownsMap.lookup hown ikey Tryd.underlying95 (zeroB w) (plainElem_bool (H := Unit) Tryd.underlying4 false) (keyOf_int_mk Tryd.underlying3 hw)
  obtain ⟨y', rfl, hy⟩ := plainElem_bool_inv hv
  have hat := idMap_at ids z
  unfold kI at hat
  have hyy' : has (idMap ids) (kI z) = y' := by
    have h1 := congrArg Prod.fst hy
    simp only at h1
    rw [hat] at h1
    injection h1 with h1; injection h1
  obtain rfl : y' = y := hyy'.symm.trans hyy
  unfold Oper.wp
  simp [execOp, hop, hm, hx, hrun, Result.andThen]
  exact hK' _ _ hK

theorem len_ids {w : World} {ops : Array Oper} {rest : List Oper} {o : Oper} {a : Act} {Q : Exit → Act → World → Prop} (hg : o.guard = none) (m : Operand) (hop : o.op = Op.call { callee := Callee.builtin Builtin.len, args := #[m], argTypes := #[95] })
    {b n : Nat} {ids : List Int} (hm : a.eval m = .map (some b)) (hown : OwnB w b n (idMap ids)) {S : Nat} (hS : Maps.size (idMap ids) = S)
    (hK : wpList Tryd.prog ops Q rest (a.put o.dst (.int .i64 S)) w) : wpList Tryd.prog ops Q (o :: rest) a w :=
  wpList_len_own _ hg m 95 hop 3 4 Tryd.underlying95 _ b n (idMap ids) hm hown (by rw [hS]; exact hK)

def IdsOkI (fs : List FileD) (ks : List LinkD) (ts : List TurnD) : Prop :=
  (∀ j (h : j < fs.length), has (idMap (idsD ks ts)) (kI fs[j].id) = true) ∧ (idsD ks ts).length = Maps.size (idMap (idsD ks ts)) ∧ (idsD ks ts).length = fs.length

set_option maxRecDepth 100000 in
set_option maxHeartbeats 6400000 in
theorem idsOk_any (room fuse next : Int) (F : Option Addr) (nf cf : Nat) (K : Option Addr) (nk ck : Nat) (T : Option Addr) (nt ct : Nat) (fs : List FileD) (ks : List LinkD) (ts : List TurnD) (w : World)
    (hf : RdF w w.heap.size F fs) (hfl : fs.length = nf) (hfn : nf ≤ 2000000) (hfs : ∀ x ∈ fs, (Lit.int .i64 x.id).wf = true)
    (hk : RdL w w.heap.size K ks) (hkl : ks.length = nk) (hkn : nk ≤ 2000000) (hks : ∀ x ∈ ks, (Lit.int .i64 x.2).wf = true)
    (ht : RdT w w.heap.size T ts) (htl : ts.length = nt) (htn : nt ≤ 2000000) (hts : ∀ x ∈ ts, (Lit.int .i64 x.id).wf = true) :
    Calls Tryd.prog 37 #[.agg #[.int .i64 room, .int .i64 fuse, .int .i64 next, .slice F nf cf, .slice K nk ck, .slice T nt ct]] w (Ans' (IdsOkI fs ks ts) w.heap.size w) := by
  have HF := Lib.hid hf
  have HFL := Lib.hid hfl
  have HFS := Lib.hid hfs
  have HK := Lib.hid hk
  have HKL := Lib.hid hkl
  have HKS := Lib.hid hks
  have HT := Lib.hid ht
  have HTL := Lib.hid htl
  have HTS := Lib.hid hts
  have hmm := @run_makeMap Tryd.prog
  have hb0 := Lib.hid ((Below.refl w.heap.size w).alloc (Nat.le_refl _) (.cells #[.int .i64 room, .int .i64 fuse, .int .i64 next, .slice F nf cf, .slice K nk ck, .slice T nt ct] 35))
  have hbS := Lib.hid (show (w.alloc (.cells #[.int .i64 room, .int .i64 fuse, .int .i64 next, .slice F nf cf, .slice K nk ck, .slice T nt ct] 35)).heap.size = w.heap.size + 1 by simp)
  have hbC := Lib.hid (show ∀ j v, #[Value.int .i64 room, .int .i64 fuse, .int .i64 next, .slice F nf cf, .slice K nk ck, .slice T nt ct][j]? = some v → (w.alloc (.cells #[.int .i64 room, .int .i64 fuse, .int .i64 next, .slice F nf cf, .slice K nk ck, .slice T nt ct] 35)).cell? ⟨w.heap.size, j, none⟩ = some v from fun j v h => by rw [World.cell?_alloc_at _ _ _ _ rfl]; exact h)
  have hom := Lib.hid (show OwnB ((w.alloc (.cells #[.int .i64 room, .int .i64 fuse, .int .i64 next, .slice F nf cf, .slice K nk ck, .slice T nt ct] 35)).alloc (.map #[] 0)) (w.heap.size + 1) 0 (idMap []) by
    have := World.ownsMap_made (w.alloc (.cells #[.int .i64 room, .int .i64 fuse, .int .i64 next, .slice F nf cf, .slice K nk ck, .slice T nt ct] 35)) Tryd.prog 3 (plainElem (H := Unit) Tryd.prog 4)
    rw [hbS.out] at this
    exact this)
  have hbm := Lib.hid ((Below.refl (w.heap.size + 1) (w.alloc (.cells #[.int .i64 room, .int .i64 fuse, .int .i64 next, .slice F nf cf, .slice K nk ck, .slice T nt ct] 35))).alloc (by simp) (.map #[] 0))
  have HBad1 := Lib.hid (show ∀ j (h : j < fs.length), has (idMap (idsD ks ts)) (kI fs[j].id) = false → ¬ IdsOkI fs ks ts from fun j h hn h' => by have := h'.1 j h; rw [hn] at this; cases this)
  have hv := Lib.hid (plainElem_bool (H := Unit) Tryd.underlying4 true)
  clear hf hfl hfs hk hkl hks ht htl hts
  go_enter Tryd.func37, Tryd.ntmps37
  go_wp2_with fail
  generalize w.alloc (.cells #[.int .i64 room, .int .i64 fuse, .int .i64 next, .slice F nf cf, .slice K nk ck, .slice T nt ct] 35) = W0 at *
  go_loopw [4, 15] (fun u i wr => ∃ k : Nat, k ≤ nk ∧ i = .int .i64 k ∧ u = .int .i64 k ∧ OwnB wr (w.heap.size + 1) k (idMap ((ks.take k).map (·.2))) ∧ Below (w.heap.size + 1) W0 wr) (fun _ i _ => nk - (intOf i).toNat)
  case atStart => exact ⟨0, Nat.zero_le _, rfl, rfl, hom.out, hbm.out⟩
  case round =>
    clear hom hbm hmm
    obtain ⟨k, hk, rfl, rfl, ho, hb⟩ := hrel
    have hz : w.heap.size + 1 ≤ wr.heap.size := by have := hb.size; rw [hbS.out] at this; omega
    have hzr : w.heap.size < wr.heap.size := by omega
    by_cases hlt : k < nk
    · have hlt' : k < ks.length := by rw [HKL.out]; exact hlt
      obtain ⟨b, o, rfl, hB, hc0, hc1⟩ := (HK.out.below (Nat.le_refl _) (hb0.out.trans (hb.mono (by omega)))).at_ hlt'
      have HB := Lib.hid hb
      have HS := Lib.hid (show idMap ((ks.take (k + 1)).map (·.2)) = (idMap ((ks.take k).map (·.2))).put (kI ks[k].2) tru by rw [kids_snoc ks k hlt']; exact idMap_snoc _ _)
      have hx := Lib.hid (keyOf_int_mk (k := 3) Tryd.underlying3 (HKS.out _ (List.getElem_mem hlt')))
      clear hb
      generalize ks[k].1 = x0 at *
      generalize ks[k].2 = x1 at *
      have ho1 := Lib.hid (ho.alloc (.cells #[.string x0, .int .i64 x1] 58))
      clear ho
      go_wp2_with (at_mapUpdate; refine wpList_mapUpdate_own _ rfl _ _ _ 95 rfl 3 4 ikey Tryd.underlying95 _ (w.heap.size + 1) k _ rfl ho1.out (by unfold maxLen; omega) _ _ _ rfl rfl hx.out _ [] hv.out ?_)
      intro w1 hown1 hgrow1
      have HO := Lib.hid (show OwnB w1 (w.heap.size + 1) (k + 1) (idMap ((ks.take (k + 1)).map (·.2))) by rw [HS.out, List.map_take]; exact hown1)
      have HB1 := Lib.hid (grown_new (HB.out.alloc hz _) hgrow1 (Nat.le_refl _) (by simp; omega))
      clear hown1 hgrow1
      go_wp2_with fail
      exact ⟨⟨k + 1, by omega, by go_num, by go_num, HO.out, HB1.out⟩, by simp [intOf]; omega⟩
    · obtain rfl : nk = k := by omega
      have e : ks.take nk = ks := List.take_of_length_le (by rw [HKL.out]; exact Nat.le_refl _)
      rw [e] at ho
      have q5 : wr.cell? ⟨w.heap.size, 5, none⟩ = some (.slice T nt ct) := (hb.cell (p := ⟨w.heap.size, 5, none⟩) (by show w.heap.size < w.heap.size + 1; omega)).trans (hbC.out 5 _ rfl)
      have HO := Lib.hid (show OwnB wr (w.heap.size + 1) (nk + 0) (idMap (ks.map (·.2) ++ tids (ts.take 0))) by
        have e0 : tids (ts.take 0) = [] := rfl
        rw [e0, List.append_nil]; exact ho)
      have HB := Lib.hid hb
      have HL0 := Lib.hid (show (nk : Int) = ((nk + (tids (ts.take 0)).length : Nat) : Int) by simp [tids])
      clear ho hb hlt hk e
      obtain ⟨wo, rfl⟩ : ∃ wo : World, wo = wr := ⟨_, rfl⟩
      go_wp2_with fail
      go_loopw [4, 28] (fun u i wr => ∃ k : Nat, k ≤ nt ∧ i = .int .i64 k ∧ u = .int .i64 ((nk + (tids (ts.take k)).length : Nat) : Int) ∧ OwnB wr (w.heap.size + 1) (nk + k) (idMap (ks.map (·.2) ++ tids (ts.take k))) ∧ Below (w.heap.size + 1) W0 wr) (fun _ i _ => nt - (intOf i).toNat)
      case atStart => exact ⟨0, Nat.zero_le _, rfl, by rw [← HL0.out], HO.out, HB.out⟩
      case round =>
        clear HO HB q5 hz hzr
        obtain ⟨k, hk, rfl, rfl, ho, hb⟩ := hrel
        have hz : w.heap.size + 1 ≤ wr.heap.size := by have := hb.size; rw [hbS.out] at this; omega
        have hzr : w.heap.size < wr.heap.size := by omega
        have hle : (tids (ts.take k)).length ≤ k := by have h1 := tids_le (ts.take k); have h2 := take_le' ts k; omega
        by_cases hlt : k < nt
        · have hlt' : k < ts.length := by rw [HTL.out]; exact hlt
          obtain ⟨b, o, rfl, hB, hc0, hc1, hc2, hc3⟩ := (HT.out.below (Nat.le_refl _) (hb0.out.trans (hb.mono (by omega)))).at_ hlt'
          have hS := tids_snoc ts k hlt'
          have HB := Lib.hid hb
          have hx := Lib.hid (keyOf_int_mk (k := 3) Tryd.underlying3 (HTS.out _ (List.getElem_mem hlt')))
          clear hb
          cases hkd : (ts[k].kind == 1)
          · rw [hkd] at hS
            have HS := Lib.hid (show tids (ts.take (k + 1)) = tids (ts.take k) by rw [hS]; rfl)
            clear hS
            generalize ts[k].kind = x0 at *
            generalize ts[k].name = x1 at *
            generalize ts[k].to_ = x2 at *
            generalize ts[k].id = x3 at *
            have HO := Lib.hid (ho.alloc (.cells #[.int .i64 x0, .string x1, .string x2, .int .i64 x3] 63))
            clear ho
            go_wp2_with fail
            exact ⟨⟨k + 1, by omega, by go_num, by rw [HS.out], by rw [HS.out]; exact World.ownsMap.mono HO.out (by omega), HB.out.alloc hz _⟩, by simp [intOf]; omega⟩
          · rw [hkd] at hS
            have HS := Lib.hid (show tids (ts.take (k + 1)) = tids (ts.take k) ++ [ts[k].id] by rw [hS]; rfl)
            have HSm := Lib.hid (show idMap (ks.map (·.2) ++ tids (ts.take (k + 1))) = (idMap (ks.map (·.2) ++ tids (ts.take k))).put (kI ts[k].id) tru by rw [hS, if_pos rfl, ← List.append_assoc]; exact idMap_snoc _ _)
            have HN := Lib.hid (show (((nk + (tids (ts.take k)).length : Nat) : Int) + 1) = ((nk + (tids (ts.take (k + 1))).length : Nat) : Int) by rw [hS, if_pos rfl, List.length_append]; simp; omega)
            clear hS
            generalize ts[k].kind = x0 at *
            generalize ts[k].name = x1 at *
            generalize ts[k].to_ = x2 at *
            generalize ts[k].id = x3 at *
            generalize hLL : (tids (ts.take k)).length = LL at *
            clear hLL
            have ho1 := Lib.hid (ho.alloc (.cells #[.int .i64 x0, .string x1, .string x2, .int .i64 x3] 63))
            clear ho
            go_wp2_with (at_mapUpdate; refine wpList_mapUpdate_own _ rfl _ _ _ 95 rfl 3 4 ikey Tryd.underlying95 _ (w.heap.size + 1) (nk + k) _ rfl ho1.out (by unfold maxLen; omega) _ _ _ rfl rfl hx.out _ [] hv.out ?_)
            intro w1 hown1 hgrow1
            have HO := Lib.hid (show OwnB w1 (w.heap.size + 1) (nk + (k + 1)) (idMap (ks.map (·.2) ++ tids (ts.take (k + 1)))) by rw [HSm.out]; exact hown1)
            have HB1 := Lib.hid (grown_new (HB.out.alloc hz _) hgrow1 (Nat.le_refl _) (by simp; omega))
            clear hown1 hgrow1
            go_wp2_with fail
            exact ⟨⟨k + 1, by omega, by go_num, by rw [← HN.out]; go_num, HO.out, HB1.out⟩, by simp [intOf]; omega⟩
        · obtain rfl : nt = k := by omega
          have e : ts.take nt = ts := List.take_of_length_le (by rw [HTL.out]; exact Nat.le_refl _)
          rw [e] at ho hle ⊢
          have hLI : nk + (tids ts).length = (idsD ks ts).length := by rw [← HKL.out]; simp [idsD]
          have q3 : wr.cell? ⟨w.heap.size, 3, none⟩ = some (.slice F nf cf) := (hb.cell (p := ⟨w.heap.size, 3, none⟩) (by show w.heap.size < w.heap.size + 1; omega)).trans (hbC.out 3 _ rfl)
          have HO := Lib.hid (show OwnB wr (w.heap.size + 1) (nk + nt) (idMap (idsD ks ts)) from ho)
          have HB := Lib.hid hb
          rw [hLI]
          have hLn : (idsD ks ts).length ≤ 4000000 := by omega
          have HAll := Lib.hid (show (∀ j (h : j < fs.length), has (idMap (idsD ks ts)) (kI fs[j].id) = true) → (idsD ks ts).length = Maps.size (idMap (idsD ks ts)) → (idsD ks ts).length = nf → IdsOkI fs ks ts from fun a b c => ⟨a, b, by rw [HFL.out]; exact c⟩)
          have HBad2 := Lib.hid (show ¬ (idsD ks ts).length = Maps.size (idMap (idsD ks ts)) → ¬ IdsOkI fs ks ts from fun a b => a b.2.1)
          have HBad3 := Lib.hid (show ¬ (idsD ks ts).length = nf → ¬ IdsOkI fs ks ts from fun a b => a (by rw [← HFL.out]; exact b.2.2))
          have hSz : Maps.size (idMap (idsD ks ts)) ≤ nk + nt := World.ownsMap.size_le ho
          generalize hIDS : idsD ks ts = IDS at *
          clear hIDS hLI ho hb hlt hk e hle
          obtain ⟨wo2, rfl⟩ : ∃ wo2 : World, wo2 = wr := ⟨_, rfl⟩
          go_wp2_with fail
          go_loopw [44] (fun i wr => ∃ k : Nat, k ≤ nf ∧ i = .int .i64 k ∧ OwnB wr (w.heap.size + 1) (nk + nt) (idMap IDS) ∧ Below (w.heap.size + 1) W0 wr ∧ Hid (∀ j (hj : j < fs.length), j < k → has (idMap IDS) (kI fs[j].id) = true)) (fun i _ => nf - (intOf i).toNat)
          case atStart => exact ⟨0, Nat.zero_le _, rfl, HO.out, HB.out, Lib.hid (fun j _ h => absurd h (by omega))⟩
          case round =>
            clear HO HB q3 hz hzr
            obtain ⟨k, hk, rfl, ho, hb, HA⟩ := hrel
            have hz : w.heap.size + 1 ≤ wr.heap.size := by have := hb.size; rw [hbS.out] at this; omega
            have hzr : w.heap.size < wr.heap.size := by omega
            by_cases hlt : k < nf
            · have hlt' : k < fs.length := by rw [HFL.out]; exact hlt
              obtain ⟨b, o, rfl, hB, hc0, hc1, hc2⟩ := (HF.out.below (Nat.le_refl _) (hb0.out.trans (hb.mono (by omega)))).at_ hlt'
              have HB := Lib.hid hb
              have hx := Lib.hid (HFS.out _ (List.getElem_mem hlt'))
              have hBad := Lib.hid (HBad1.out k hlt')
              have hUp := Lib.hid (fun (h : has (idMap IDS) (kI fs[k].id) = true) => upto' (P := fun j hj => has (idMap IDS) (kI fs[j].id) = true) HA.out (fun _ => h))
              clear hb
              generalize fs[k].id = x0 at *
              generalize fs[k].A = x1 at *
              generalize fs[k].n = x2 at *
              generalize fs[k].c = x3 at *
              generalize fs[k].safe = x4 at *
              have ho1 := Lib.hid (ho.alloc (.cells #[.int .i64 x0, .slice x1 x2 x3, .int .i64 x4] 56))
              clear ho
              cases hh : has (idMap IDS) (kI x0)
              · have HH := Lib.hid hh
                have HN := Lib.hid (hBad.out hh)
                clear hh
                go_wp2_with (at_lookup; refine lookup_ids rfl _ _ rfl rfl ho1.out rfl hx.out HH.out ?_)
                go_wp2_with fail
                go_ret
                exact ansI_no HN.out (hb0.out.trans ((HB.out.alloc hz _).mono (by omega)))
              · have HH := Lib.hid hh
                have HG := Lib.hid (hUp.out hh)
                clear hh
                go_wp2_with (at_lookup; refine lookup_ids rfl _ _ rfl rfl ho1.out rfl hx.out HH.out ?_)
                go_wp2_with fail
                exact ⟨⟨k + 1, by omega, by go_num, ho1.out, HB.out.alloc hz _, HG⟩, by simp [intOf]; omega⟩
            · obtain rfl : nf = k := by omega
              have HAF := Lib.hid (show ∀ j (h : j < fs.length), has (idMap IDS) (kI fs[j].id) = true from fun j h => HA.out j h (by have := HFL.out; omega))
              have q3 : wr.cell? ⟨w.heap.size, 3, none⟩ = some (.slice F nf cf) := (hb.cell (p := ⟨w.heap.size, 3, none⟩) (by show w.heap.size < w.heap.size + 1; omega)).trans (hbC.out 3 _ rfl)
              have HO := Lib.hid ho
              have HB := Lib.hid (hb0.out.trans (hb.mono (by omega)))
              clear ho hb hlt hk
              generalize hSzz : Maps.size (idMap IDS) = S at *
              have HSS := Lib.hid hSzz
              clear hSzz
              generalize hLL : IDS.length = L at *
              clear hLL
              by_cases c1 : L = S
              · have d1 : ((L : Int) == (S : Int)) = true := by simp [c1]
                have d1' : (L == S) = true := by simp [c1]
                by_cases c2 : L = nf
                · have d2 : ((L : Int) == (nf : Int)) = true := by simp [c2]
                  have d2' : (L == nf) = true := by simp [c2]
                  have HFin := Lib.hid (HAll.out HAF.out c1 c2)
                  clear c1 c2
                  go_wp2_with (at_len; refine len_ids rfl _ rfl rfl HO.out HSS.out ?_)
                  go_wp2_with fail
                  go_ret
                  exact ansI_yes HFin.out HB.out
                · have d2 : ((L : Int) == (nf : Int)) = false := by simp; omega
                  have d2' : (L == nf) = false := by simp [c2]
                  have HFin := Lib.hid (HBad3.out c2)
                  clear c1 c2
                  go_wp2_with (at_len; refine len_ids rfl _ rfl rfl HO.out HSS.out ?_)
                  go_wp2_with fail
                  go_ret
                  exact ansI_no HFin.out HB.out
              · have d1 : ((L : Int) == (S : Int)) = false := by simp; omega
                have d1' : (L == S) = false := by simp [c1]
                have HFin := Lib.hid (HBad2.out c1)
                clear c1
                go_wp2_with (at_len; refine len_ids rfl _ rfl rfl HO.out HSS.out ?_)
                go_wp2_with fail
                go_ret
                exact ansI_no HFin.out HB.out
end Go.Proofs.YtckiloacbanbmaaDoor.DOk
