/- The laws' helpers over rows of cells: the copy, the size, the comparison where both hold the same. -/
import Derived.Test.YthlpchojlddnbaaScW
import Derived.Deep.RegionHeld3
import Derived.Deep.DrawnRows
namespace Go.Proofs.Ythlpchojlddnbaa.Sc
open Go.RowKit Go.Proofs.Ythlpchojlddnbaa.Bytes Go.Proofs.Ythlpchojlddnbaa.Rows_ Go.Proofs.Ythlpchojlddnbaa.RowK Go.Proofs.Ythlpchojlddnbaa.Gr Go.Proofs.Ythlpchojlddnbaa.DOk Go.Proofs.Ythlpchojlddnbaa.Opq
set_option linter.unusedVariables false
attribute [local go_sem ↓] Go.wp_at_zero Go.wp_at_succ
set_option maxRecDepth 100000 in
set_option maxHeartbeats 1600000 in
theorem toRow_any (A : Option Addr) (n c : Nat) (cs : List CellD) (w : World) (hr : RdC w w.heap.size A cs) (hl : cs.length = n) (hn : n ≤ 2097152) :
    Calls Try.prog 101 #[.agg #[.slice A n c]] w fun e w' => ∃ A' c', e = .returned (.agg #[.slice A' n c']) ∧ OwnC w' w.heap.size A' n c' cs ∧ Below w.heap.size w w' := by
  have HR := Lib.hid hr
  have HL := Lib.hid hl
  clear hr hl
  have hb0 := Lib.hid ((((Below.refl w.heap.size w).alloc (Nat.le_refl _) (.cells #[.slice A n c] 113)).alloc (by simp) (.cells #[.slice none 0 0] 115)).alloc (by simp; omega) (.cells #[.slice none 0 0] 115))
  go_enter Try.func101, Try.ntmps101
  go_wp2_with fail
  refine (toCellS_any A n c cs _ ((HR.out.below (Nat.le_refl _) hb0.out).more (by simp; omega)) HL.out (by omega)).mono ?_
  rintro e v1 ⟨A1, c1, rfl, ho1, hb1⟩
  have HO := Lib.hid ho1
  have HB1 := Lib.hid hb1
  obtain ⟨hc, hf⟩ := Rows_.bcell hb1
  have hz : w.heap.size + 2 < v1.heap.size := by have := hb1.size; simp at this; omega
  clear ho1 hb1
  have s1 : w.heap.size < w.heap.size + 1 + 1 + 1 := by omega
  have s2 : w.heap.size + 1 < w.heap.size + 1 + 1 + 1 := by omega
  go_wp2_with fail
  refine bodyPost_ret (v := .agg #[.slice A1 n c1]) (by simp [results, Try.results101, go_sem, hc]) rfl ⟨A1, c1, rfl, ?_, ?_⟩
  · have h0 := HO.out.more (base' := w.heap.size + 3) (by simp)
    have h1 := own_setK (own_setK h0 (w.heap.size + 1 + 1) 0 (.slice A1 n c1) (by omega)) (w.heap.size + 1) 0 (.slice A1 n c1) (by omega)
    exact own_moreK h1 (by omega)
  · have h0 := hb0.out.trans (HB1.out.mono (by simp; omega))
    exact (h0.setCell (by simp; omega) _).setCell (by simp) _
def zR : List Value := [.slice none 0 0]
def partR (gs : List SlC) (n k : Nat) : List Value := (gs.map rowR ++ List.replicate (n - k) zR).flatten
set_option maxRecDepth 100000 in
set_option maxHeartbeats 3200000 in
theorem toRowS_any (A : Option Addr) (n c : Nat) (rs : List SlC) (w : World) (hr : RdR w w.heap.size A rs) (hl : rs.length = n) (hn : n ≤ 2097152) (hrc : RdCs w w.heap.size rs) (hcn : ∀ r ∈ rs, r.cs.length ≤ 2097152) :
    Calls Try.prog 62 #[.slice A n c] w fun e w' => ∃ A' c' gs, e = .returned (.slice A' n c') ∧ OwnR w' w.heap.size A' n c' gs ∧ gs.map (·.cs) = rs.map (·.cs) ∧ OwnCs w' w.heap.size gs ∧ Below w.heap.size w w' := by
  obtain ⟨i0, hi, hz0, hz1, hz2⟩ := info_parts rowInfo
  have hm : n ≤ maxLen := by unfold maxLen; omega
  have HL := Lib.hid hl
  have HR := Lib.hid hr
  have HRB := Lib.hid hrc
  have HFN := Lib.hid hcn
  clear hl hr hrc hcn
  go_enter Try.func62, Try.ntmps62
  go_wp2_with (at_make; refine wpList_make_full _ rfl _ _ 51 rfl w.heap.size 115 i0 (.agg #[.slice none 0 0]) 1 Try.underlying51 hi hz0 hz1 _ _ _ _ n rfl rfl rfl rfl ?c1 hm (Nat.le_refl _) ?_)
  case c1 => rw [hz2]; omega
  intro w1 hown hgrow
  have hown' : w1.ownsRow w.heap.size 115 1 (.slice (some ⟨w.heap.size, 0, none⟩) n n) n (partR [] n 0) := by
    have h := made_flat #[Value.slice none 0 0] 1 n rfl (by omega)
    rw [Nat.mul_one] at h
    rw [h] at hown
    exact hown
  have hb1 : Below w.heap.size w w1 := (Below.refl _ _).grown hgrow (Nat.le_refl _) (by simp)
  have hz1' : w.heap.size < w1.heap.size := by
    rcases hown'.2 with ⟨h, _⟩ | ⟨g, cap, cur, h, _, hg, _⟩
    · cases h
    · injection h with h; injection h with h; injection h with h; subst h; exact (Array.getElem?_eq_some_iff.1 hg).1
  clear hown hgrow
  go_wp2_with fail
  go_loopw [4] (fun i wr => ∃ (k : Nat) (gs : List SlC), k ≤ n ∧ i = .int .i64 k ∧ wr.ownsRow w.heap.size 115 1 (.slice (some ⟨w.heap.size, 0, none⟩) n n) n (partR gs n k) ∧ Hid (gs.map (·.cs) = (rs.take k).map (·.cs)) ∧ OwnCs wr (w.heap.size + 1) gs ∧ Below w.heap.size w wr ∧ w.heap.size < wr.heap.size) (fun i _ => n - (intOf i).toNat)
  case atStart => exact ⟨0, [], Nat.zero_le _, rfl, hown', Lib.hid rfl, OwnCs.nil _ _, hb1, hz1'⟩
  case round =>
    obtain ⟨k, gs, hk, rfl, ho, HK, hbs, hb, hzr⟩ := hrel
    clear hown' hb1 hz1'
    have hz : w.heap.size ≤ wr.heap.size := hb.size
    by_cases hlt : k < n
    · have hlt' : k < rs.length := by rw [HL.out]; exact hlt
      obtain ⟨b, o, rfl, hB, hc0⟩ := (HR.out.below (Nat.le_refl _) hb).at_ hlt'
      have HB := Lib.hid hb
      have HBS := Lib.hid hbs
      have HRb := Lib.hid (((HRB.out _ (List.getElem_mem hlt')).below (Nat.le_refl _) hb).more hz)
      have hRn := HFN.out _ (List.getElem_mem hlt')
      have HGL := Lib.hid (show (gs.map rowR).length = k by
        have := congrArg List.length HK.out
        rw [List.length_map, List.length_map, List.length_take] at this
        rw [List.length_map]; omega)
      have HPO := Lib.hid (show partR gs n k = (gs.map rowR ++ [[Value.slice none 0 0]] ++ List.replicate (n - (k + 1)) zR).flatten by
        unfold partR; rw [rep_flat zR n k hlt, ← List.append_assoc]; rfl)
      have HKN := Lib.hid (show (rs.take (k + 1)).map (·.cs) = (rs.take k).map (·.cs) ++ [rs[k].cs] by
        rw [List.take_succ_eq_append_getElem hlt', List.map_append]; rfl)
      have HO := Lib.hid ho
      clear hb ho hbs
      generalize rs[k].A = x1 at *
      generalize rs[k].c = x3 at *
      generalize rs[k].cs = zs at *
      obtain ⟨x2, hx2⟩ : ∃ x, x = zs.length := ⟨_, rfl⟩
      rw [← hx2] at hc0 hRn
      have HX2 := Lib.hid hx2
      clear hx2
      go_wp2_with fail
      refine (toRow_any x1 x2 x3 zs _ HRb.out HX2.out.symm hRn).mono ?_
      rintro e v ⟨A2, c2, rfl, ho2, hb1⟩
      have HOv := Lib.hid (own_belowK HO.out (Nat.le_refl _) hb1)
      have HBv := Lib.hid (HB.out.trans (hb1.mono hz))
      have hzv : w.heap.size < v.heap.size := by have := hb1.size; omega
      have HBSv := Lib.hid (show OwnCs v (w.heap.size + 1) (gs ++ [⟨A2, c2, zs⟩]) from ⟨fun f hf => by
        rcases List.mem_append.1 hf with hf | hf
        · exact (HBS.out.1 f hf).below (Nat.le_refl _) hb1
        · simp at hf; subst hf; show OwnC v _ A2 zs.length c2 zs; rw [← HX2.out]; exact ho2.more (by omega), List.pairwise_append.2 ⟨HBS.out.2, List.pairwise_singleton _ _, fun a ha b hb => by
          rw [List.mem_singleton] at hb; subst hb; exact apart_of (HBS.out.1 a ha) (y := ⟨A2, c2, zs⟩) (by show OwnC v _ A2 zs.length c2 zs; rw [← HX2.out]; exact ho2) (Nat.le_refl _)⟩⟩)
      obtain ⟨u0, hu0⟩ := own_there HOv.out (k) (by omega)
      have hf0 := World.ownsRow.frozenAt (h := HOv.out) (k)
      have HN := Lib.hid (show (v.setCell ⟨w.heap.size, k, none⟩ (.slice A2 x2 c2)).ownsRow w.heap.size 115 1 (.slice (some ⟨w.heap.size, 0, none⟩) n n) n (partR (gs ++ [⟨A2, c2, zs⟩]) n (k + 1)) by
        have h := HOv.out; rw [HPO.out] at h
        have h2 := rowJ (K := 1) rfl (row_len _) k HGL.out 0 (by omega) (.slice A2 x2 c2) h
        rw [Nat.mul_one, Nat.add_zero] at h2
        unfold partR; rw [List.map_append, HX2.out]; rw [HX2.out] at h2; exact h2)
      have HK2 := Lib.hid (show (gs ++ [(⟨A2, c2, zs⟩ : SlC)]).map (·.cs) = (rs.take (k + 1)).map (·.cs) by rw [List.map_append, HK.out, HKN.out]; rfl)
      clear hb1 ho2
      go_wp2_with fail
      exact ⟨⟨k + 1, gs ++ [⟨A2, c2, zs⟩], by omega, by go_num, HN.out, HK2, HBSv.out.set_ _ _ _ (by omega), HBv.out.setCell (Nat.le_refl _) _, by simp; exact hzv⟩, by simp [intOf]; omega⟩
    · obtain rfl : n = k := by omega
      have e : rs.take n = rs := List.take_of_length_le (by rw [HL.out]; exact Nat.le_refl _)
      have hK := HK.out
      rw [e] at hK
      have HK2 := Lib.hid hK
      have e2 : partR gs n n = (gs.map rowR).flatten := by unfold partR; simp
      rw [e2] at ho
      have HRF := Lib.hid (show OwnR wr w.heap.size (some ⟨w.heap.size, 0, none⟩) n n gs from OwnR.of ho)
      have HRBs := Lib.hid (show OwnCs wr w.heap.size gs from hbs.more (by omega))
      have HB := Lib.hid hb
      clear ho hbs hb hK e e2
      go_wp2_with fail
      go_ret
      exact ⟨_, _, rfl, gs, HRF.out, HK2.out, HRBs.out, HB.out⟩

/-! ### sizes -/
def tot (rs : List SlC) : Nat := (rs.map fun r => r.cs.length).sum
theorem tot_take (rs : List SlC) (k : Nat) (h : k < rs.length) : tot (rs.take (k + 1)) = tot (rs.take k) + rs[k].cs.length := by
  unfold tot; rw [List.take_succ_eq_append_getElem h, List.map_append, List.sum_append]; simp
theorem tot_mem : ∀ {rs : List SlC} {r : SlC} (h : r ∈ rs), r.cs.length ≤ tot rs
  | x :: rs, r, h => by
    have e : tot (x :: rs) = x.cs.length + tot rs := by simp [tot]
    rcases List.mem_cons.1 h with rfl | h
    · omega
    · have := tot_mem h; omega
/-- what a size test answers: -1, or what is left -/
def Left (left : Int) (n : Nat) (B : Nat) (w : World) (e : Ending) (w' : World) : Prop := ∃ r : Int, e = .returned (.int .i64 r) ∧ (r = -1 ∨ (0 ≤ r ∧ r = left - n)) ∧ Below B w w'
set_option maxRecDepth 100000 in
set_option maxHeartbeats 1600000 in
theorem szRow_any (A : Option Addr) (n c : Nat) (left : Int) (w : World) (hn : n ≤ 9223372036854775807) (h0 : 0 ≤ left) (h1 : left ≤ 1048576) :
    Calls Try.prog 98 #[.agg #[.slice A n c], .int .i64 left] w (Left left n w.heap.size w) := by
  have hb0 := Lib.hid ((Below.refl w.heap.size w).alloc (Nat.le_refl _) (.cells #[.slice A n c] 113))
  have hS := Lib.hid (fun W => szCellS_any A n c left W hn h0 h1)
  by_cases h : left < (n : Int)
  · rw [if_pos h] at hS
    go_enter Try.func98, Try.ntmps98
    go_wp2_with fail
    refine (hS.out _).mono ?_
    rintro e w' ⟨rfl, rfl⟩
    go_wp2_with fail
    go_ret
    exact ⟨-1, rfl, .inl rfl, hb0.out⟩
  · rw [if_neg h] at hS
    have h2 : 0 ≤ left - (n : Int) := by omega
    go_enter Try.func98, Try.ntmps98
    go_wp2_with fail
    refine (hS.out _).mono ?_
    rintro e w' ⟨rfl, rfl⟩
    go_wp2_with fail
    go_ret
    exact ⟨left - n, rfl, .inr ⟨h2, rfl⟩, hb0.out⟩
set_option maxRecDepth 100000 in
set_option maxHeartbeats 1600000 in
theorem szRowS_any (A : Option Addr) (n c : Nat) (rs : List SlC) (left : Int) (w : World) (hr : RdR w w.heap.size A rs) (hl : rs.length = n) (hn : n ≤ 9223372036854775807) (hcn : ∀ r ∈ rs, r.cs.length ≤ 9223372036854775807) (h0 : 0 ≤ left) (h1 : left ≤ 1048576) :
    Calls Try.prog 57 #[.slice A n c, .int .i64 left] w (Left left (n + tot rs) w.heap.size w) := by
  have HL := Lib.hid hl
  have HR := Lib.hid hr
  have HFN := Lib.hid hcn
  clear hl hr hcn
  by_cases h : left < (n : Int)
  · have h2 : left - (n : Int) < 0 := by omega
    go_enter Try.func57, Try.ntmps57
    go_wp2_with fail
    go_ret
    exact ⟨-1, rfl, .inl rfl, Below.refl _ _⟩
  have h2 : 0 ≤ left - (n : Int) := by omega
  go_enter Try.func57, Try.ntmps57
  go_wp2_with fail
  go_loopw [1, 5] (fun m i wr => ∃ (k : Nat) (z : Int), k ≤ n ∧ i = .int .i64 k ∧ m = .int .i64 z ∧ 0 ≤ z ∧ z = left - n - tot (rs.take k) ∧ Below w.heap.size w wr) (fun _ i _ => n - (intOf i).toNat)
  case atStart => exact ⟨0, left - n, Nat.zero_le _, rfl, rfl, h2, by simp [tot], Below.refl _ _⟩
  case round =>
    obtain ⟨k, z, hk, rfl, rfl, hz0, hze, hb⟩ := hrel
    have HZE := Lib.hid hze
    have hz1 : z ≤ 1048576 := by omega
    clear hze
    have hz : w.heap.size ≤ wr.heap.size := hb.size
    by_cases hlt : k < n
    · have hlt' : k < rs.length := by rw [HL.out]; exact hlt
      obtain ⟨b, o, rfl, hB, hc0⟩ := (HR.out.below (Nat.le_refl _) hb).at_ hlt'
      have HB := Lib.hid hb
      have hRn := HFN.out _ (List.getElem_mem hlt')
      have HT := Lib.hid (tot_take rs k hlt')
      clear hb
      generalize rs[k].A = x1 at *
      generalize rs[k].c = x3 at *
      generalize rs[k].cs.length = x2 at *
      go_wp2_with fail
      refine (szRow_any x1 x2 x3 z _ hRn hz0 hz1).mono ?_
      rintro e v ⟨r, rfl, hr, hb1⟩
      have HBv := Lib.hid (HB.out.trans (hb1.mono hz))
      clear hb1
      rcases hr with rfl | ⟨hr0, hr1⟩
      · go_wp2_with fail
        go_ret
        exact ⟨-1, rfl, .inl rfl, HBv.out⟩
      · have HR1 := Lib.hid hr1
        clear hr1
        go_wp2_with fail
        exact ⟨⟨k + 1, r, by omega, by go_num, rfl, hr0, by rw [HR1.out, HT.out, HZE.out]; omega, HBv.out⟩, by simp [intOf]; omega⟩
    · obtain rfl : n = k := by omega
      have HE := Lib.hid (show rs.take n = rs from List.take_of_length_le (by rw [HL.out]; exact Nat.le_refl _))
      have HB := Lib.hid hb
      clear hb
      go_wp2_with fail
      go_ret
      exact ⟨z, rfl, .inr ⟨hz0, by rw [HZE.out, HE.out]; omega⟩, HB.out⟩

/-! ### the comparison, where both hold the same -/
set_option maxRecDepth 100000 in
set_option maxHeartbeats 1600000 in
theorem eqRow_yes (F G : Option Addr) (n c c' : Nat) (cs : List CellD) (w : World) (hf : RdC w w.heap.size F cs) (hg : RdC w w.heap.size G cs) (hl : cs.length = n) (hn : n ≤ 1099511627776) :
    Calls Try.prog 103 #[.agg #[.slice F n c], .agg #[.slice G n c']] w fun e w' => e = .returned (.bool true) ∧ Below w.heap.size w w' := by
  have hb0 := Lib.hid (((Below.refl w.heap.size w).alloc (Nat.le_refl _) (.cells #[.slice F n c] 115)).alloc (by simp) (.cells #[.slice G n c'] 115))
  have HF := Lib.hid hf
  have HG := Lib.hid hg
  have HL := Lib.hid hl
  clear hf hg hl
  go_enter Try.func103, Try.ntmps103
  go_wp2_with fail
  refine (eqCellS_yes F G n c c' cs _ ((HF.out.below (Nat.le_refl _) hb0.out).more hb0.out.size) ((HG.out.below (Nat.le_refl _) hb0.out).more hb0.out.size) HL.out hn).mono ?_
  rintro e v1 ⟨rfl, hb1⟩
  have HB1 := Lib.hid (hb0.out.trans (hb1.mono (by simp; omega)))
  clear hb1
  go_wp2_with fail
  go_ret
  exact ⟨rfl, HB1.out⟩
set_option maxRecDepth 100000 in
set_option maxHeartbeats 3200000 in
theorem eqRowS_yes (A A' : Option Addr) (n c c' : Nat) (fs gs : List SlC) (w : World) (hx : RdR w w.heap.size A fs) (hy : RdR w w.heap.size A' gs) (hl : fs.length = n) (hn : n ≤ 1099511627776) (he : gs.map (·.cs) = fs.map (·.cs)) (hxc : RdCs w w.heap.size fs) (hyc : RdCs w w.heap.size gs) (hcn : ∀ r ∈ fs, r.cs.length ≤ 1099511627776) :
    Calls Try.prog 67 #[.slice A n c, .slice A' n c'] w fun e w' => e = .returned (.bool true) ∧ Below w.heap.size w w' := by
  have hl2 : gs.length = n := by have := congrArg List.length he; rw [List.length_map, List.length_map] at this; omega
  have HX := Lib.hid hx
  have HY := Lib.hid hy
  have HXC := Lib.hid hxc
  have HYC := Lib.hid hyc
  have HL := Lib.hid hl
  have HL2 := Lib.hid hl2
  have HCN := Lib.hid hcn
  have HE := Lib.hid he
  have hnn : (n != n) = false := by simp
  clear hx hy hxc hyc hl hl2 hcn he
  go_enter Try.func67, Try.ntmps67
  go_wp2_with fail
  go_loopw [5] (fun i wr => ∃ k : Nat, k ≤ n ∧ i = .int .i64 k ∧ Below w.heap.size w wr) (fun i _ => n - (intOf i).toNat)
  case atStart => exact ⟨0, Nat.zero_le _, rfl, Below.refl _ _⟩
  case round =>
    obtain ⟨k, hk, rfl, hb⟩ := hrel
    have hz : w.heap.size ≤ wr.heap.size := hb.size
    by_cases hlt : k < n
    · have h1 : k < fs.length := by rw [HL.out]; exact hlt
      have h2 : k < gs.length := by rw [HL2.out]; exact hlt
      obtain ⟨b, o, rfl, hB, hc0⟩ := (HX.out.below (Nat.le_refl _) hb).at_ h1
      obtain ⟨b', o', rfl, hB', hd0⟩ := (HY.out.below (Nat.le_refl _) hb).at_ h2
      have hee : gs[k].cs = fs[k].cs := by
        have := congrArg (fun l => l[k]?) HE.out
        simpa [h1, h2] using this
      have HRF := Lib.hid (((HXC.out _ (List.getElem_mem h1)).below (Nat.le_refl _) hb).more hz)
      have HRG := Lib.hid (((HYC.out _ (List.getElem_mem h2)).below (Nat.le_refl _) hb).more hz)
      rw [hee] at hd0 HRG
      have hcl := HCN.out _ (List.getElem_mem h1)
      have HB := Lib.hid hb
      clear hb hee
      generalize fs[k].A = x1 at *
      generalize fs[k].c = x3 at *
      generalize gs[k].A = y1 at *
      generalize gs[k].c = y3 at *
      generalize fs[k].cs = zs at *
      obtain ⟨x2, hx2⟩ : ∃ x, x = zs.length := ⟨_, rfl⟩
      rw [← hx2] at hc0 hd0 hcl
      have HX2 := Lib.hid hx2
      clear hx2
      have HRFd := Lib.hid (HRF.out.below (Nat.le_refl _) (Below.drew (Below.refl wr.heap.size wr)))
      have HRGd := Lib.hid (HRG.out.below (Nat.le_refl _) (Below.drew (Below.refl wr.heap.size wr)))
      go_wp2_with fail
      go_region_held3 (fun w' => w'.cell? ⟨b, o + k, none⟩ = some (.slice x1 x2 x3) ∧ w'.cell? ⟨b', o' + k, none⟩ = some (.slice y1 x2 y3)) (go_keep)
        (first
          | (go_at_call 103; (with_reducible refine (eqRow_yes x1 y1 x2 x3 y3 zs _ HRFd.out HRGd.out HX2.out.symm hcl).mono ?_); rintro e v1 ⟨rfl, hb1'⟩; have hb1 : Below wr.heap.size wr v1 := undrew hb1'; have j0 := (hb1.cell (p := ⟨b, o + k, none⟩) (show b < wr.heap.size by omega)).trans hc0; have j1 := (hb1.cell (p := ⟨b', o' + k, none⟩) (show b' < wr.heap.size by omega)).trans hd0; have HB1 := Lib.hid (HB.out.trans (hb1.mono hz)); clear hb1 hb1'))
      all_goals
        go_wp2_with fail
        exact ⟨⟨k + 1, by omega, by go_num, HB1.out⟩, by simp [intOf]; omega⟩
    · obtain rfl : n = k := by omega
      go_wp2_with fail
      go_ret
      exact ⟨rfl, hb⟩
end Go.Proofs.Ythlpchojlddnbaa.Sc

