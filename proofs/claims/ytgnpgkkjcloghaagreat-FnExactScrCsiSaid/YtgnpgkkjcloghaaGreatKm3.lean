/- Texts that lay in modules of their own: ScTo, ScO. -/
import Derived.Test.YtgnpgkkjcloghaaGreatKm2
import Derived.Deep.RegionHeld3
set_option maxRecDepth 100000
set_option maxHeartbeats 3200000
set_option linter.unusedVariables false
namespace Go.Proofs.YtgnpgkkjcloghaaGreat.Sc
open Lib
open Go.RowKit Bytes Rows_ RowK Gr DOk Opq
attribute [local go_sem ↓] Go.wp_at_zero Go.wp_at_succ
theorem toRow_any (A : Option Addr) (n c : Nat) (cs : List CellD) (w : World) (hr : RdC w w.heap.size A cs) (hl : cs.length = n) (hn : n ≤ 2097152) :
    Calls Tryz.prog 57 #[.agg #[.slice A n c]] w fun e w' => ∃ A' c', e = .returned (.agg #[.slice A' n c']) ∧ OwnC w' w.heap.size A' n c' cs ∧ Below w.heap.size w w' := by
  have HR := hid hr
  have HL := hid hl
  clear hr hl
  have hb0 := hid ((((Below.refl w.heap.size w).alloc (Nat.le_refl _) (.cells #[.slice A n c] 67)).alloc (by simp) (.cells #[.slice none 0 0] 71)).alloc (by simp; omega) (.cells #[.slice none 0 0] 71))
  go_enter Tryz.func57, Tryz.ntmps57
  go_wp2_with fail
  refine (toCellS_any A n c cs _ ((HR.out.below (Nat.le_refl _) hb0.out).more (by simp; omega)) HL.out (by omega)).mono ?_
  rintro e v1 ⟨A1, c1, rfl, ho1, hb1⟩
  have HO := hid ho1
  have HB1 := hid hb1
  obtain ⟨hc, hf⟩ := Rows_.bcell hb1
  have hz : w.heap.size + 2 < v1.heap.size := by have := hb1.size; simp at this; omega
  clear ho1 hb1
  have s1 : w.heap.size < w.heap.size + 1 + 1 + 1 := by omega
  have s2 : w.heap.size + 1 < w.heap.size + 1 + 1 + 1 := by omega
  go_wp2_with fail
  refine bodyPost_ret (v := .agg #[.slice A1 n c1]) (by simp [results, Tryz.results57, go_sem, hc]) rfl ⟨A1, c1, rfl, ?_, ?_⟩
  · have h0 := HO.out.more (base' := w.heap.size + 3) (by simp)
    have h1 := own_setK (own_setK h0 (w.heap.size + 1 + 1) 0 (.slice A1 n c1) (by omega)) (w.heap.size + 1) 0 (.slice A1 n c1) (by omega)
    exact own_moreK h1 (by omega)
  · have h0 := hb0.out.trans (HB1.out.mono (by simp; omega))
    exact (h0.setCell (by simp; omega) _).setCell (by simp) _
def zR : List Value := [.slice none 0 0]
def partR (gs : List SlC) (n k : Nat) : List Value := (gs.map rowR ++ List.replicate (n - k) zR).flatten
theorem toRowS_any (A : Option Addr) (n c : Nat) (rs : List SlC) (w : World) (hr : RdR w w.heap.size A rs) (hl : rs.length = n) (hn : n ≤ 2097152) (hrc : RdCs w w.heap.size rs) (hcn : ∀ r ∈ rs, r.cs.length ≤ 2097152) :
    Calls Tryz.prog 23 #[.slice A n c] w fun e w' => ∃ A' c' gs, e = .returned (.slice A' n c') ∧ OwnR w' w.heap.size A' n c' gs ∧ gs.map (·.cs) = rs.map (·.cs) ∧ OwnCs w' w.heap.size gs ∧ Below w.heap.size w w' := by
  obtain ⟨i0, hi, hz0, hz1, hz2⟩ := info_parts rowInfo
  have hm : n ≤ maxLen := by unfold maxLen; omega
  have HL := hid hl
  have HR := hid hr
  have HRB := hid hrc
  have HFN := hid hcn
  clear hl hr hrc hcn
  go_enter Tryz.func23, Tryz.ntmps23
  go_wp2_with (at_make; refine wpList_make_full _ rfl _ _ 36 rfl w.heap.size 71 i0 (.agg #[.slice none 0 0]) 1 Tryz.underlying36 hi hz0 hz1 _ _ _ _ n rfl rfl rfl rfl ?c1 hm (Nat.le_refl _) ?_)
  case c1 => rw [hz2]; omega
  intro w1 hown hgrow
  have hown' : w1.ownsRow w.heap.size 71 1 (.slice (some ⟨w.heap.size, 0, none⟩) n n) n (partR [] n 0) := by
    have h := made_flat #[Value.slice none 0 0] 1 n rfl (by omega)
    rw [Nat.mul_one] at h
    rw [h] at hown
    exact hown
  have hb1 : Below w.heap.size w w1 := (Below.refl _ _).grown hgrow (Nat.le_refl _) (by simp)
  have hz1' : w.heap.size < w1.heap.size := by
    rcases hown'.2 with ⟨h, _⟩ | ⟨g, cap, cur, h, _, hg, _⟩
    · cases h
    · injection h with h; injection h with h; injection h with h; subst h; exact (Array.getElem?_eq_some_iff.1 hg).1
  clear hown hgrow
  go_wp2_with fail
  go_loopw [4] (fun i wr => ∃ (k : Nat) (gs : List SlC), k ≤ n ∧ i = .int .i64 k ∧ wr.ownsRow w.heap.size 71 1 (.slice (some ⟨w.heap.size, 0, none⟩) n n) n (partR gs n k) ∧ Hid (gs.map (·.cs) = (rs.take k).map (·.cs)) ∧ OwnCs wr (w.heap.size + 1) gs ∧ Below w.heap.size w wr ∧ w.heap.size < wr.heap.size) (fun i _ => n - (intOf i).toNat)
  case atStart => exact ⟨0, [], Nat.zero_le _, rfl, hown', hid rfl, OwnCs.nil _ _, hb1, hz1'⟩
  case round =>
    obtain ⟨k, gs, hk, rfl, ho, HK, hbs, hb, hzr⟩ := hrel
    clear hown' hb1 hz1'
    have hz : w.heap.size ≤ wr.heap.size := hb.size
    by_cases hlt : k < n
    · have hlt' : k < rs.length := by rw [HL.out]; exact hlt
      obtain ⟨b, o, rfl, hB, hc0⟩ := (HR.out.below (Nat.le_refl _) hb).at_ hlt'
      have HB := hid hb
      have HBS := hid hbs
      have HRb := hid (((HRB.out _ (List.getElem_mem hlt')).below (Nat.le_refl _) hb).more hz)
      have hRn := HFN.out _ (List.getElem_mem hlt')
      have HGL := hid (show (gs.map rowR).length = k by
        have := congrArg List.length HK.out
        rw [List.length_map, List.length_map, List.length_take] at this
        rw [List.length_map]; omega)
      have HPO := hid (show partR gs n k = (gs.map rowR ++ [[Value.slice none 0 0]] ++ List.replicate (n - (k + 1)) zR).flatten by
        unfold partR; rw [rep_flat zR n k hlt, ← List.append_assoc]; rfl)
      have HKN := hid (show (rs.take (k + 1)).map (·.cs) = (rs.take k).map (·.cs) ++ [rs[k].cs] by
        rw [List.take_succ_eq_append_getElem hlt', List.map_append]; rfl)
      have HO := hid ho
      clear hb ho hbs
      generalize rs[k].A = x1 at *
      generalize rs[k].c = x3 at *
      generalize rs[k].cs = zs at *
      obtain ⟨x2, hx2⟩ : ∃ x, x = zs.length := ⟨_, rfl⟩
      rw [← hx2] at hc0 hRn
      have HX2 := hid hx2
      clear hx2
      go_wp2_with fail
      refine (toRow_any x1 x2 x3 zs _ HRb.out HX2.out.symm hRn).mono ?_
      rintro e v ⟨A2, c2, rfl, ho2, hb1⟩
      have HOv := hid (own_belowK HO.out (Nat.le_refl _) hb1)
      have HBv := hid (HB.out.trans (hb1.mono hz))
      have hzv : w.heap.size < v.heap.size := by have := hb1.size; omega
      have HBSv := hid (show OwnCs v (w.heap.size + 1) (gs ++ [⟨A2, c2, zs⟩]) from ⟨fun f hf => by
        rcases List.mem_append.1 hf with hf | hf
        · exact (HBS.out.1 f hf).below (Nat.le_refl _) hb1
        · simp at hf; subst hf; show OwnC v _ A2 zs.length c2 zs; rw [← HX2.out]; exact ho2.more (by omega), List.pairwise_append.2 ⟨HBS.out.2, List.pairwise_singleton _ _, fun a ha b hb => by
          rw [List.mem_singleton] at hb; subst hb; exact apart_of (HBS.out.1 a ha) (y := ⟨A2, c2, zs⟩) (by show OwnC v _ A2 zs.length c2 zs; rw [← HX2.out]; exact ho2) (Nat.le_refl _)⟩⟩)
      obtain ⟨u0, hu0⟩ := own_there HOv.out (k) (by omega)
      have hf0 := World.ownsRow.frozenAt (h := HOv.out) (k)
      have HN := hid (show (v.setCell ⟨w.heap.size, k, none⟩ (.slice A2 x2 c2)).ownsRow w.heap.size 71 1 (.slice (some ⟨w.heap.size, 0, none⟩) n n) n (partR (gs ++ [⟨A2, c2, zs⟩]) n (k + 1)) by
        have h := HOv.out; rw [HPO.out] at h
        have h2 := rowJ (K := 1) rfl (row_len _) k HGL.out 0 (by omega) (.slice A2 x2 c2) h
        rw [Nat.mul_one, Nat.add_zero] at h2
        unfold partR; rw [List.map_append, HX2.out]; rw [HX2.out] at h2; exact h2)
      have HK2 := hid (show (gs ++ [(⟨A2, c2, zs⟩ : SlC)]).map (·.cs) = (rs.take (k + 1)).map (·.cs) by rw [List.map_append, HK.out, HKN.out]; rfl)
      clear hb1 ho2
      go_wp2_with fail
      exact ⟨⟨k + 1, gs ++ [⟨A2, c2, zs⟩], by omega, by go_num, HN.out, HK2, HBSv.out.set_ _ _ _ (by omega), HBv.out.setCell (Nat.le_refl _) _, by simp; exact hzv⟩, by simp [intOf]; omega⟩
    · obtain rfl : n = k := by omega
      have e : rs.take n = rs := List.take_of_length_le (by rw [HL.out]; exact Nat.le_refl _)
      have hK := HK.out
      rw [e] at hK
      have HK2 := hid hK
      have e2 : partR gs n n = (gs.map rowR).flatten := by unfold partR; simp
      rw [e2] at ho
      have HRF := hid (show OwnR wr w.heap.size (some ⟨w.heap.size, 0, none⟩) n n gs from OwnR.of ho)
      have HRBs := hid (show OwnCs wr w.heap.size gs from hbs.more (by omega))
      have HB := hid hb
      clear ho hbs hb hK e e2
      go_wp2_with fail
      go_ret
      exact ⟨_, _, rfl, gs, HRF.out, HK2.out, HRBs.out, HB.out⟩
def tot (rs : List SlC) : Nat := (rs.map fun r => r.cs.length).sum
theorem tot_take (rs : List SlC) (k : Nat) (h : k < rs.length) : tot (rs.take (k + 1)) = tot (rs.take k) + rs[k].cs.length := by
  unfold tot; rw [List.take_succ_eq_append_getElem h, List.map_append, List.sum_append]; simp
theorem tot_mem : ∀ {rs : List SlC} {r : SlC} (h : r ∈ rs), r.cs.length ≤ tot rs
  | x :: rs, r, h => by
    have e : tot (x :: rs) = x.cs.length + tot rs := by simp [tot]
    rcases List.mem_cons.1 h with rfl | h
    · omega
    · have := tot_mem h; omega
def Left (left : Int) (n : Nat) (B : Nat) (w : World) (e : Ending) (w' : World) : Prop := ∃ r : Int, e = .returned (.int .i64 r) ∧ (r = -1 ∨ (0 ≤ r ∧ r = left - n)) ∧ Below B w w'
theorem szRow_any (A : Option Addr) (n c : Nat) (left : Int) (w : World) (hn : n ≤ 9223372036854775807) (h0 : 0 ≤ left) (h1 : left ≤ 1048576) :
    Calls Tryz.prog 34 #[.agg #[.slice A n c], .int .i64 left] w (Left left n w.heap.size w) := by
  have hb0 := hid ((Below.refl w.heap.size w).alloc (Nat.le_refl _) (.cells #[.slice A n c] 67))
  have hS := hid (fun W => szCellS_any A n c left W hn h0 h1)
  by_cases h : left < (n : Int)
  · rw [if_pos h] at hS
    go_enter Tryz.func34, Tryz.ntmps34
    go_wp2_with fail
    refine (hS.out _).mono ?_
    rintro e w' ⟨rfl, rfl⟩
    go_wp2_with fail
    go_ret
    exact ⟨-1, rfl, .inl rfl, hb0.out⟩
  · rw [if_neg h] at hS
    have h2 : 0 ≤ left - (n : Int) := by omega
    go_enter Tryz.func34, Tryz.ntmps34
    go_wp2_with fail
    refine (hS.out _).mono ?_
    rintro e w' ⟨rfl, rfl⟩
    go_wp2_with fail
    go_ret
    exact ⟨left - n, rfl, .inr ⟨h2, rfl⟩, hb0.out⟩
theorem szRowS_any (A : Option Addr) (n c : Nat) (rs : List SlC) (left : Int) (w : World) (hr : RdR w w.heap.size A rs) (hl : rs.length = n) (hn : n ≤ 9223372036854775807) (hcn : ∀ r ∈ rs, r.cs.length ≤ 9223372036854775807) (h0 : 0 ≤ left) (h1 : left ≤ 1048576) :
    Calls Tryz.prog 16 #[.slice A n c, .int .i64 left] w (Left left (n + tot rs) w.heap.size w) := by
  have HL := hid hl
  have HR := hid hr
  have HFN := hid hcn
  clear hl hr hcn
  by_cases h : left < (n : Int)
  · have h2 : left - (n : Int) < 0 := by omega
    go_enter Tryz.func16, Tryz.ntmps16
    go_wp2_with fail
    go_ret
    exact ⟨-1, rfl, .inl rfl, Below.refl _ _⟩
  have h2 : 0 ≤ left - (n : Int) := by omega
  go_enter Tryz.func16, Tryz.ntmps16
  go_wp2_with fail
  go_loopw [1, 5] (fun m i wr => ∃ (k : Nat) (z : Int), k ≤ n ∧ i = .int .i64 k ∧ m = .int .i64 z ∧ 0 ≤ z ∧ z = left - n - tot (rs.take k) ∧ Below w.heap.size w wr) (fun _ i _ => n - (intOf i).toNat)
  case atStart => exact ⟨0, left - n, Nat.zero_le _, rfl, rfl, h2, by simp [tot], Below.refl _ _⟩
  case round =>
    obtain ⟨k, z, hk, rfl, rfl, hz0, hze, hb⟩ := hrel
    have HZE := hid hze
    have hz1 : z ≤ 1048576 := by omega
    clear hze
    have hz : w.heap.size ≤ wr.heap.size := hb.size
    by_cases hlt : k < n
    · have hlt' : k < rs.length := by rw [HL.out]; exact hlt
      obtain ⟨b, o, rfl, hB, hc0⟩ := (HR.out.below (Nat.le_refl _) hb).at_ hlt'
      have HB := hid hb
      have hRn := HFN.out _ (List.getElem_mem hlt')
      have HT := hid (tot_take rs k hlt')
      clear hb
      generalize rs[k].A = x1 at *
      generalize rs[k].c = x3 at *
      generalize rs[k].cs.length = x2 at *
      go_wp2_with fail
      refine (szRow_any x1 x2 x3 z _ hRn hz0 hz1).mono ?_
      rintro e v ⟨r, rfl, hr, hb1⟩
      have HBv := hid (HB.out.trans (hb1.mono hz))
      clear hb1
      rcases hr with rfl | ⟨hr0, hr1⟩
      · go_wp2_with fail
        go_ret
        exact ⟨-1, rfl, .inl rfl, HBv.out⟩
      · have HR1 := hid hr1
        clear hr1
        go_wp2_with fail
        exact ⟨⟨k + 1, r, by omega, by go_num, rfl, hr0, by rw [HR1.out, HT.out, HZE.out]; omega, HBv.out⟩, by simp [intOf]; omega⟩
    · obtain rfl : n = k := by omega
      have HE := hid (show rs.take n = rs from List.take_of_length_le (by rw [HL.out]; exact Nat.le_refl _))
      have HB := hid hb
      clear hb
      go_wp2_with fail
      go_ret
      exact ⟨z, rfl, .inr ⟨hz0, by rw [HZE.out, HE.out]; omega⟩, HB.out⟩
theorem eqRow_yes (F G : Option Addr) (n c c' : Nat) (cs : List CellD) (w : World) (hf : RdC w w.heap.size F cs) (hg : RdC w w.heap.size G cs) (hl : cs.length = n) (hn : n ≤ 1099511627776) :
    Calls Tryz.prog 63 #[.agg #[.slice F n c], .agg #[.slice G n c']] w fun e w' => e = .returned (.bool true) ∧ Below w.heap.size w w' := by
  have hb0 := hid (((Below.refl w.heap.size w).alloc (Nat.le_refl _) (.cells #[.slice F n c] 71)).alloc (by simp) (.cells #[.slice G n c'] 71))
  have HF := hid hf
  have HG := hid hg
  have HL := hid hl
  clear hf hg hl
  go_enter Tryz.func63, Tryz.ntmps63
  go_wp2_with fail
  refine (eqCellS_yes F G n c c' cs _ ((HF.out.below (Nat.le_refl _) hb0.out).more hb0.out.size) ((HG.out.below (Nat.le_refl _) hb0.out).more hb0.out.size) HL.out hn).mono ?_
  rintro e v1 ⟨rfl, hb1⟩
  have HB1 := hid (hb0.out.trans (hb1.mono (by simp; omega)))
  clear hb1
  go_wp2_with fail
  go_ret
  exact ⟨rfl, HB1.out⟩
theorem eqRowS_yes (A A' : Option Addr) (n c c' : Nat) (fs gs : List SlC) (w : World) (hx : RdR w w.heap.size A fs) (hy : RdR w w.heap.size A' gs) (hl : fs.length = n) (hn : n ≤ 1099511627776) (he : gs.map (·.cs) = fs.map (·.cs)) (hxc : RdCs w w.heap.size fs) (hyc : RdCs w w.heap.size gs) (hcn : ∀ r ∈ fs, r.cs.length ≤ 1099511627776) :
    Calls Tryz.prog 27 #[.slice A n c, .slice A' n c'] w fun e w' => e = .returned (.bool true) ∧ Below w.heap.size w w' := by
  have hl2 : gs.length = n := by have := congrArg List.length he; rw [List.length_map, List.length_map] at this; omega
  have HX := hid hx
  have HY := hid hy
  have HXC := hid hxc
  have HYC := hid hyc
  have HL := hid hl
  have HL2 := hid hl2
  have HCN := hid hcn
  have HE := hid he
  have hnn : (n != n) = false := by simp
  clear hx hy hxc hyc hl hl2 hcn he
  go_enter Tryz.func27, Tryz.ntmps27
  go_wp2_with fail
  go_loopw [5] (fun i wr => ∃ k : Nat, k ≤ n ∧ i = .int .i64 k ∧ Below w.heap.size w wr) (fun i _ => n - (intOf i).toNat)
  case atStart => exact ⟨0, Nat.zero_le _, rfl, Below.refl _ _⟩
  case round =>
    obtain ⟨k, hk, rfl, hb⟩ := hrel
    have hz : w.heap.size ≤ wr.heap.size := hb.size
    by_cases hlt : k < n
    · have h1 : k < fs.length := by rw [HL.out]; exact hlt
      have h2 : k < gs.length := by rw [HL2.out]; exact hlt
      obtain ⟨b, o, rfl, hB, hc0⟩ := (HX.out.below (Nat.le_refl _) hb).at_ h1
      obtain ⟨b', o', rfl, hB', hd0⟩ := (HY.out.below (Nat.le_refl _) hb).at_ h2
      have hee : gs[k].cs = fs[k].cs := by
        have := congrArg (fun l => l[k]?) HE.out
        simpa [h1, h2] using this
      have HRF := hid (((HXC.out _ (List.getElem_mem h1)).below (Nat.le_refl _) hb).more hz)
      have HRG := hid (((HYC.out _ (List.getElem_mem h2)).below (Nat.le_refl _) hb).more hz)
      rw [hee] at hd0 HRG
      have hcl := HCN.out _ (List.getElem_mem h1)
      have HB := hid hb
      clear hb hee
      generalize fs[k].A = x1 at *
      generalize fs[k].c = x3 at *
      generalize gs[k].A = y1 at *
      generalize gs[k].c = y3 at *
      generalize fs[k].cs = zs at *
      obtain ⟨x2, hx2⟩ : ∃ x, x = zs.length := ⟨_, rfl⟩
      rw [← hx2] at hc0 hd0 hcl
      have HX2 := hid hx2
      clear hx2
      have HRFd := hid (HRF.out.below (Nat.le_refl _) (Below.drew (Below.refl wr.heap.size wr)))
      have HRGd := hid (HRG.out.below (Nat.le_refl _) (Below.drew (Below.refl wr.heap.size wr)))
      go_wp2_with fail
      go_region_held3 (fun w' => w'.cell? ⟨b, o + k, none⟩ = some (.slice x1 x2 x3) ∧ w'.cell? ⟨b', o' + k, none⟩ = some (.slice y1 x2 y3)) (go_keep)
        (first
          | (go_at_call 63; (with_reducible refine (eqRow_yes x1 y1 x2 x3 y3 zs _ HRFd.out HRGd.out HX2.out.symm hcl).mono ?_); rintro e v1 ⟨rfl, hb1'⟩; have hb1 : Below wr.heap.size wr v1 := undrew hb1'; have j0 := (hb1.cell (p := ⟨b, o + k, none⟩) (show b < wr.heap.size by omega)).trans hc0; have j1 := (hb1.cell (p := ⟨b', o' + k, none⟩) (show b' < wr.heap.size by omega)).trans hd0; have HB1 := hid (HB.out.trans (hb1.mono hz)); clear hb1 hb1'))
      all_goals
        go_wp2_with fail
        exact ⟨⟨k + 1, by omega, by go_num, HB1.out⟩, by simp [intOf]; omega⟩
    · obtain rfl : n = k := by omega
      go_wp2_with fail
      go_ret
      exact ⟨rfl, hb⟩
end Go.Proofs.YtgnpgkkjcloghaaGreat.Sc
namespace Go.Proofs.YtgnpgkkjcloghaaGreat.Sc
open Lib
open Go.RowKit Bytes Rows_ RowK Gr DOk Opq
def RowZ (w : World) (b n : Nat) : Prop := ∃ C T, w.heap[b]? = some (.cells C T (0, 0)) ∧ C.size = n
def One (C : Array Value) : Prop := C.all (·.oneCell') = true
theorem RowZ.of {w : World} {b : Nat} {C : Array Value} (h : RowB w b C) (n : Nat) (hn : C.size = n) : RowZ w b n := by obtain ⟨T, h⟩ := h; exact ⟨C, T, h, hn⟩
theorem RowZ.drew {w : World} {b n : Nat} : RowZ w.drew b n ↔ RowZ w b n := Iff.rfl
theorem RowZ.set {w : World} {b n b' j : Nat} {v : Value} : RowZ (w.setCell ⟨b', j, none⟩ v) b n ↔ RowZ w b n := by
  unfold RowZ World.setCell
  simp only [Array.getElem?_modify]
  by_cases e : b' = b
  · subst e
    rw [if_pos rfl]
    constructor
    · rintro ⟨C, T, h, hn⟩
      rcases hq : w.heap[b']? with _ | o
      · rw [hq] at h; simp at h
      · rw [hq] at h
        cases o <;> simp at h
        obtain ⟨rfl, rfl, rfl⟩ := h
        exact ⟨_, _, rfl, by simpa using hn⟩
    · rintro ⟨C, T, h, hn⟩
      exact ⟨_, T, by rw [h]; rfl, by simpa using hn⟩
  · rw [if_neg e]
theorem rowOf_set (w : World) (b j : Nat) (v : Value) : rowOf (w.setCell ⟨b, j, none⟩ v) b = (rowOf w b).setIfInBounds j v := by
  unfold rowOf World.setCell
  simp only [Array.getElem?_modify, if_true]
  rcases w.heap[b]? with _ | o
  · simp
  · cases o <;> simp
theorem size50 : (Tryz.prog.info? 30).map (·.size) = some (30 + 1) := by kernel_rfl
theorem size55 : (Tryz.prog.info? 38).map (·.size) = some (30 + 1) := by kernel_rfl
theorem loadL (w : World) (b : Nat) (h : (rowOf w b).size = 31) : (Instr.loadAt 30 (.pointer (some ⟨b, 0, none⟩))).run Tryz.prog w = .ok (.agg (rowOf w b)) w :=
  run_load_row Tryz.underlying30 rfl size50 w b h
theorem loadS (w : World) (b : Nat) (h : (rowOf w b).size = 31) : (Instr.loadAt 38 (.pointer (some ⟨b, 0, none⟩))).run Tryz.prog w = .ok (.agg (rowOf w b)) w :=
  run_load_row Tryz.underlying38 rfl size55 w b h
theorem storeS (w : World) (b : Nat) (C : Array Value) (hz : RowZ w b 31) (hs : C.size = 31) (h1 : One C) : (Instr.storeAt 38 (.pointer (some ⟨b, 0, none⟩)) (.agg C)).run Tryz.prog w = .ok () (w.setRow b C) := by
  obtain ⟨old, T, hb, ho⟩ := hz
  exact run_store_row size55 w b C old ⟨T, hb⟩ ho hs h1
def blkOf : Value → Nat
  | .pointer (some a) => a.block
  | _ => 0
def isHead : Value → Bool
  | .pointer (some a) => a.off == 0 && a.spot.isNone
  | _ => false
theorem blkOf_ptr (a : Addr) : blkOf (.pointer (some a)) = a.block := rfl
theorem isHead_ptr (b : Nat) : isHead (.pointer (some ⟨b, 0, none⟩)) = true := rfl
theorem of_head {v : Value} (h : isHead v = true) : v = .pointer (some ⟨blkOf v, 0, none⟩) := by
  unfold isHead at h
  split at h
  · rename_i a
    obtain ⟨b, o, s⟩ := a
    simp at h
    obtain ⟨rfl, h⟩ := h
    cases s
    · rfl
    · simp at h
  · cases h
theorem exec_loadL {ρ : Operand → Value} {d : Option Tmp} {x : Operand} {ty : TypeId} {pos : String} {af : Array Edge} {g : Option (Nat × Bool)} (w : World) (hp : isHead (ρ x) = true) (h : (rowOf w (blkOf (ρ x))).size = 31) :
    (execOp ρ ⟨d, .load 30 x, ty, pos, af, g⟩).run Tryz.prog w = .ok (.value (.agg (rowOf w (blkOf (ρ x))))) w := by
  have e := of_head hp
  show (Instr.loadAt 30 (ρ x) >>= fun a => pure (Next.value a)).run _ w = _
  generalize ρ x = v at *
  generalize blkOf v = b at *
  subst e
  rw [Sem.run_bind, loadL w b h]; rfl
theorem exec_loadS {ρ : Operand → Value} {d : Option Tmp} {x : Operand} {ty : TypeId} {pos : String} {af : Array Edge} {g : Option (Nat × Bool)} (w : World) (hp : isHead (ρ x) = true) (h : (rowOf w (blkOf (ρ x))).size = 31) :
    (execOp ρ ⟨d, .load 38 x, ty, pos, af, g⟩).run Tryz.prog w = .ok (.value (.agg (rowOf w (blkOf (ρ x))))) w := by
  have e := of_head hp
  show (Instr.loadAt 38 (ρ x) >>= fun a => pure (Next.value a)).run _ w = _
  generalize ρ x = v at *
  generalize blkOf v = b at *
  subst e
  rw [Sem.run_bind, loadS w b h]; rfl
def aggN (n : Nat) : Value → Bool
  | .agg C => C.size == n
  | _ => false
theorem aggN_agg (n : Nat) (C : Array Value) : (aggN n (.agg C) = true) = (C.size = n) := by simp [aggN]
theorem exec_storeS {ρ : Operand → Value} {d : Option Tmp} {x y : Operand} {ty : TypeId} {pos : String} {af : Array Edge} {g : Option (Nat × Bool)} (w : World) (hp : isHead (ρ x) = true) (ha : aggN 31 (ρ y) = true) (hz : RowZ w (blkOf (ρ x)) 31) (h1 : One (ρ y).cells) :
    (execOp ρ ⟨d, .store 38 x y, ty, pos, af, g⟩).run Tryz.prog w = .ok .skip (w.setRow (blkOf (ρ x)) (ρ y).cells) := by
  have e := of_head hp
  show (Instr.storeAt 38 (ρ x) (ρ y) >>= fun _ => pure Next.skip).run _ w = _
  generalize ρ y = vy at *
  cases vy <;> simp [aggN] at ha
  rename_i C
  generalize ρ x = v at *
  generalize blkOf v = b at *
  subst e
  rw [Sem.run_bind, storeS w b C hz ha h1]; rfl
theorem setRow_alloc (w : World) (c c' : Array Value) (t : TypeId) (n : Nat) (h : n = w.heap.size) : (w.alloc (.cells c t)).setRow n c' = w.alloc (.cells c' t) := by subst h; exact World.setRow_alloc_new w c c' t
theorem rowZ_at (w : World) (c : Array Value) (t : TypeId) (n k : Nat) (h : n = w.heap.size) (hk : c.size = k) : RowZ (w.alloc (.cells c t)) n k := ⟨c, t, by subst h; exact heap_alloc_new w _, hk⟩
theorem rowZ_past (w : World) (o : Obj) (n k : Nat) (h : n < w.heap.size) : RowZ (w.alloc o) n k = RowZ w n k := by unfold RowZ; rw [Below.heap_alloc _ _ _ h]
theorem one_scr (s : ScrS) : One (scrA s) := scrA_one s
theorem res55 {fn : Func} {p : Tmp} (h : fn.results = #[.cell p 38]) (tmps : Array Value) (w : World) (b : Nat) (C : Array Value) (hp : tmps.getD p undef = .pointer (some ⟨b, 0, none⟩)) (hb : RowB w b C) (hs : C.size = 31) : (results fn tmps).run Tryz.prog w = .ok (.agg C) w :=
  results_row h Tryz.underlying38 rfl size55 tmps w b C hp hb hs
theorem scr_at0 (s : ScrS) : (scrA s)[0]? = some (.int .i64 s.w) := rfl
theorem scr_at1 (s : ScrS) : (scrA s)[1]? = some (.int .i64 s.h) := rfl
theorem scr_at2 (s : ScrS) : (scrA s)[2]? = some (.int .i64 s.mw) := rfl
theorem scr_at3 (s : ScrS) : (scrA s)[3]? = some (.int .i64 s.mh) := rfl
theorem scr_at4 (s : ScrS) : (scrA s)[4]? = some (.slice s.M.A s.M.cs.length s.M.c) := rfl
theorem scr_at5 (s : ScrS) : (scrA s)[5]? = some (.int .i64 s.aw) := rfl
theorem scr_at6 (s : ScrS) : (scrA s)[6]? = some (.int .i64 s.ah) := rfl
theorem scr_at7 (s : ScrS) : (scrA s)[7]? = some (.slice s.A.A s.A.cs.length s.A.c) := rfl
theorem scr_at8 (s : ScrS) : (scrA s)[8]? = some (.bool s.onAlt) := rfl
theorem scr_at9 (s : ScrS) : (scrA s)[9]? = some (.int .i64 s.x) := rfl
theorem scr_at10 (s : ScrS) : (scrA s)[10]? = some (.int .i64 s.y) := rfl
theorem scr_at11 (s : ScrS) : (scrA s)[11]? = some (.bool s.wrap) := rfl
theorem scr_at12 (s : ScrS) : (scrA s)[12]? = some (.int .i64 s.fg) := rfl
theorem scr_at13 (s : ScrS) : (scrA s)[13]? = some (.int .i64 s.bg) := rfl
theorem scr_at14 (s : ScrS) : (scrA s)[14]? = some (.bool s.b) := rfl
theorem scr_at15 (s : ScrS) : (scrA s)[15]? = some (.bool s.u) := rfl
theorem scr_at16 (s : ScrS) : (scrA s)[16]? = some (.bool s.t) := rfl
theorem scr_at17 (s : ScrS) : (scrA s)[17]? = some (.int .i64 s.top) := rfl
theorem scr_at18 (s : ScrS) : (scrA s)[18]? = some (.int .i64 s.bot) := rfl
theorem scr_at19 (s : ScrS) : (scrA s)[19]? = some (.bool s.noWrap) := rfl
theorem scr_at20 (s : ScrS) : (scrA s)[20]? = some (.bool s.hide) := rfl
theorem scr_at21 (s : ScrS) : (scrA s)[21]? = some (.int .i64 s.sx) := rfl
theorem scr_at22 (s : ScrS) : (scrA s)[22]? = some (.int .i64 s.sy) := rfl
theorem scr_at23 (s : ScrS) : (scrA s)[23]? = some (.int .i64 s.sfg) := rfl
theorem scr_at24 (s : ScrS) : (scrA s)[24]? = some (.int .i64 s.sbg) := rfl
theorem scr_at25 (s : ScrS) : (scrA s)[25]? = some (.bool s.sb) := rfl
theorem scr_at26 (s : ScrS) : (scrA s)[26]? = some (.bool s.su) := rfl
theorem scr_at27 (s : ScrS) : (scrA s)[27]? = some (.bool s.st) := rfl
theorem scr_at28 (s : ScrS) : (scrA s)[28]? = some (.slice s.tA s.tabs.length s.tk) := rfl
theorem scr_at29 (s : ScrS) : (scrA s)[29]? = some (.int .i64 s.lim) := rfl
theorem scr_at30 (s : ScrS) : (scrA s)[30]? = some (.slice s.bA s.rows.length s.bk) := rfl
end Go.Proofs.YtgnpgkkjcloghaaGreat.Sc
