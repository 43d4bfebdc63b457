/- Words and lemmas, merged (once: ScTabs, ScNewOk) -/
import Derived.Test.YtfdbmhelcmifoaaGreatAppOne
import Derived.Test.YtfdbmhelcmifoaaGreatGrCopy
import Derived.Test.YtfdbmhelcmifoaaGreatKiT
namespace Go.Proofs.YtfdbmhelcmifoaaGreat.Sc
open Go.RowKit Go.Proofs.YtfdbmhelcmifoaaGreat.Bytes Go.Proofs.YtfdbmhelcmifoaaGreat.Rows_ Go.Proofs.YtfdbmhelcmifoaaGreat.RowK Go.Proofs.YtfdbmhelcmifoaaGreat.Gr Go.Proofs.YtfdbmhelcmifoaaGreat.DOk
set_option linter.unusedVariables false
def tabsK (k : Nat) : List Int := (List.range k).map fun i : Nat => 8 * (i : Int) + 8
theorem tabsK_succ (k : Nat) : tabsK (k + 1) = tabsK k ++ [8 * (k : Int) + 8] := by simp [tabsK, List.range_succ]
theorem tabsK_len (k : Nat) : (tabsK k).length = k := by simp [tabsK]
def AnsTabs (n : Nat) (w : World) (e : Ending) (w' : World) : Prop := ∃ A c, e = .returned (.slice A n c) ∧ OwnI w' w.heap.size A n c (tabsK n) ∧ Below w.heap.size w w'
theorem iv_snoc (zs : List Int) (z : Int) : iv zs ++ [.int .i64 z] = iv (zs ++ [z]) := by simp [iv]
set_option maxRecDepth 100000 in
set_option maxHeartbeats 1600000 in
theorem newTabs_any (W : Nat) (w : World) (h1 : 1 ≤ W) (h2 : W ≤ 120) : Calls Tryz.prog 200 #[.int .i64 (W : Int)] w (AnsTabs ((W - 1) / 8) w) := by
  obtain ⟨i0, hi, hz0, hz1, hz2⟩ := info_parts intInfo
  obtain ⟨n, hn⟩ : ∃ n, n = (W - 1) / 8 := ⟨_, rfl⟩
  have hn1 : 8 * n + 8 ≥ W := by omega
  have hn2 : 8 * n < W := by omega
  rw [← hn]
  clear hn
  go_enter Tryz.func200, Tryz.ntmps200
  go_wp2_with fail
  go_loopw [3, 4] (fun v x wr => ∃ (k : Nat) (A : Option Addr) (c : Nat), k ≤ n ∧ v = .slice A k c ∧ x = .int .i64 (8 * (k : Int) + 8) ∧ OwnI wr w.heap.size A k c (tabsK k) ∧ Below w.heap.size w wr) (fun _ x _ => 1000 - (intOf x).toNat)
  case atStart => exact ⟨0, none, 0, Nat.zero_le _, rfl, rfl, World.ownsRow_nil w _ _ _, Below.refl _ _⟩
  case round =>
    obtain ⟨k, A, c, hk, rfl, rfl, ho, hb⟩ := hrel
    have hz : w.heap.size ≤ wr.heap.size := hb.size
    have HO := Lib.hid ho
    have HB := Lib.hid hb
    clear ho hb
    by_cases hlt : k < n
    · have hlt' : 8 * (k : Int) + 8 < (W : Int) := by omega
      go_wp2_with (at_builtin; refine AppOne.append_one Tryz.underlying28 hi hz0 hz1 hz2 rfl (by decide) rfl _ _ rfl rfl wr.heap.size rfl rfl HO.out rfl (by omega) (by omega) ?_)
      intro A' c' w' ho' hg' _
      have HO' := Lib.hid (show OwnI w' w.heap.size A' (k + 1) c' (tabsK (k + 1)) by rw [tabsK_succ]; unfold OwnI; rw [← iv_snoc]; exact ho')
      have HB' := Lib.hid (HB.out.grown hg' hz (fun g hg => (HO.out.blk g hg).1))
      clear ho' hg'
      go_wp2_with fail
      exact ⟨⟨k + 1, A', c', by omega, rfl, by go_num, HO'.out, HB'.out⟩, by simp [intOf]; omega⟩
    · obtain rfl : n = k := by omega
      have hlt' : ¬ 8 * (n : Int) + 8 < (W : Int) := by omega
      go_wp2_with fail
      go_ret
      exact ⟨_, _, rfl, HO.out, HB.out⟩
set_option maxRecDepth 100000 in
set_option maxHeartbeats 1600000 in
theorem l09Tabs_any (W : Nat) (w : World) (h1 : 1 ≤ W) (h2 : W ≤ 120) : Calls Tryz.prog 90 #[.int .i64 (W : Int)] w (AnsTabs ((W - 1) / 8) w) := by
  obtain ⟨i0, hi, hz0, hz1, hz2⟩ := info_parts intInfo
  obtain ⟨n, hn⟩ : ∃ n, n = (W - 1) / 8 := ⟨_, rfl⟩
  have hn1 : 8 * n + 8 ≥ W := by omega
  have hn2 : 8 * n < W := by omega
  rw [← hn]
  clear hn
  go_enter Tryz.func90, Tryz.ntmps90
  go_wp2_with fail
  go_loopw [3, 4] (fun v x wr => ∃ (k : Nat) (A : Option Addr) (c : Nat), k ≤ n ∧ v = .slice A k c ∧ x = .int .i64 (8 * (k : Int) + 8) ∧ OwnI wr w.heap.size A k c (tabsK k) ∧ Below w.heap.size w wr) (fun _ x _ => 1000 - (intOf x).toNat)
  case atStart => exact ⟨0, _, 0, Nat.zero_le _, rfl, rfl, own_empty w _ _, (Below.refl w.heap.size w).alloc (Nat.le_refl _) _⟩
  case round =>
    obtain ⟨k, A, c, hk, rfl, rfl, ho, hb⟩ := hrel
    have hz : w.heap.size ≤ wr.heap.size := hb.size
    have HO := Lib.hid ho
    have HB := Lib.hid hb
    clear ho hb
    by_cases hlt : k < n
    · have hlt' : 8 * (k : Int) + 8 < (W : Int) := by omega
      go_wp2_with (at_builtin; refine AppOne.append_one Tryz.underlying28 hi hz0 hz1 hz2 rfl (by decide) rfl _ _ rfl rfl wr.heap.size rfl rfl HO.out rfl (by omega) (by omega) ?_)
      intro A' c' w' ho' hg' _
      have HO' := Lib.hid (show OwnI w' w.heap.size A' (k + 1) c' (tabsK (k + 1)) by rw [tabsK_succ]; unfold OwnI; rw [← iv_snoc]; exact ho')
      have HB' := Lib.hid (HB.out.grown hg' hz (fun g hg => (HO.out.blk g hg).1))
      clear ho' hg'
      go_wp2_with fail
      exact ⟨⟨k + 1, A', c', by omega, rfl, by go_num, HO'.out, HB'.out⟩, by simp [intOf]; omega⟩
    · obtain rfl : n = k := by omega
      have hlt' : ¬ 8 * (n : Int) + 8 < (W : Int) := by omega
      go_wp2_with fail
      go_ret
      exact ⟨_, _, rfl, HO.out, HB.out⟩
end Go.Proofs.YtfdbmhelcmifoaaGreat.Sc
namespace Go.Proofs.YtfdbmhelcmifoaaGreat.Sc
open Go.Proofs.YtfdbmhelcmifoaaGreat.Gr Go.Proofs.YtfdbmhelcmifoaaGreat.DOk Go.Proofs.YtfdbmhelcmifoaaGreat.Attr
set_option linter.unusedVariables false
theorem lastOf_app' : ∀ (last : Int) (l : List Int) (t : Int), lastOf last (l ++ [t]) = t
  | _, [], _ => rfl
  | _, a :: l, t => lastOf_app' a l t
theorem okT_tabs (w : Int) : ∀ n : Nat, 8 * (n : Int) < w → okT (-1) w (tabsK n) = true ∧ lastOf (-1) (tabsK n) < 8 * (n : Int) + 1
  | 0, _ => ⟨rfl, by show (-1 : Int) < _; omega⟩
  | n + 1, h => by
    obtain ⟨h1, h2⟩ := okT_tabs w n (by omega)
    rw [tabsK_succ, okT_app, h1, lastOf_app', Bool.true_and]
    refine ⟨?_, by omega⟩
    show (decide (lastOf (-1) (tabsK n) < 8 * (n : Int) + 8 ∧ 8 * (n : Int) + 8 < w) && true) = true
    rw [Bool.and_true]
    exact decide_eq_true ⟨by omega, by omega⟩
theorem okG_rep {W H : Nat} (h : sizeB (W : Int) (H : Int) = true) : okG (W : Int) (H : Int) (List.replicate (W * H) blankC) = true := by
  unfold okG
  have h1 : (List.replicate (W * H) blankC).all okC = true := List.all_eq_true.2 fun c hc => by rw [List.eq_of_mem_replicate hc]; exact okC_blank
  simp [h, h1]
end Go.Proofs.YtfdbmhelcmifoaaGreat.Sc
