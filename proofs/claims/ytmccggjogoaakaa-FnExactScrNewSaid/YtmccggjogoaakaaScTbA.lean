/- Words and lemmas, merged (once: ScTabs, ScNewOk) -/
import Derived.Test.YtmccggjogoaakaaAppOne
import Derived.Test.YtmccggjogoaakaaGrCopy
import Derived.Test.YtmccggjogoaakaaScW
namespace Go.Proofs.Ytmccggjogoaakaa.Sc
open Go.RowKit Go.Proofs.Ytmccggjogoaakaa.Bytes Go.Proofs.Ytmccggjogoaakaa.Rows_ Go.Proofs.Ytmccggjogoaakaa.RowK Go.Proofs.Ytmccggjogoaakaa.Gr Go.Proofs.Ytmccggjogoaakaa.DOk
set_option linter.unusedVariables false
def tabsK (k : Nat) : List Int := (List.range k).map fun i : Nat => 8 * (i : Int) + 8
theorem tabsK_succ (k : Nat) : tabsK (k + 1) = tabsK k ++ [8 * (k : Int) + 8] := by simp [tabsK, List.range_succ]
theorem tabsK_len (k : Nat) : (tabsK k).length = k := by simp [tabsK]
def AnsTabs (n : Nat) (w : World) (e : Ending) (w' : World) : Prop := ∃ A c, e = .returned (.slice A n c) ∧ OwnI w' w.heap.size A n c (tabsK n) ∧ Below w.heap.size w w'
theorem iv_snoc (zs : List Int) (z : Int) : iv zs ++ [.int .i64 z] = iv (zs ++ [z]) := by simp [iv]
set_option maxRecDepth 100000 in
set_option maxHeartbeats 1600000 in
theorem newTabs_any (W : Nat) (w : World) (h1 : 1 ≤ W) (h2 : W ≤ 120) : Calls Try.prog 62 #[.int .i64 (W : Int)] w (AnsTabs ((W - 1) / 8) w) := by
  obtain ⟨i0, hi, hz0, hz1, hz2⟩ := info_parts intInfo
  obtain ⟨n, hn⟩ : ∃ n, n = (W - 1) / 8 := ⟨_, rfl⟩
  have hn1 : 8 * n + 8 ≥ W := by omega
  have hn2 : 8 * n < W := by omega
  rw [← hn]
  clear hn
  go_enter Try.func62, Try.ntmps62
  go_wp2_with fail
  go_loopw [3, 4] (fun v x wr => ∃ (k : Nat) (A : Option Addr) (c : Nat), k ≤ n ∧ v = .slice A k c ∧ x = .int .i64 (8 * (k : Int) + 8) ∧ OwnI wr w.heap.size A k c (tabsK k) ∧ Below w.heap.size w wr) (fun _ x _ => 1000 - (intOf x).toNat)
  case atStart => exact ⟨0, none, 0, Nat.zero_le _, rfl, rfl, World.ownsRow_nil w _ _ _, Below.refl _ _⟩
  case round =>
    obtain ⟨k, A, c, hk, rfl, rfl, ho, hb⟩ := hrel
    have hz : w.heap.size ≤ wr.heap.size := hb.size
    have HO := Lib.hid ho
    have HB := Lib.hid hb
    clear ho hb
    by_cases hlt : k < n
    · have hlt' : 8 * (k : Int) + 8 < (W : Int) := by omega
      go_wp2_with (at_builtin; refine AppOne.append_one Try.underlying36 hi hz0 hz1 hz2 rfl (by decide) rfl _ _ rfl rfl wr.heap.size rfl rfl HO.out rfl (by omega) (by omega) ?_)
      intro A' c' w' ho' hg' _
      have HO' := Lib.hid (show OwnI w' w.heap.size A' (k + 1) c' (tabsK (k + 1)) by rw [tabsK_succ]; unfold OwnI; rw [← iv_snoc]; exact ho')
      have HB' := Lib.hid (HB.out.grown hg' hz (fun g hg => (HO.out.blk g hg).1))
      clear ho' hg'
      go_wp2_with fail
      exact ⟨⟨k + 1, A', c', by omega, rfl, by go_num, HO'.out, HB'.out⟩, by simp [intOf]; omega⟩
    · obtain rfl : n = k := by omega
      have hlt' : ¬ 8 * (n : Int) + 8 < (W : Int) := by omega
      go_wp2_with fail
      go_ret
      exact ⟨_, _, rfl, HO.out, HB.out⟩
set_option maxRecDepth 100000 in
set_option maxHeartbeats 1600000 in
theorem l09Tabs_any (W : Nat) (w : World) (h1 : 1 ≤ W) (h2 : W ≤ 120) : Calls Try.prog 60 #[.int .i64 (W : Int)] w (AnsTabs ((W - 1) / 8) w) := by
  obtain ⟨i0, hi, hz0, hz1, hz2⟩ := info_parts intInfo
  obtain ⟨n, hn⟩ : ∃ n, n = (W - 1) / 8 := ⟨_, rfl⟩
  have hn1 : 8 * n + 8 ≥ W := by omega
  have hn2 : 8 * n < W := by omega
  rw [← hn]
  clear hn
  go_enter Try.func60, Try.ntmps60
  go_wp2_with fail
  go_loopw [3, 4] (fun v x wr => ∃ (k : Nat) (A : Option Addr) (c : Nat), k ≤ n ∧ v = .slice A k c ∧ x = .int .i64 (8 * (k : Int) + 8) ∧ OwnI wr w.heap.size A k c (tabsK k) ∧ Below w.heap.size w wr) (fun _ x _ => 1000 - (intOf x).toNat)
  case atStart => exact ⟨0, _, 0, Nat.zero_le _, rfl, rfl, own_empty w _ _, (Below.refl w.heap.size w).alloc (Nat.le_refl _) _⟩
  case round =>
    obtain ⟨k, A, c, hk, rfl, rfl, ho, hb⟩ := hrel
    have hz : w.heap.size ≤ wr.heap.size := hb.size
    have HO := Lib.hid ho
    have HB := Lib.hid hb
    clear ho hb
    by_cases hlt : k < n
    · have hlt' : 8 * (k : Int) + 8 < (W : Int) := by omega
      go_wp2_with (at_builtin; refine AppOne.append_one Try.underlying36 hi hz0 hz1 hz2 rfl (by decide) rfl _ _ rfl rfl wr.heap.size rfl rfl HO.out rfl (by omega) (by omega) ?_)
      intro A' c' w' ho' hg' _
      have HO' := Lib.hid (show OwnI w' w.heap.size A' (k + 1) c' (tabsK (k + 1)) by rw [tabsK_succ]; unfold OwnI; rw [← iv_snoc]; exact ho')
      have HB' := Lib.hid (HB.out.grown hg' hz (fun g hg => (HO.out.blk g hg).1))
      clear ho' hg'
      go_wp2_with fail
      exact ⟨⟨k + 1, A', c', by omega, rfl, by go_num, HO'.out, HB'.out⟩, by simp [intOf]; omega⟩
    · obtain rfl : n = k := by omega
      have hlt' : ¬ 8 * (n : Int) + 8 < (W : Int) := by omega
      go_wp2_with fail
      go_ret
      exact ⟨_, _, rfl, HO.out, HB.out⟩
end Go.Proofs.Ytmccggjogoaakaa.Sc

