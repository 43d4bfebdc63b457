/- Contracts of the writing of a snapshot, in the program. -/
import Derived.Test.YteiojpglhmikoaaDoorSnapPlain
import Derived.Test.YteiojpglhmikoaaDoorAppFull
import Derived.Test.YteiojpglhmikoaaDoorAppChk
import Derived.Test.YteiojpglhmikoaaDoorAppVs
import Derived.Lib.SlBytesConst
namespace Go.Proofs.YteiojpglhmikoaaDoor.Snap
open Go.RowKit Go.Proofs.YteiojpglhmikoaaDoor.Bytes Go.Proofs.YteiojpglhmikoaaDoor.Var Go.Proofs.YteiojpglhmikoaaDoor.Crc Go.Proofs.YteiojpglhmikoaaDoor.Frame
set_option linter.unusedVariables false

/-- the row of the four letters, as the walk leaves it -/
abbrev head4 : Obj := .cells #[.int .u8 83, .int .u8 78, .int .u8 65, .int .u8 80] 5 (4, 5)
theorem rd_s4 (w : World) : Rd (w.alloc head4) (w.heap.size + 1) (some ⟨w.heap.size, 0, none⟩) s4 := by
  intro _
  refine ⟨_, _, rfl, Nat.lt_succ_self _, fun k hk => ?_⟩
  rw [Nat.zero_add, World.cell?_alloc_mark]
  match k, hk with
  | 0, _ => rfl
  | 1, _ => rfl
  | 2, _ => rfl
  | 3, _ => rfl
  | k + 4, h => simp [s4] at h; omega
theorem conv_s4 (W : World) : (convert 22 22 (.slice (some ⟨W.heap.size, 0, none⟩) 4 4)).run Tryd.prog (W.alloc (.cells #[.int .u8 83, .int .u8 78, .int .u8 65, .int .u8 80] 5)) = .ok (.slice (some ⟨W.heap.size, 0, none⟩) 4 4) (W.alloc head4) :=
  Lib.run_convert_bytes_const (P := Tryd.prog) W 22 5 #[.int .u8 83, .int .u8 78, .int .u8 65, .int .u8 80] 4 4 Tryd.underlying22 Tryd.underlying5

/-- the numbers behind a full literal: the first append makes a slice of the call's own -/
theorem appendVars_full (W : World) (ad : Addr) (n0 b m cm : Nat) (zs : List Int) (xs : List Nat) (C : Array Value) (hr : Rd W W.heap.size (some ad) zs) (hl : zs.length = n0) (hn0 : n0 ≤ 1000)
    (hm : xs.length = m) (hm0 : 0 < m) (hm1 : m ≤ 1000) (hx : ∀ x ∈ xs, x ≤ 4294967295) (hrb : Opq.RowB W b C) (hb : b < W.heap.size) (hC : ∀ k, k < m → C[k]? = some (.int .i64 (xs.getD k 0 : Nat))) :
    Calls Tryd.prog 22 #[.slice (some ad) n0 n0, .slice (some ⟨b, 0, none⟩) m cm] W fun e w' => ∃ A' n' c', e = .returned (.slice A' n' c') ∧ Own w' W.heap.size A' n' c' (zs ++ Cb.vEncs xs) ∧ Below W.heap.size W w' := by
  refine (Cb.appendVars_from (some ad) n0 n0 W.heap.size b m cm zs xs W (fun a u => Below W.heap.size W a ∧ ∀ g, u.ownBlock = some g → W.heap.size ≤ g) hm hm0 hm1 hx (by omega) ?_ ?_ ?_ ?_ ?_).mono ?_
  · refine (appendVar_full ad n0 zs (xs.getD 0 0) W hr hl (by omega) (Cb.getD_le xs 0 hx)).mono ?_
    rintro e w1 ⟨A1, n1, c1, rfl, ho1, hx1⟩
    exact ⟨A1, n1, c1, rfl, ho1, hx1, fun g hg => (ho1.blk g hg).1⟩
  · exact fun a u d v h g => ⟨h.1.trans (g.below h.1.size h.2), fun x hx => (g.2 x hx).elim (h.2 x) (fun l => Nat.le_trans h.1.size l)⟩
  · exact fun a u h => h.1.size
  · rw [hrb.cell]; exact hC 0 hm0
  · intro a u h k hk
    rw [(hrb.below h.1 hb).cell]; exact hC k hk
  · rintro e w' ⟨A', n', c', rfl, h1, h2, _⟩
    exact ⟨A', n', c', rfl, h1, h2⟩

theorem isGen_yes (s : Int) (w : World) (h0 : 1 ≤ s) (h1 : s ≤ 1000000000) :
    Calls Tryd.prog 20 #[.int .i64 s] w fun e w' => e = .returned (.bool true) ∧ w = w' := by
  go_enter Tryd.func20, Tryd.ntmps20
  go_wp2
  go_ret
  exact ⟨ret_bool (by simp), rfl⟩
theorem isGen_no (s : Int) (w : World) (h0 : s < 1 ∨ 1000000000 < s) :
    Calls Tryd.prog 20 #[.int .i64 s] w fun e w' => e = .returned (.bool false) ∧ w = w' := by
  rcases h0 with h0 | h0 <;>
  · go_enter Tryd.func20, Tryd.ntmps20
    go_wp2
    go_ret
    exact ⟨ret_bool (by simp <;> omega), rfl⟩

theorem isSeq1_yes (s : Int) (w : World) (h0 : 1 ≤ s) (h1 : s ≤ 1000000000) :
    Calls Tryd.prog 21 #[.int .i64 s] w fun e w' => e = .returned (.bool true) ∧ w = w' := by
  go_enter Tryd.func21, Tryd.ntmps21
  go_wp2
  go_ret
  exact ⟨ret_bool (by simp), rfl⟩
theorem isSeq1_no (s : Int) (w : World) (h0 : s < 1 ∨ 1000000000 < s) :
    Calls Tryd.prog 21 #[.int .i64 s] w fun e w' => e = .returned (.bool false) ∧ w = w' := by
  rcases h0 with h0 | h0 <;>
  · go_enter Tryd.func21, Tryd.ntmps21
    go_wp2
    go_ret
    exact ⟨ret_bool (by simp <;> omega), rfl⟩

set_option maxRecDepth 100000 in
set_option maxHeartbeats 1600000 in
theorem impl_yes (A : Option Addr) (n c : Nat) (zs : List Int) (u s : Nat) (w : World) (hA : A = none → n = 0 ∧ c = 0) (hr : Rd w w.heap.size A zs) (hg : Rng zs) (hl : zs.length = n) (hn : n ≤ 150000) (a0 : 1 ≤ u) (a1 : u ≤ 1000000000) (h0 : 1 ≤ s) (h1 : s ≤ 1000000000) :
    Calls Tryd.prog 6 #[.int .i64 u, .int .i64 s, .slice A n c] w fun e w' => ∃ A' n' c', e = .returned (.tuple #[.slice A' n' c', .bool true]) ∧ Own w' w.heap.size A' n' c' (snB u s zs) ∧ Below w.heap.size w w' := by
  have HL := Lib.hid hl
  have HA := Lib.hid hA
  have HR := Lib.hid hr
  have HGD := Lib.hid hg
  clear hl hA hr hg
  obtain ⟨W, hW⟩ : ∃ W, W = (w.alloc head4).alloc (.cells #[.int .i64 (u : Int), .int .i64 (s : Int), .int .i64 (n : Int)] 3) := ⟨_, rfl⟩
  have hb0 : Below w.heap.size w W := by rw [hW]; exact ((Below.refl w.heap.size w).alloc (Nat.le_refl _) head4).alloc (by simp) _
  have hWs : W.heap.size = w.heap.size + 2 := by rw [hW]; simp
  have HRS := Lib.hid (show Rd W W.heap.size (some ⟨w.heap.size, 0, none⟩) s4 from by
    have h := ((rd_s4 w).below (Nat.le_refl _) ((Below.refl (w.heap.size + 1) (w.alloc head4)).alloc (by simp) (.cells #[.int .i64 (u : Int), .int .i64 (s : Int), .int .i64 (n : Int)] 3)))
    rw [hW]; exact h.more (by simp))
  have HRB := Lib.hid (show Opq.RowB W (w.heap.size + 1) #[.int .i64 (u : Int), .int .i64 (s : Int), .int .i64 (n : Int)] from by
    have h := Opq.RowB.new (w.alloc head4) #[.int .i64 (u : Int), .int .i64 (s : Int), .int .i64 (n : Int)] 3
    rw [World.size_alloc] at h; rw [hW]; exact h)
  have HB0 := Lib.hid hb0
  have HWS := Lib.hid hWs
  have HV := Lib.hid (appendVars_full W ⟨w.heap.size, 0, none⟩ 4 (w.heap.size + 1) 3 3 s4 [u, s, n] #[.int .i64 (u : Int), .int .i64 (s : Int), .int .i64 (n : Int)] HRS.out rfl (by omega) rfl (by omega) (by omega) (by intro x hx; simp at hx; omega) HRB.out (by omega)
    (by intro k hk; match k, hk with | 0, _ => rfl | 1, _ => rfl | 2, _ => rfl | k + 3, h => omega))
  have HE := Lib.hid (show s4 ++ Cb.vEncs [u, s, n] = shd u s zs.length by rw [HL.out]; simp [Cb.vEncs, shd, List.append_assoc])
  have hcv := conv_s4
  clear hb0 hWs
  go_enter Tryd.func6, Tryd.ntmps6
  go_wp2_with fail
  refine (isGen_yes _ _ (by omega) (by omega)).mono ?_
  rintro e w' ⟨rfl, rfl⟩
  go_wp2_with fail
  refine (isSeq1_yes _ _ (by omega) (by omega)).mono ?_
  rintro e w' ⟨rfl, rfl⟩
  go_wp2_with fail
  rw [← hW]
  clear hW
  refine HV.out.mono ?_
  rintro e w3 ⟨A3, n3, c3, rfl, ho3', hx3⟩
  rw [HE.out] at ho3'
  have ho3 := ho3'.more (base' := w.heap.size) (by have := HWS.out; omega)
  have hb3 := HB0.out.trans (hx3.mono (by have := HWS.out; omega))
  have hs3 := hb3.size
  have hl3 := ho3.len
  have hv3 := shd_len (g := u) (s := s) (n := zs.length) (by omega) (by omega) (by rw [HL.out]; exact hn)
  have hn3 : n3 ≤ 19 := by omega
  have hr3 := HR.out.below (Nat.le_refl _) hb3
  have HO3 := Lib.hid ho3
  have HB3 := Lib.hid hb3
  have HR3 := Lib.hid hr3
  have HHG := Lib.hid (shd_rng u s zs.length)
  clear ho3 ho3' hx3 hb3 hl3 hv3 hr3
  go_wp2_with fail
  refine (appendChecked_any A3 n3 c3 A n c w.heap.size _ zs _ HO3.out hs3 HR3.out HHG.out HGD.out HA.out HL.out (by omega) (by omega)).mono ?_
  rintro e w5 ⟨A5, n5, c5, rfl, ho5, hb5⟩
  have HO5 := Lib.hid (show Own w5 w.heap.size A5 n5 c5 (snB u s zs) from ho5)
  have HB5 := Lib.hid (HB3.out.trans hb5)
  clear ho5 hb5
  go_wp2_with fail
  go_ret2
  exact ⟨_, _, _, rfl, HO5.out, HB5.out⟩

set_option maxRecDepth 100000 in
set_option maxHeartbeats 800000 in
theorem impl_no (A : Option Addr) (n c : Nat) (u s : Int) (w : World) (h : u < 1 ∨ 1000000000 < u ∨ s < 1 ∨ 1000000000 < s ∨ 150000 < n) (hm : n ≤ 1099511627776) :
    Calls Tryd.prog 6 #[.int .i64 u, .int .i64 s, .slice A n c] w fun e w' => e = .returned (.tuple #[.slice none 0 0, .bool false]) ∧ w = w' := by
  by_cases hu : 1 ≤ u ∧ u ≤ 1000000000
  · have hu1 := hu.1
    have hu2 := hu.2
    by_cases hs : 1 ≤ s ∧ s ≤ 1000000000
    · have hn : 150000 < n := by omega
      have hs1 := hs.1
      have hs2 := hs.2
      clear h hs hu
      go_enter Tryd.func6, Tryd.ntmps6
      go_wp2_with fail
      refine (isGen_yes _ _ (by omega) (by omega)).mono ?_
      rintro e w' ⟨rfl, rfl⟩
      go_wp2_with fail
      refine (isSeq1_yes _ _ (by omega) (by omega)).mono ?_
      rintro e w' ⟨rfl, rfl⟩
      go_wp2_with fail
      go_ret2
      exact ⟨rfl, rfl⟩
    · have hs' : s < 1 ∨ 1000000000 < s := by omega
      have HS := Lib.hid hs'
      clear h hs hs' hu
      go_enter Tryd.func6, Tryd.ntmps6
      go_wp2_with fail
      refine (isGen_yes _ _ (by omega) (by omega)).mono ?_
      rintro e w' ⟨rfl, rfl⟩
      go_wp2_with fail
      refine (isSeq1_no _ _ HS.out).mono ?_
      rintro e w' ⟨rfl, rfl⟩
      go_wp2_with fail
      go_ret2
      exact ⟨rfl, rfl⟩
  · have hu' : u < 1 ∨ 1000000000 < u := by omega
    have HU := Lib.hid hu'
    clear h hu hu'
    go_enter Tryd.func6, Tryd.ntmps6
    go_wp2_with fail
    refine (isGen_no _ _ HU.out).mono ?_
    rintro e w' ⟨rfl, rfl⟩
    go_wp2_with fail
    go_ret2
    exact ⟨rfl, rfl⟩

theorem impl_SnapBytes_any (A : Option Addr) (n c : Nat) (zs : List Int) (u s : Int) (w : World) (hA : A = none → n = 0 ∧ c = 0) (hr : Rd w w.heap.size A zs) (hg : Rng zs) (hl : zs.length = n) (hn : n ≤ 1099511627776) :
    Calls Tryd.prog 6 #[.int .i64 u, .int .i64 s, .slice A n c] w fun e w' => ∃ A' n' c', e = .returned (.tuple #[.slice A' n' c', .bool (snK u s zs.length)]) ∧ Own w' w.heap.size A' n' c' (snO u s zs) ∧ Below w.heap.size w w' := by
  by_cases h : 1 ≤ u ∧ u ≤ 1000000000 ∧ 1 ≤ s ∧ s ≤ 1000000000 ∧ n ≤ 150000
  · obtain ⟨k, rfl⟩ := Int.eq_ofNat_of_zero_le (show 0 ≤ s by omega)
    obtain ⟨g, rfl⟩ := Int.eq_ofNat_of_zero_le (show 0 ≤ u by omega)
    have e1 := snK_yes h.1 h.2.1 h.2.2.1 h.2.2.2.1 (n := zs.length) (by omega)
    rw [e1, snO_yes e1, Int.toNat_natCast, Int.toNat_natCast]
    exact impl_yes A n c zs g k w hA hr hg hl h.2.2.2.2 (by omega) (by omega) (by omega) (by omega)
  · have e1 := snK_no (g := u) (s := s) (n := zs.length) (by omega)
    rw [e1, snO_no e1]
    refine (impl_no A n c u s w (by omega) hn).mono ?_
    rintro e w' ⟨rfl, rfl⟩
    exact ⟨none, 0, 0, rfl, own_nil _ _, Below.refl _ _⟩
end Go.Proofs.YteiojpglhmikoaaDoor.Snap

