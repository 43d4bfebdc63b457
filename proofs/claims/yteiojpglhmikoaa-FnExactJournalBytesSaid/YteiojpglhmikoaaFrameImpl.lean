/- Contracts of the writing of a frame, in the program. -/
import Derived.Test.YteiojpglhmikoaaAppChk
import Derived.Test.YteiojpglhmikoaaAppVs
namespace Go.Proofs.Yteiojpglhmikoaa.Frame
open Go.RowKit Go.Proofs.Yteiojpglhmikoaa.Bytes Go.Proofs.Yteiojpglhmikoaa.Var Go.Proofs.Yteiojpglhmikoaa.Crc
set_option linter.unusedVariables false

theorem isSeq_yes (s : Int) (w : World) (h0 : 1 ≤ s) (h1 : s ≤ 1000000000) :
    Calls Try.prog 49 #[.int .i64 s] w fun e w' => e = .returned (.bool true) ∧ w = w' := by
  go_enter Try.func49, Try.ntmps49
  go_wp2
  go_ret
  exact ⟨ret_bool (by simp), rfl⟩
theorem isSeq_no (s : Int) (w : World) (h0 : s < 1 ∨ 1000000000 < s) :
    Calls Try.prog 49 #[.int .i64 s] w fun e w' => e = .returned (.bool false) ∧ w = w' := by
  rcases h0 with h0 | h0 <;>
  · go_enter Try.func49, Try.ntmps49
    go_wp2
    go_ret
    exact ⟨ret_bool (by simp <;> omega), rfl⟩

set_option maxRecDepth 100000 in
set_option maxHeartbeats 1600000 in
theorem impl_yes (A : Option Addr) (n c : Nat) (zs : List Int) (s : Nat) (w : World) (hA : A = none → n = 0 ∧ c = 0) (hr : Rd w w.heap.size A zs) (hg : Rng zs) (hl : zs.length = n) (hn : n ≤ 60000) (h0 : 1 ≤ s) (h1 : s ≤ 1000000000) :
    Calls Try.prog 15 #[.int .i64 s, .slice A n c] w fun e w' => ∃ A' n' c', e = .returned (.tuple #[.slice A' n' c', .bool true]) ∧ Own w' w.heap.size A' n' c' (frB s zs) ∧ Below w.heap.size w w' := by
  have HL := Lib.hid hl
  have HA := Lib.hid hA
  have HR := Lib.hid hr
  have HGD := Lib.hid hg
  clear hA hr hg
  have hown0 : Own (w.alloc (.cells #[.int .u8 167] 5)) w.heap.size (some ⟨w.heap.size, 0, none⟩) 1 1 [167] := World.ownsRow_lit w #[.int .u8 167] 1 (Nat.le_refl _) (by decide) rfl
  have HO0 := Lib.hid (show Own ((w.alloc (.cells #[.int .u8 167] 5)).alloc (.cells #[.int .i64 (s : Int), .int .i64 (n : Int)] 3)) w.heap.size (some ⟨w.heap.size, 0, none⟩) 1 1 [167] from hown0.alloc _)
  have HB0 := Lib.hid (((Below.refl w.heap.size w).alloc (Nat.le_refl _) (.cells #[.int .u8 167] 5)).alloc (by simp) (.cells #[.int .i64 (s : Int), .int .i64 (n : Int)] 3))
  have HRB := Lib.hid (show Opq.RowB ((w.alloc (.cells #[.int .u8 167] 5)).alloc (.cells #[.int .i64 (s : Int), .int .i64 (n : Int)] 3)) (w.heap.size + 1) #[.int .i64 (s : Int), .int .i64 (n : Int)] from by
    have h := Opq.RowB.new (w.alloc (.cells #[.int .u8 167] 5)) #[.int .i64 (s : Int), .int .i64 (n : Int)] 3
    rw [World.size_alloc] at h; exact h)
  have HE := Lib.hid (show [167] ++ Cb.vEncs [s, n] = hd s zs.length by rw [hl]; simp [Cb.vEncs, hd])
  clear hown0 hl
  go_enter Try.func15, Try.ntmps15
  go_wp2_with fail
  refine (isSeq_yes _ _ (by omega) (by omega)).mono ?_
  rintro e w' ⟨rfl, rfl⟩
  go_wp2_with fail
  refine (Cb.appendVars_row (some ⟨w.heap.size, 0, none⟩) 1 1 w.heap.size (w.heap.size + 1) 2 2 [167] [s, n] _ #[.int .i64 (s : Int), .int .i64 (n : Int)] HO0.out (by simp; omega) rfl (by omega) (by omega) (by intro x hx; simp at hx; omega) (by omega) HRB.out
    (by intro k hk; match k, hk with | 0, _ => rfl | 1, _ => rfl | k + 2, h => omega) (by simp [Value.ownBlock])).mono ?_
  rintro e w2 ⟨A2, n2, c2, rfl, ho2, hg2⟩
  have hb2 := HB0.out.trans (hg2.below (by simp; omega) (by intro g hg; simp [Value.ownBlock] at hg; omega))
  have hs2 := hb2.size
  rw [HE.out] at ho2
  have hl2 := ho2.len
  have hv2 := hd_len (s := s) (n := zs.length) (by omega) (by rw [HL.out]; exact hn)
  have hn2 : n2 ≤ 11 := by omega
  have hr2 := HR.out.below (Nat.le_refl _) hb2
  have HO2 := Lib.hid ho2
  have HB2 := Lib.hid hb2
  have HR2 := Lib.hid hr2
  have HHG := Lib.hid (hd_rng s zs.length)
  clear ho2 hg2 hb2 hl2 hv2 hr2
  go_wp2_with fail
  refine (appendChecked_any A2 n2 c2 A n c w.heap.size _ zs _ HO2.out hs2 HR2.out HHG.out HGD.out HA.out HL.out (by omega) (by omega)).mono ?_
  rintro e w5 ⟨A5, n5, c5, rfl, ho5, hb5'⟩
  have hb5 := hb5'
  have HB4 := HB2
  have e5 : hd s zs.length ++ (vEnc (crcN (hd s zs.length ++ zs)) ++ zs) = frB s zs := by unfold frB; rw [List.append_assoc]
  rw [e5] at ho5
  have HO5 := Lib.hid ho5
  have HB5 := Lib.hid (HB4.out.trans hb5)
  clear ho5 hb5 e5
  go_wp2_with fail
  go_ret2
  exact ⟨_, _, _, rfl, HO5.out, HB5.out⟩

set_option maxRecDepth 100000 in
set_option maxHeartbeats 800000 in
theorem impl_no (A : Option Addr) (n c : Nat) (s : Int) (w : World) (h : s < 1 ∨ 1000000000 < s ∨ 60000 < n) (hm : n ≤ 1099511627776) :
    Calls Try.prog 15 #[.int .i64 s, .slice A n c] w fun e w' => e = .returned (.tuple #[.slice none 0 0, .bool false]) ∧ w = w' := by
  by_cases hs : 1 ≤ s ∧ s ≤ 1000000000
  · have hn : 60000 < n := by omega
    have hs1 := hs.1
    have hs2 := hs.2
    clear h hs
    go_enter Try.func15, Try.ntmps15
    go_wp2_with fail
    refine (isSeq_yes _ _ (by omega) (by omega)).mono ?_
    rintro e w' ⟨rfl, rfl⟩
    go_wp2_with fail
    go_ret2
    exact ⟨rfl, rfl⟩
  · have hs' : s < 1 ∨ 1000000000 < s := by omega
    have HS := Lib.hid hs'
    clear h hs hs'
    go_enter Try.func15, Try.ntmps15
    go_wp2_with fail
    refine (isSeq_no _ _ HS.out).mono ?_
    rintro e w' ⟨rfl, rfl⟩
    go_wp2_with fail
    go_ret2
    exact ⟨rfl, rfl⟩

theorem impl_FrameBytes_any (A : Option Addr) (n c : Nat) (zs : List Int) (s : Int) (w : World) (hA : A = none → n = 0 ∧ c = 0) (hr : Rd w w.heap.size A zs) (hg : Rng zs) (hl : zs.length = n) (hn : n ≤ 1099511627776) :
    Calls Try.prog 15 #[.int .i64 s, .slice A n c] w fun e w' => ∃ A' n' c', e = .returned (.tuple #[.slice A' n' c', .bool (frK s zs.length)]) ∧ Own w' w.heap.size A' n' c' (frO s zs) ∧ Below w.heap.size w w' := by
  by_cases h : 1 ≤ s ∧ s ≤ 1000000000 ∧ n ≤ 60000
  · obtain ⟨k, rfl⟩ := Int.eq_ofNat_of_zero_le (show 0 ≤ s by omega)
    have e1 := frK_yes h.1 h.2.1 (n := zs.length) (by omega)
    rw [e1, frO_yes e1, Int.toNat_natCast]
    exact impl_yes A n c zs k w hA hr hg hl h.2.2 (by omega) (by omega)
  · have e1 := frK_no (s := s) (n := zs.length) (by omega)
    rw [e1, frO_no e1]
    refine (impl_no A n c s w (by omega) hn).mono ?_
    rintro e w' ⟨rfl, rfl⟩
    exact ⟨none, 0, 0, rfl, own_nil _ _, Below.refl _ _⟩
end Go.Proofs.Yteiojpglhmikoaa.Frame

