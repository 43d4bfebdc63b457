/- Contracts of the writing of a snapshot, in the program. -/
import Derived.Test.YtmlodfceepokoaaDoorSnapPlain
import Derived.Test.YtmlodfceepokoaaDoorAppFull
import Derived.Test.YtmlodfceepokoaaDoorAppChk
import Derived.Lib.SlBytesConst
namespace Go.Proofs.YtmlodfceepokoaaDoor.Snap
open Go.RowKit Go.Proofs.YtmlodfceepokoaaDoor.Bytes Go.Proofs.YtmlodfceepokoaaDoor.Var Go.Proofs.YtmlodfceepokoaaDoor.Crc Go.Proofs.YtmlodfceepokoaaDoor.Frame
set_option linter.unusedVariables false

/-- the row of the four letters, as the walk leaves it -/
abbrev head4 : Obj := .cells #[.int .u8 83, .int .u8 78, .int .u8 65, .int .u8 80] 5 (4, 5)
theorem rd_s4 (w : World) : Rd (w.alloc head4) (w.heap.size + 1) (some ⟨w.heap.size, 0, none⟩) s4 := by
  intro _
  refine ⟨_, _, rfl, Nat.lt_succ_self _, fun k hk => ?_⟩
  rw [Nat.zero_add, World.cell?_alloc_mark]
  match k, hk with
  | 0, _ => rfl
  | 1, _ => rfl
  | 2, _ => rfl
  | 3, _ => rfl
  | k + 4, h => simp [s4] at h; omega
theorem conv_s4 (W : World) : (convert 22 22 (.slice (some ⟨W.heap.size, 0, none⟩) 4 4)).run Tryd.prog (W.alloc (.cells #[.int .u8 83, .int .u8 78, .int .u8 65, .int .u8 80] 5)) = .ok (.slice (some ⟨W.heap.size, 0, none⟩) 4 4) (W.alloc head4) :=
  Lib.run_convert_bytes_const (P := Tryd.prog) W 22 5 #[.int .u8 83, .int .u8 78, .int .u8 65, .int .u8 80] 4 4 Tryd.underlying22 Tryd.underlying5

theorem isGen_yes (s : Int) (w : World) (h0 : 1 ≤ s) (h1 : s ≤ 1000000000) :
    Calls Tryd.prog 25 #[.int .i64 s] w fun e w' => e = .returned (.bool true) ∧ w = w' := by
  go_enter Tryd.func25, Tryd.ntmps25
  go_wp2
  go_ret
  exact ⟨ret_bool (by simp), rfl⟩
theorem isGen_no (s : Int) (w : World) (h0 : s < 1 ∨ 1000000000 < s) :
    Calls Tryd.prog 25 #[.int .i64 s] w fun e w' => e = .returned (.bool false) ∧ w = w' := by
  rcases h0 with h0 | h0 <;>
  · go_enter Tryd.func25, Tryd.ntmps25
    go_wp2
    go_ret
    exact ⟨ret_bool (by simp <;> omega), rfl⟩

theorem isSeq1_yes (s : Int) (w : World) (h0 : 1 ≤ s) (h1 : s ≤ 1000000000) :
    Calls Tryd.prog 26 #[.int .i64 s] w fun e w' => e = .returned (.bool true) ∧ w = w' := by
  go_enter Tryd.func26, Tryd.ntmps26
  go_wp2
  go_ret
  exact ⟨ret_bool (by simp), rfl⟩
theorem isSeq1_no (s : Int) (w : World) (h0 : s < 1 ∨ 1000000000 < s) :
    Calls Tryd.prog 26 #[.int .i64 s] w fun e w' => e = .returned (.bool false) ∧ w = w' := by
  rcases h0 with h0 | h0 <;>
  · go_enter Tryd.func26, Tryd.ntmps26
    go_wp2
    go_ret
    exact ⟨ret_bool (by simp <;> omega), rfl⟩

set_option maxRecDepth 100000 in
set_option maxHeartbeats 1600000 in
theorem impl_yes (A : Option Addr) (n c : Nat) (zs : List Int) (u s : Nat) (w : World) (hA : A = none → n = 0 ∧ c = 0) (hr : Rd w w.heap.size A zs) (hg : Rng zs) (hl : zs.length = n) (hn : n ≤ 150000) (a0 : 1 ≤ u) (a1 : u ≤ 1000000000) (h0 : 1 ≤ s) (h1 : s ≤ 1000000000) :
    Calls Tryd.prog 9 #[.int .i64 u, .int .i64 s, .slice A n c] w fun e w' => ∃ A' n' c', e = .returned (.tuple #[.slice A' n' c', .bool true]) ∧ Own w' w.heap.size A' n' c' (snB u s zs) ∧ Below w.heap.size w w' := by
  have HL := Lib.hid hl
  have HA := Lib.hid hA
  have HR := Lib.hid hr
  have HGD := Lib.hid hg
  clear hl hA hr hg
  have HRS := Lib.hid (rd_s4 w)
  have hb0 : Below w.heap.size w (w.alloc head4) := (Below.refl w.heap.size w).alloc (Nat.le_refl _) head4
  have HB0 := Lib.hid hb0
  have hcv := conv_s4
  clear hb0
  go_enter Tryd.func9, Tryd.ntmps9
  go_wp2_with fail
  refine (isGen_yes _ _ (by omega) (by omega)).mono ?_
  rintro e w' ⟨rfl, rfl⟩
  go_wp2_with fail
  refine (isSeq1_yes _ _ (by omega) (by omega)).mono ?_
  rintro e w' ⟨rfl, rfl⟩
  go_wp2_with fail
  refine (appendVar_full ⟨w.heap.size, 0, none⟩ 4 s4 u _ (HRS.out.more (by simp)) rfl (by omega) (by omega)).mono ?_
  rintro e w1 ⟨A1, n1, c1, rfl, ho1', hx1⟩
  have ho1 := ho1'.more (base' := w.heap.size) (by simp)
  have hb1 := HB0.out.trans (hx1.mono (by simp))
  have hs1 := hb1.size
  have hl1 := ho1.len
  have hv1 := vEnc_len5 (n := u) (by omega)
  have hn1 : n1 ≤ 9 := by rw [List.length_append] at hl1; simp [s4] at hl1; omega
  have HO1 := Lib.hid ho1
  have HB1 := Lib.hid hb1
  clear ho1 ho1' hx1 hb1 hl1 hv1
  go_wp2_with fail
  refine (appendVar_any A1 n1 c1 w.heap.size _ s _ HO1.out hs1 (by omega) (by omega)).mono ?_
  rintro e w2 ⟨A2, n2, c2, rfl, ho2, hx2⟩
  have hb2 := HB1.out.trans hx2
  have hs2 := hb2.size
  have hl2 := ho2.len
  have hv2 := vEnc_len5 (n := s) (by omega)
  have hn2 : n2 ≤ 14 := by rw [List.length_append, HO1.out.len] at hl2; omega
  have HO2 := Lib.hid ho2
  have HB2 := Lib.hid hb2
  clear ho2 hx2 hb2 hl2 hv2
  go_wp2_with fail
  refine (appendVar_any A2 n2 c2 w.heap.size _ n _ HO2.out hs2 (by omega) (by omega)).mono ?_
  rintro e w3 ⟨A3, n3, c3, rfl, ho3, hx3⟩
  have hb3 := HB2.out.trans hx3
  have hs3 := hb3.size
  have e3 : s4 ++ vEnc u ++ vEnc s ++ vEnc n = shd u s zs.length := by rw [HL.out]; rfl
  rw [e3] at ho3
  have hl3 := ho3.len
  have hv3 := shd_len (g := u) (s := s) (n := zs.length) (by omega) (by omega) (by rw [HL.out]; exact hn)
  have hn3 : n3 ≤ 19 := by omega
  have hr3 := HR.out.below (Nat.le_refl _) hb3
  have HO3 := Lib.hid ho3
  have HB3 := Lib.hid hb3
  have HR3 := Lib.hid hr3
  have HHG := Lib.hid (shd_rng u s zs.length)
  clear ho3 hx3 hb3 hl3 hv3 e3 hr3
  go_wp2_with fail
  refine (appendChecked_any A3 n3 c3 A n c w.heap.size _ zs _ HO3.out hs3 HR3.out HHG.out HGD.out HA.out HL.out (by omega) (by omega)).mono ?_
  rintro e w5 ⟨A5, n5, c5, rfl, ho5, hb5⟩
  have HO5 := Lib.hid (show Own w5 w.heap.size A5 n5 c5 (snB u s zs) from ho5)
  have HB5 := Lib.hid (HB3.out.trans hb5)
  clear ho5 hb5
  go_wp2_with fail
  go_ret2
  exact ⟨_, _, _, rfl, HO5.out, HB5.out⟩

set_option maxRecDepth 100000 in
set_option maxHeartbeats 800000 in
theorem impl_no (A : Option Addr) (n c : Nat) (u s : Int) (w : World) (h : u < 1 ∨ 1000000000 < u ∨ s < 1 ∨ 1000000000 < s ∨ 150000 < n) (hm : n ≤ 1099511627776) :
    Calls Tryd.prog 9 #[.int .i64 u, .int .i64 s, .slice A n c] w fun e w' => e = .returned (.tuple #[.slice none 0 0, .bool false]) ∧ w = w' := by
  by_cases hu : 1 ≤ u ∧ u ≤ 1000000000
  · have hu1 := hu.1
    have hu2 := hu.2
    by_cases hs : 1 ≤ s ∧ s ≤ 1000000000
    · have hn : 150000 < n := by omega
      have hs1 := hs.1
      have hs2 := hs.2
      clear h hs hu
      go_enter Tryd.func9, Tryd.ntmps9
      go_wp2_with fail
      refine (isGen_yes _ _ (by omega) (by omega)).mono ?_
      rintro e w' ⟨rfl, rfl⟩
      go_wp2_with fail
      refine (isSeq1_yes _ _ (by omega) (by omega)).mono ?_
      rintro e w' ⟨rfl, rfl⟩
      go_wp2_with fail
      go_ret2
      exact ⟨rfl, rfl⟩
    · have hs' : s < 1 ∨ 1000000000 < s := by omega
      have HS := Lib.hid hs'
      clear h hs hs' hu
      go_enter Tryd.func9, Tryd.ntmps9
      go_wp2_with fail
      refine (isGen_yes _ _ (by omega) (by omega)).mono ?_
      rintro e w' ⟨rfl, rfl⟩
      go_wp2_with fail
      refine (isSeq1_no _ _ HS.out).mono ?_
      rintro e w' ⟨rfl, rfl⟩
      go_wp2_with fail
      go_ret2
      exact ⟨rfl, rfl⟩
  · have hu' : u < 1 ∨ 1000000000 < u := by omega
    have HU := Lib.hid hu'
    clear h hu hu'
    go_enter Tryd.func9, Tryd.ntmps9
    go_wp2_with fail
    refine (isGen_no _ _ HU.out).mono ?_
    rintro e w' ⟨rfl, rfl⟩
    go_wp2_with fail
    go_ret2
    exact ⟨rfl, rfl⟩

theorem impl_SnapBytes_any (A : Option Addr) (n c : Nat) (zs : List Int) (u s : Int) (w : World) (hA : A = none → n = 0 ∧ c = 0) (hr : Rd w w.heap.size A zs) (hg : Rng zs) (hl : zs.length = n) (hn : n ≤ 1099511627776) :
    Calls Tryd.prog 9 #[.int .i64 u, .int .i64 s, .slice A n c] w fun e w' => ∃ A' n' c', e = .returned (.tuple #[.slice A' n' c', .bool (snK u s zs.length)]) ∧ Own w' w.heap.size A' n' c' (snO u s zs) ∧ Below w.heap.size w w' := by
  by_cases h : 1 ≤ u ∧ u ≤ 1000000000 ∧ 1 ≤ s ∧ s ≤ 1000000000 ∧ n ≤ 150000
  · obtain ⟨k, rfl⟩ := Int.eq_ofNat_of_zero_le (show 0 ≤ s by omega)
    obtain ⟨g, rfl⟩ := Int.eq_ofNat_of_zero_le (show 0 ≤ u by omega)
    have e1 := snK_yes h.1 h.2.1 h.2.2.1 h.2.2.2.1 (n := zs.length) (by omega)
    rw [e1, snO_yes e1, Int.toNat_natCast, Int.toNat_natCast]
    exact impl_yes A n c zs g k w hA hr hg hl h.2.2.2.2 (by omega) (by omega) (by omega) (by omega)
  · have e1 := snK_no (g := u) (s := s) (n := zs.length) (by omega)
    rw [e1, snO_no e1]
    refine (impl_no A n c u s w (by omega) hn).mono ?_
    rintro e w' ⟨rfl, rfl⟩
    exact ⟨none, 0, 0, rfl, own_nil _ _, Below.refl _ _⟩
end Go.Proofs.YtmlodfceepokoaaDoor.Snap
