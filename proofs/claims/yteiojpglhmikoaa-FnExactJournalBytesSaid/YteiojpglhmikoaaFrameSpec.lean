/- Contracts of the writing of a frame, in the model. -/
import Derived.Test.YteiojpglhmikoaaFramePlain
import Derived.Test.YteiojpglhmikoaaPutVar
import Derived.Test.YteiojpglhmikoaaCrc
namespace Go.Proofs.Yteiojpglhmikoaa.Frame
open Go.RowKit Go.Proofs.Yteiojpglhmikoaa.Bytes Go.Proofs.Yteiojpglhmikoaa.Var Go.Proofs.Yteiojpglhmikoaa.Crc
set_option linter.unusedVariables false

set_option maxRecDepth 100000 in
set_option maxHeartbeats 1600000 in
theorem spec_yes (A : Option Addr) (n c : Nat) (zs : List Int) (s : Nat) (w : World) (hA : A = none → n = 0 ∧ c = 0) (hr : Rd w w.heap.size A zs) (hg : Rng zs) (hl : zs.length = n) (hn : n ≤ 60000) (h0 : 1 ≤ s) (h1 : s ≤ 1000000000) :
    Calls Try.prog 16 #[.int .i64 s, .slice A n c] w fun e w' => ∃ A' n' c', e = .returned (.tuple #[.slice A' n' c', .bool true]) ∧ Own w' w.heap.size A' n' c' (frB s zs) ∧ Below w.heap.size w w' := by
  have HL := Lib.hid hl
  have HA := Lib.hid hA
  have HR := Lib.hid hr
  have HGD := Lib.hid hg
  clear hl hA hr hg
  have hown0 : Own (w.alloc (.cells #[.int .u8 167] 5)) w.heap.size (some ⟨w.heap.size, 0, none⟩) 1 1 [167] := World.ownsRow_lit w #[.int .u8 167] 1 (Nat.le_refl _) (by decide) rfl
  have hb0 : Below w.heap.size w (w.alloc (.cells #[.int .u8 167] 5)) := (Below.refl w.heap.size w).alloc (Nat.le_refl _) (.cells #[.int .u8 167] 5)
  have HO0 := Lib.hid hown0
  have HB0 := Lib.hid hb0
  clear hown0 hb0
  go_enter Try.func16, Try.ntmps16
  go_wp2_with fail
  refine (spec_PutVar_yes _ 1 1 [167] s _ (by intro h; cases h) HO0.out.rd rfl (by omega) (by omega)).mono ?_
  rintro e w1 ⟨A1, n1, c1, rfl, ho1, hx1⟩
  have hb1 := HB0.out.trans (hx1.mono HB0.out.size)
  have hs1 := hb1.size
  have hl1 := ho1.len
  have hv1 := vEnc_len5 (n := s) (by omega)
  have hn1 : n1 ≤ 6 := by rw [List.length_append] at hl1; simp at hl1; omega
  have HO1 := Lib.hid ho1
  have HB1 := Lib.hid hb1
  clear ho1 hx1 hb1 hl1 hv1
  go_wp2_with fail
  refine (spec_PutVar_yes A1 n1 c1 _ n _ (own_none HO1.out) HO1.out.rd HO1.out.len (by omega) (by omega)).mono ?_
  rintro e w2 ⟨A2, n2, c2, rfl, ho2, hx2⟩
  have hb2 := HB1.out.trans (hx2.mono hs1)
  have hs2 := hb2.size
  have e2 : [167] ++ vEnc s ++ vEnc n = hd s zs.length := by rw [HL.out]; simp [hd]
  rw [e2] at ho2
  have hl2 := ho2.len
  have hv2 := hd_len (s := s) (n := zs.length) (by omega) (by rw [HL.out]; exact hn)
  have hn2 : n2 ≤ 11 := by omega
  have hr2 := HR.out.below (Nat.le_refl _) hb2
  have ho2' := ho2.more (Nat.le_trans hs1 (Nat.le_refl _))
  have hle2 := ho2.cap
  have HO2 := Lib.hid ho2'
  have HB2 := Lib.hid hb2
  have HR2 := Lib.hid hr2
  have HHG := Lib.hid (hd_rng s zs.length)
  have hown3 : Own (w2.alloc (.cells #[] 5)) w2.heap.size (some ⟨w2.heap.size, 0, none⟩) 0 0 [] := World.ownsRow_lit w2 #[] 0 (Nat.le_refl _) (by decide) rfl
  have hb3 : Below w2.heap.size w2 (w2.alloc (.cells #[] 5)) := (Below.refl _ _).alloc (Nat.le_refl _) _
  have hr3 : Rd (w2.alloc (.cells #[] 5)) w2.heap.size A2 (hd s zs.length) := ho2.rd.below (Nat.le_refl _) hb3
  have hA2 := own_none ho2
  have HB3 := Lib.hid hb3
  clear ho2 ho2' hx2 hb2 e2 hr2 hb3
  go_wp2_with (at_builtin; refine append_src rfl _ _ rfl rfl rfl hown3 hr3 hA2 hl2 (by omega) (by omega) (by simp) ?_)
  intro A3 c3 w3 ho3 hx3
  have hb3 := HB3.out.trans hx3
  have hs3 := hb3.size
  have hr4 := (HR2.out.more hs2).below (Nat.le_refl _) hb3
  have HB4 := Lib.hid hb3
  have hA3 := own_none ho3
  clear hown3 hr3 hx3 hb3
  go_wp2_with (at_builtin; refine append_src rfl _ _ rfl rfl rfl ho3 hr4 HA.out HL.out (by omega) (by omega) (by omega) ?_)
  intro A5 c5 w5 ho5 hx5
  have hb5 := HB4.out.trans hx5
  have hs5 := hb5.size
  have HO5 := Lib.hid ho5
  have HB5 := Lib.hid hb5
  have hln : (hd s zs.length ++ zs).length = n2 + n := by rw [List.length_append, hl2, HL.out]
  have HLN := Lib.hid hln
  have HG5 := Lib.hid (show Rng (hd s zs.length ++ zs) from fun z hz => (List.mem_append.1 hz).elim (HHG.out z) (HGD.out z))
  clear ho3 hr4 ho5 hx5 hb5 hln hA3
  go_wp2_with fail
  refine (Crc.spec_any A5 _ c5 _ _ HO5.out.rd HG5.out HLN.out (by omega)).mono ?_
  rintro e w6 ⟨rfl, rfl⟩
  have hk := crcN_le (hd s zs.length ++ zs)
  obtain ⟨K, hK⟩ : ∃ K, K = crcN (hd s zs.length ++ zs) := ⟨_, rfl⟩
  have hK' : 4294967295 - cf (hd s zs.length ++ zs) = K := hK.symm
  rw [← hK] at hk
  rw [hK']
  have HK := Lib.hid hK
  have HO6 := Lib.hid (HO2.out.below (Nat.le_refl _) HB5.out)
  have hA6 := own_none HO6.out
  clear hK hK'
  go_wp2_with fail
  refine (spec_PutVar_yes A2 n2 c2 _ K _ hA6 HO6.out.rd HO6.out.len (by omega) hk).mono ?_
  rintro e w7 ⟨A7, n7, c7, rfl, ho7, hx7⟩
  have hb7 := HB2.out.trans ((HB5.out.mono hs2).trans (hx7.mono (Nat.le_trans hs2 hs5)))
  have hl7 := ho7.len
  have hv7 := vEnc_len5 hk
  have hn7 : n7 ≤ 16 := by rw [List.length_append, HO6.out.len] at hl7; omega
  have hr7 := HR.out.below (Nat.le_refl _) hb7
  have ho7' := ho7.more (Nat.le_trans hs2 hs5)
  have hs7 := hb7.size
  have HB7 := Lib.hid hb7
  clear ho7 hx7 hb7 hl7 hv7
  go_wp2_with (at_builtin; refine append_src rfl _ _ rfl rfl rfl ho7' hr7 HA.out HL.out (by omega) (by omega) (by omega) ?_)
  intro A8 c8 w8 ho8 hx8
  have e8 : hd s zs.length ++ (vEnc K ++ zs) = frB s zs := by unfold frB; rw [← HK.out, List.append_assoc]
  rw [e8] at ho8
  have HO8 := Lib.hid ho8
  have HB8 := Lib.hid (HB7.out.trans hx8)
  clear ho7' hr7 ho8 hx8 e8
  go_wp2_with fail
  go_ret2
  exact ⟨_, _, _, rfl, HO8.out, HB8.out⟩

set_option maxRecDepth 100000 in
set_option maxHeartbeats 800000 in
theorem spec_no (A : Option Addr) (n c : Nat) (s : Int) (w : World) (h : s < 1 ∨ 1000000000 < s ∨ 60000 < n) (hm : n ≤ 1099511627776) :
    Calls Try.prog 16 #[.int .i64 s, .slice A n c] w fun e w' => e = .returned (.tuple #[.slice none 0 0, .bool false]) ∧ w = w' := by
  by_cases h1 : s < 1
  · clear h
    go_enter Try.func16, Try.ntmps16
    go_wp2_with fail
    go_ret2
    exact ⟨rfl, rfl⟩
  · have h1' : 1 ≤ s := by omega
    clear h1
    by_cases h2 : 1000000000 < s
    · clear h
      go_enter Try.func16, Try.ntmps16
      go_wp2_with fail
      go_ret2
      exact ⟨rfl, rfl⟩
    · have h2' : s ≤ 1000000000 := by omega
      have h3 : 60000 < n := by omega
      clear h h2
      go_enter Try.func16, Try.ntmps16
      go_wp2_with fail
      go_ret2
      exact ⟨rfl, rfl⟩

theorem spec_FrameBytes_any (A : Option Addr) (n c : Nat) (zs : List Int) (s : Int) (w : World) (hA : A = none → n = 0 ∧ c = 0) (hr : Rd w w.heap.size A zs) (hg : Rng zs) (hl : zs.length = n) (hn : n ≤ 1099511627776) :
    Calls Try.prog 16 #[.int .i64 s, .slice A n c] w fun e w' => ∃ A' n' c', e = .returned (.tuple #[.slice A' n' c', .bool (frK s zs.length)]) ∧ Own w' w.heap.size A' n' c' (frO s zs) ∧ Below w.heap.size w w' := by
  by_cases h : 1 ≤ s ∧ s ≤ 1000000000 ∧ n ≤ 60000
  · obtain ⟨k, rfl⟩ := Int.eq_ofNat_of_zero_le (show 0 ≤ s by omega)
    have e1 := frK_yes h.1 h.2.1 (n := zs.length) (by omega)
    rw [e1, frO_yes e1, Int.toNat_natCast]
    exact spec_yes A n c zs k w hA hr hg hl h.2.2 (by omega) (by omega)
  · have e1 := frK_no (s := s) (n := zs.length) (by omega)
    rw [e1, frO_no e1]
    refine (spec_no A n c s w (by omega) hn).mono ?_
    rintro e w' ⟨rfl, rfl⟩
    exact ⟨none, 0, 0, rfl, own_nil _ _, Below.refl _ _⟩
end Go.Proofs.Yteiojpglhmikoaa.Frame

