/- The model's RuneBegin: the search over the last bytes; at every byte slice. -/
import Derived.Test.YtbheimjepikkfaaDoorRuneS
import Derived.Test.YtbheimjepikkfaaDoorBegPlain
import Derived.Test.YtbheimjepikkfaaDoorAppend
namespace Go.Proofs.YtbheimjepikkfaaDoor.Rune
open Go.RowKit Go.Proofs.YtbheimjepikkfaaDoor.Bytes Go.Proofs.YtbheimjepikkfaaDoor.RunePl
set_option linter.unusedVariables false

def Free1 (b0 : Int) (k : Nat) : Prop := ∀ j : Nat, j < k → ¬ ((rdV ([b0] ++ [128 + (j : Int)]) 0).2 = 2 ∨ (rdV ([b0] ++ [128 + (j : Int)] ++ [129]) 0).2 = 3)
set_option maxRecDepth 100000 in
set_option maxHeartbeats 3200000 in
theorem spec_beg1 (b0 : Int) (h0 : 0 ≤ b0) (h1 : b0 < 256) (A : Option Addr) (c : Nat) (w : World) (hr : Rd w w.heap.size A [b0]) (hA : A = none → 1 = 0 ∧ c = 0) (hc : 1 ≤ c) :
    Calls Tryd.prog 33 #[.slice A 1 c] w fun e w' => e = .returned (.bool (begB [b0])) ∧ Below w.heap.size w w' := by
  have HR := Lib.hid hr
  have HA := Lib.hid hA
  clear hr hA
  go_enter Tryd.func33, Tryd.ntmps33
  go_wp2_with fail
  go_loopw [3] (fun x wr => ∃ k : Nat, k ≤ 64 ∧ x = .int .i64 (128 + (k : Int)) ∧ Free1 b0 k ∧ Below w.heap.size w wr) (fun x _ => 192 - (intOf x).toNat)
  case atStart => exact ⟨0, by omega, rfl, fun j hj => by omega, Below.refl _ _⟩
  case round =>
    obtain ⟨k, hk, rfl, hf, hb⟩ := hrel
    have HF := Lib.hid hf
    have HB := Lib.hid hb
    clear hf hb
    by_cases hlt : k < 64
    · have hx0 : (0 : Int) ≤ 128 + (k : Int) := by omega
      have hx1 : (128 : Int) + (k : Int) < 192 := by omega
      have hs := HB.out.size
      have hown0 : Own (wr.alloc (.cells #[] 5)) wr.heap.size (some ⟨wr.heap.size, 0, none⟩) 0 0 [] := World.ownsRow_lit wr #[] 0 (Nat.le_refl _) (by decide) rfl
      have hb0 : Below wr.heap.size wr (wr.alloc (.cells #[] 5)) := (Below.refl wr.heap.size wr).alloc (Nat.le_refl _) (.cells #[] 5)
      have hr0 : Rd (wr.alloc (.cells #[] 5)) (wr.alloc (.cells #[] 5)).heap.size A [b0] := ((HR.out.below (Nat.le_refl _) (HB.out.trans (hb0.mono hs))).more (by simp; omega))
      go_wp2_with (at_builtin; refine append_src (base := wr.heap.size) rfl _ _ rfl rfl rfl hown0 hr0 HA.out rfl (by omega) (by omega) (by simp) ?_)
      intro A1 c1 w1 ho1 hb1
      have hb1' := hb0.trans hb1
      have hz1 := hb1'.size
      clear hown0 hb0 hr0 hb1
      go_wp2_with (at_builtin; refine append_byte rfl _ _ rfl rfl rfl ho1 (by omega) (by omega) ?_)
      intro A2 c2 w2 ho2 hb2
      have hb2' := hb1'.trans hb2
      have hz2 := hb2'.size
      have HB2 := Lib.hid (HB.out.trans (hb2'.mono hs))
      have HO2 := Lib.hid ho2
      have HG2 : Rng ([b0] ++ [128 + (k : Int)]) := by intro z hz; simp at hz; omega
      have HG2 := Lib.hid HG2
      clear ho1 hb1' hb2 ho2 hb2'
      go_wp2_with fail
      refine (spec_RuneRead_any A2 _ c2 ([b0] ++ [128 + (k : Int)]) 0 _ HO2.out.rd HG2.out rfl (by simp) HO2.out.cap).mono ?_
      rintro e w3 ⟨rfl, hb3⟩
      have HB3 := Lib.hid (HB2.out.trans (hb3.mono HB2.out.size))
      have HO3 := Lib.hid (HO2.out.below (Nat.le_refl _) hb3)
      have hs3 := HB3.out.size
      clear hb3
      have HV : ∃ v, rdV ([b0] ++ [128 + (k : Int)]) 0 = v := ⟨_, rfl⟩
      obtain ⟨v, hv⟩ := HV
      obtain ⟨v1, v2⟩ := v
      rw [hv]
      have HV := Lib.hid hv
      clear hv
      by_cases hh : v2 = 2
      · have HT := Lib.hid (show begB [b0] = true from beg1_hit (x := 128 + (k : Int)) h0 h1 (by omega) (by omega) (Or.inl (by rw [HV.out]; exact hh)))
        have hq : (v2 == 2) = true := by rw [hh]; rfl
        clear hh
        go_wp2_with fail
        go_ret
        exact ⟨rt_bool HT.out.symm, HB3.out⟩
      · have hq : (v2 == 2) = false := by simpa using hh
        have HH := Lib.hid hh
        clear hh
        have hown4 : Own (w3.alloc (.cells #[] 5)) w3.heap.size (some ⟨w3.heap.size, 0, none⟩) 0 0 [] := World.ownsRow_lit w3 #[] 0 (Nat.le_refl _) (by decide) rfl
        have hb4 : Below w3.heap.size w3 (w3.alloc (.cells #[] 5)) := (Below.refl w3.heap.size w3).alloc (Nat.le_refl _) (.cells #[] 5)
        have hr4 : Rd (w3.alloc (.cells #[] 5)) (w3.alloc (.cells #[] 5)).heap.size A2 ([b0] ++ [128 + (k : Int)]) := ((HO3.out.rd.below (Nat.le_refl _) hb4).more (by simp))
        have hA4 := own_none HO3.out
        go_wp2_with (at_builtin; refine append_src (base := w3.heap.size) rfl _ _ rfl rfl rfl hown4 hr4 hA4 rfl (by omega) (by simp) (by simp) ?_)
        intro A5 c5 w5 ho5 hb5
        have hb5' := hb4.trans hb5
        have hz5 := hb5'.size
        clear hown4 hb4 hr4 hb5 hA4
        go_wp2_with (at_builtin; refine append_byte rfl _ _ rfl rfl rfl ho5 (by omega) (by omega) ?_)
        intro A6 c6 w6 ho6 hb6
        have hb6' := hb5'.trans hb6
        have HB6 := Lib.hid (HB3.out.trans (hb6'.mono hs3))
        have HO6 := Lib.hid ho6
        have HG6 : Rng ([b0] ++ [128 + (k : Int)] ++ [129]) := by intro z hz; simp at hz; omega
        have HG6 := Lib.hid HG6
        clear ho5 hb5' hb6 ho6 hb6'
        go_wp2_with fail
        refine (spec_RuneRead_any A6 _ c6 ([b0] ++ [128 + (k : Int)] ++ [129]) 0 _ HO6.out.rd HG6.out rfl (by simp) HO6.out.cap).mono ?_
        rintro e w7 ⟨rfl, hb7⟩
        have HB7 := Lib.hid (HB6.out.trans (hb7.mono HB6.out.size))
        clear hb7
        obtain ⟨u, hu⟩ : ∃ u, rdV ([b0] ++ [128 + (k : Int)] ++ [129]) 0 = u := ⟨_, rfl⟩
        obtain ⟨u1, u2⟩ := u
        rw [hu]
        have HU := Lib.hid hu
        clear hu
        by_cases gg : u2 = 3
        · have HT := Lib.hid (show begB [b0] = true from beg1_hit (x := 128 + (k : Int)) h0 h1 (by omega) (by omega) (Or.inr (by rw [HU.out]; exact gg)))
          have gq : (u2 == 3) = true := by rw [gg]; rfl
          clear gg
          go_wp2_with fail
          go_ret
          exact ⟨rt_bool HT.out.symm, HB7.out⟩
        · have gq : (u2 == 3) = false := by simpa using gg
          have HF2 : Free1 b0 (k + 1) := by
            intro j hj
            rcases Nat.lt_or_ge j k with h | h
            · exact HF.out j h
            · obtain rfl : j = k := by omega
              rw [HV.out, HU.out]
              rintro (h | h)
              · exact HH.out h
              · exact gg h
          have HF2 := Lib.hid HF2
          clear gg
          go_wp2_with fail
          go_roundw
          case rel => exact ⟨k + 1, by omega, by go_num, HF2.out, HB7.out⟩
          case measure => simp [intOf]; omega
    · obtain rfl : k = 64 := by omega
      have HN := Lib.hid (beg1_none h0 h1 HF.out)
      go_wp2_with fail
      go_ret
      exact ⟨rt_bool HN.out.symm, HB.out⟩

def Free2 (b0 b1 : Int) (k : Nat) : Prop := ∀ j : Nat, j < k → ¬ (rdV ([b0, b1] ++ [128 + (j : Int)]) 0).2 = 3
set_option maxRecDepth 100000 in
set_option maxHeartbeats 3200000 in
theorem spec_beg2 (b0 b1 : Int) (h0 : 0 ≤ b0) (h1 : b0 < 256) (g0 : 0 ≤ b1) (g1 : b1 < 256) (A : Option Addr) (c : Nat) (w : World) (hr : Rd w w.heap.size A [b0, b1]) (hA : A = none → 2 = 0 ∧ c = 0) (hc : 2 ≤ c) :
    Calls Tryd.prog 33 #[.slice A 2 c] w fun e w' => e = .returned (.bool (begB [b0, b1])) ∧ Below w.heap.size w w' := by
  have HR := Lib.hid hr
  have HA := Lib.hid hA
  clear hr hA
  go_enter Tryd.func33, Tryd.ntmps33
  go_wp2_with fail
  go_loopw [3] (fun x wr => ∃ k : Nat, k ≤ 64 ∧ x = .int .i64 (128 + (k : Int)) ∧ Free2 b0 b1 k ∧ Below w.heap.size w wr) (fun x _ => 192 - (intOf x).toNat)
  case atStart => exact ⟨0, by omega, rfl, fun j hj => by omega, Below.refl _ _⟩
  case round =>
    obtain ⟨k, hk, rfl, hf, hb⟩ := hrel
    have HF := Lib.hid hf
    have HB := Lib.hid hb
    clear hf hb
    by_cases hlt : k < 64
    · have hx0 : (0 : Int) ≤ 128 + (k : Int) := by omega
      have hx1 : (128 : Int) + (k : Int) < 192 := by omega
      have hs := HB.out.size
      have hown0 : Own (wr.alloc (.cells #[] 5)) wr.heap.size (some ⟨wr.heap.size, 0, none⟩) 0 0 [] := World.ownsRow_lit wr #[] 0 (Nat.le_refl _) (by decide) rfl
      have hb0 : Below wr.heap.size wr (wr.alloc (.cells #[] 5)) := (Below.refl wr.heap.size wr).alloc (Nat.le_refl _) (.cells #[] 5)
      have hr0 : Rd (wr.alloc (.cells #[] 5)) (wr.alloc (.cells #[] 5)).heap.size A [b0, b1] := ((HR.out.below (Nat.le_refl _) (HB.out.trans (hb0.mono hs))).more (by simp; omega))
      go_wp2_with (at_builtin; refine append_src (base := wr.heap.size) rfl _ _ rfl rfl rfl hown0 hr0 HA.out rfl (by omega) (by omega) (by simp) ?_)
      intro A1 c1 w1 ho1 hb1
      have hb1' := hb0.trans hb1
      have hz1 := hb1'.size
      clear hown0 hb0 hr0 hb1
      go_wp2_with (at_builtin; refine append_byte rfl _ _ rfl rfl rfl ho1 (by omega) (by omega) ?_)
      intro A2 c2 w2 ho2 hb2
      have hb2' := hb1'.trans hb2
      have hz2 := hb2'.size
      have HB2 := Lib.hid (HB.out.trans (hb2'.mono hs))
      have HO2 := Lib.hid ho2
      have HG2 : Rng ([b0, b1] ++ [128 + (k : Int)]) := by intro z hz; simp at hz; omega
      have HG2 := Lib.hid HG2
      clear ho1 hb1' hb2 ho2 hb2'
      go_wp2_with fail
      refine (spec_RuneRead_any A2 _ c2 ([b0, b1] ++ [128 + (k : Int)]) 0 _ HO2.out.rd HG2.out rfl (by simp) HO2.out.cap).mono ?_
      rintro e w3 ⟨rfl, hb3⟩
      have HB3 := Lib.hid (HB2.out.trans (hb3.mono HB2.out.size))
      have HO3 := Lib.hid (HO2.out.below (Nat.le_refl _) hb3)
      have hs3 := HB3.out.size
      clear hb3
      have HV : ∃ v, rdV ([b0, b1] ++ [128 + (k : Int)]) 0 = v := ⟨_, rfl⟩
      obtain ⟨v, hv⟩ := HV
      obtain ⟨v1, v2⟩ := v
      rw [hv]
      have HV := Lib.hid hv
      clear hv
      by_cases hh : v2 = 3
      · have HT := Lib.hid (show begB [b0, b1] = true from beg2_hit (x := 128 + (k : Int)) h0 h1 g0 g1 (by omega) (by omega) (by rw [HV.out]; exact hh))
        have hq : (v2 == 3) = true := by rw [hh]; rfl
        clear hh
        go_wp2_with fail
        go_ret
        exact ⟨rt_bool HT.out.symm, HB3.out⟩
      · have hq : (v2 == 3) = false := by simpa using hh
        have HF2 : Free2 b0 b1 (k + 1) := by
          intro j hj
          rcases Nat.lt_or_ge j k with h | h
          · exact HF.out j h
          · obtain rfl : j = k := by omega
            rw [HV.out]; exact hh
        have HF2 := Lib.hid HF2
        clear hh
        go_wp2_with fail
        go_roundw
        case rel => exact ⟨k + 1, by omega, by go_num, HF2.out, HB3.out⟩
        case measure => simp [intOf]; omega
    · obtain rfl : k = 64 := by omega
      have HN := Lib.hid (beg2_none h0 h1 g0 g1 HF.out)
      go_wp2_with fail
      go_ret
      exact ⟨rt_bool HN.out.symm, HB.out⟩

set_option maxRecDepth 100000 in
set_option maxHeartbeats 800000 in
theorem spec_RuneBegin_any (A : Option Addr) (n c : Nat) (zs : List Int) (w : World) (hr : Rd w w.heap.size A zs) (hg : Rng zs) (hl : zs.length = n) (hA : A = none → n = 0 ∧ c = 0) (hn : n ≤ 1099511627776) (hc : n ≤ c) :
    Calls Tryd.prog 33 #[.slice A n c] w fun e w' => e = .returned (.bool (begB zs)) ∧ Below w.heap.size w w' := by
  match zs, hl, hr, hg with
  | [], hl, hr, hg =>
    obtain rfl : 0 = n := hl
    have HV := Lib.hid (beg_len (zs := []) (by simp))
    clear hr hg hl hA
    go_enter Tryd.func33, Tryd.ntmps33
    go_wp2_with fail
    go_ret
    exact ⟨rt_bool HV.out.symm, Below.refl _ _⟩
  | [b0], hl, hr, hg =>
    obtain rfl : 1 = n := hl
    have g0 := hg b0 (by simp)
    exact spec_beg1 b0 g0.1 g0.2 A c w hr hA hc
  | [b0, b1], hl, hr, hg =>
    obtain rfl : 2 = n := hl
    have g0 := hg b0 (by simp)
    have g1 := hg b1 (by simp)
    exact spec_beg2 b0 b1 g0.1 g0.2 g1.1 g1.2 A c w hr hA hc
  | b0 :: b1 :: b2 :: r, hl, hr, hg =>
    have hn2 : 2 < n := by simp at hl; omega
    have HV := Lib.hid (beg_len (zs := b0 :: b1 :: b2 :: r) (by simp))
    clear hr hg hl hA
    go_enter Tryd.func33, Tryd.ntmps33
    go_wp2_with fail
    go_ret
    exact ⟨rt_bool HV.out.symm, Below.refl _ _⟩
end Go.Proofs.YtbheimjepikkfaaDoor.Rune
