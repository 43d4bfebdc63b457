/- The program's RuneRead: what the library's decoder answers, kept to the runes that show; at every byte slice and every int. -/
import Derived.Test.YtfdbmhelcmifoaaDoorShows
import Derived.Test.YtfdbmhelcmifoaaDoorKiA
import Derived.Test.YtfdbmhelcmifoaaDoorRunePlain
import Derived.Test.YtfdbmhelcmifoaaDoorDecLay
import Derived.Laws.BytesArg
import Derived.Lib.DecodeN
namespace Go.Proofs.YtfdbmhelcmifoaaDoor.Rune
open Go.RowKit Go.Proofs.YtfdbmhelcmifoaaDoor.Bytes Go.Proofs.YtfdbmhelcmifoaaDoor.RunePl
set_option linter.unusedVariables false
theorem showB_iff (r : Int) : showB r = true ↔ showP r := by unfold showB showP; exact decide_eq_true_iff
theorem showB_no {r : Int} (h : ¬ showP r) : showB r = false := by unfold showB; exact decide_eq_false h
/-- what is read at a place -/
def rdV (zs : List Int) (at_ : Int) : Int × Int :=
  if 0 ≤ at_ ∧ at_ < zs.length then rrS (zs.length - at_.toNat) (zs.getD at_.toNat 0) (zs.getD (at_.toNat + 1) 0) (zs.getD (at_.toNat + 2) 0) else (0, 0)
theorem rdV_no {zs : List Int} {at_ : Int} (h : ¬ (0 ≤ at_ ∧ at_ < zs.length)) : rdV zs at_ = (0, 0) := if_neg h
theorem rdV_yes {zs : List Int} {k : Nat} (h : k < zs.length) : rdV zs (k : Int) = rrS (zs.length - k) (zs.getD k 0) (zs.getD (k + 1) 0) (zs.getD (k + 2) 0) := by
  unfold rdV; rw [if_pos (by omega), Int.toNat_natCast]
theorem str_get (xs : List Int) (h : Rng xs) (j : Nat) : (((strOfNums xs).get! j).toNat : Int) = xs.getD j 0 := by
  have e : (strOfNums xs).get! j = ((xs.map fun n => UInt8.ofNat n.toNat).toArray)[j]! := rfl
  rw [e]
  by_cases hj : j < xs.length
  · have hr := h.at_ j
    have e2 : xs.getD j 0 = xs[j] := by simp [List.getD, hj]
    rw [getElem!_pos _ _ (by simpa using hj)]
    rw [e2] at hr ⊢
    simp
    omega
  · rw [getElem!_neg _ _ (by simpa using hj)]
    simp [List.getD, List.getElem?_eq_none (Nat.le_of_not_lt hj)]
    rfl
theorem dec_bd (n b0 b1 b2 b3 : Nat) (h0 : b0 < 256) : (Go.Lib.decodeN n b0 b1 b2 b3).1 < 4194304 ∧ (Go.Lib.decodeN n b0 b1 b2 b3).2 ≤ 4 := by
  unfold Go.Lib.decodeN
  repeat' split
  all_goals (dsimp only; omega)
theorem drop_getD (zs : List Int) (k j : Nat) : (zs.drop k).getD j 0 = zs.getD (k + j) 0 := by simp [List.getD]
theorem rng_drop {zs : List Int} (h : Rng zs) (k : Nat) : Rng (zs.drop k) := fun z hz => h z (List.mem_of_mem_drop hz)
theorem dec_rd (zs : List Int) (k : Nat) (hk : k < zs.length) (h : Rng zs) :
    ∃ R K : Nat, Go.Lib.decodeGo (strOfNums (zs.drop k)) = (R, K) ∧ R < 4194304 ∧ K ≤ 4 ∧ rdV zs (k : Int) = rrI (R, K) := by
  have hs : (strOfNums (zs.drop k)).size = zs.length - k := by rw [strOfNums_size, List.length_drop]
  have hd : Go.Lib.decodeGo (strOfNums (zs.drop k)) = Go.Lib.decodeN (zs.length - k) ((strOfNums (zs.drop k)).get! 0).toNat ((strOfNums (zs.drop k)).get! 1).toNat ((strOfNums (zs.drop k)).get! 2).toNat ((strOfNums (zs.drop k)).get! 3).toNat := by
    unfold Go.Lib.decodeGo
    rw [if_neg (by omega), Go.Lib.decode_at, hs]
    simp only [Nat.sub_zero, Nat.zero_add]
  have g := fun j => str_get (zs.drop k) (rng_drop h k) j
  have l := fun j => ((strOfNums (zs.drop k)).get! j).toNat_lt
  have b := dec_bd (zs.length - k) ((strOfNums (zs.drop k)).get! 0).toNat ((strOfNums (zs.drop k)).get! 1).toNat ((strOfNums (zs.drop k)).get! 2).toNat ((strOfNums (zs.drop k)).get! 3).toNat (l 0)
  have e := rr_eq (zs.length - k) ((strOfNums (zs.drop k)).get! 0).toNat ((strOfNums (zs.drop k)).get! 1).toNat ((strOfNums (zs.drop k)).get! 2).toNat ((strOfNums (zs.drop k)).get! 3).toNat (by omega) (l 0) (l 1) (l 2) (l 3)
  rw [← hd] at b e
  rw [g, g, g, drop_getD, drop_getD, drop_getD, Nat.add_zero] at e
  exact ⟨_, _, rfl, b.1, b.2, by rw [rdV_yes hk]; exact e.symm⟩

theorem ret_two {a b c d : Int} (h : a = c) (h' : b = d) : Ending.returned (.tuple #[.int .i64 a, .int .i64 b]) = .returned (.tuple #[.int .i64 c, .int .i64 d]) := by rw [h, h']
set_option maxRecDepth 100000 in
set_option maxHeartbeats 1600000 in
theorem impl_RuneRead_any (A : Option Addr) (n c : Nat) (zs : List Int) (at_ : Int) (w : World) (hT : Dec.Tabs8 w) (hr : Rd w w.heap.size A zs) (hg : Rng zs) (hl : zs.length = n) (hn : n ≤ 1099511627776) (hc : n ≤ c) :
    Calls Tryd.prog 109 #[.slice A n c, .int .i64 at_] w fun e w' => e = .returned (.tuple #[.int .i64 (rdV zs at_).1, .int .i64 (rdV zs at_).2]) ∧ Below w.heap.size w w' := by
  by_cases hat : 0 ≤ at_ ∧ at_ < n
  · obtain ⟨k, rfl⟩ := Int.eq_ofNat_of_zero_le hat.1
    have hk : k < n := by omega
    obtain ⟨R, K, hd, hR, hK, hv⟩ := dec_rd zs k (by omega) hg
    obtain ⟨b, o, rfl, hB, hcell⟩ := hr (by omega)
    have hsz : (strOfNums (zs.drop k)).size = n - k := by rw [strOfNums_size, List.length_drop, hl]
    have hD := fun W (hT' : Dec.Tabs8 W) (hp : ∀ j, j < (strOfNums (zs.drop k)).size → W.cell? ⟨b, (o + k) + j, none⟩ = some (.int .u8 ((strOfNums (zs.drop k)).get! j).toNat)) => Dec.decode_any (strOfNums (zs.drop k)) b (o + k) (c - k) W hT' hp
    have hp : ∀ j, j < (strOfNums (zs.drop k)).size → w.cell? ⟨b, (o + k) + j, none⟩ = some (.int .u8 ((strOfNums (zs.drop k)).get! j).toNat) := by
      intro j hj
      rw [str_get (zs.drop k) (rng_drop hg k) j, drop_getD, Nat.add_assoc]
      exact hcell (k + j) (by omega)
    have HD := Lib.hid (hD w hT hp)
    rw [hsz, hd] at HD
    have HV := Lib.hid hv
    have hkc : k < c := by omega
    clear hD hp hcell hd hv hr hg hT hat hsz
    by_cases s1 : R = 65533 ∧ K = 1
    · obtain ⟨rfl, rfl⟩ := s1
      have HI := Lib.hid (rrI_no (r := 65533) (k := 1) (Or.inl ⟨rfl, rfl⟩))
      go_enter Tryd.func109, Tryd.ntmps109
      go_wp2_with fail
      refine (HD.out).mono ?_
      rintro e w' ⟨rfl, hb⟩
      have HB := Lib.hid hb
      clear hb
      go_wp2_with fail
      go_ret2
      exact ⟨ret_two (by rw [HV.out, HI.out]) (by rw [HV.out, HI.out]), HB.out⟩
    · by_cases s2 : showP (R : Int)
      · have HI := Lib.hid (rrI_yes (r := R) (k := K) (by rintro (h | h); exact s1 h; exact h s2))
        have HS := Lib.hid ((showB_iff _).2 s2)
        clear s2
        by_cases s3 : R = 65533
        · subst s3
          have s4 : ((K : Int) == 1) = false := by simp; omega
          have HS' := Lib.hid (show showB 65533 = true from HS.out)
          clear s1
          go_enter Tryd.func109, Tryd.ntmps109
          go_wp2_with fail
          refine (HD.out).mono ?_
          rintro e w' ⟨rfl, hb⟩
          have HB := Lib.hid hb
          clear hb
          go_wp2_with (go_at_call 108; refine (impl_Shows_any _ _).mono ?_; rintro e w' ⟨rfl, rfl⟩; (first | rw [HS'.out] | rw [HS.out]))
          go_ret2
          exact ⟨ret_two (congrArg Prod.fst (HV.out.trans HI.out)).symm (congrArg Prod.snd (HV.out.trans HI.out)).symm, HB.out⟩
        · have s4 : ((R : Int) == 65533) = false := by simp; omega
          clear s1 s3
          go_enter Tryd.func109, Tryd.ntmps109
          go_wp2_with fail
          refine (HD.out).mono ?_
          rintro e w' ⟨rfl, hb⟩
          have HB := Lib.hid hb
          clear hb
          go_wp2_with (go_at_call 108; refine (impl_Shows_any _ _).mono ?_; rintro e w' ⟨rfl, rfl⟩; rw [HS.out])
          go_ret2
          exact ⟨ret_two (by rw [HV.out, HI.out]) (by rw [HV.out, HI.out]), HB.out⟩
      · have HI := Lib.hid (rrI_no (r := R) (k := K) (Or.inr s2))
        have HS := Lib.hid (showB_no s2)
        have s3 : R ≠ 65533 := by intro h; subst h; exact s2 (by unfold showP; omega)
        have s4 : ((R : Int) == 65533) = false := by simp; omega
        clear s1 s2 s3
        go_enter Tryd.func109, Tryd.ntmps109
        go_wp2_with fail
        refine (HD.out).mono ?_
        rintro e w' ⟨rfl, hb⟩
        have HB := Lib.hid hb
        clear hb
        go_wp2_with (go_at_call 108; refine (impl_Shows_any _ _).mono ?_; rintro e w' ⟨rfl, rfl⟩; rw [HS.out])
        go_ret2
        exact ⟨ret_two (by rw [HV.out, HI.out]) (by rw [HV.out, HI.out]), HB.out⟩
  · have HV := Lib.hid (rdV_no (zs := zs) (at_ := at_) (by rw [hl]; exact hat))
    have h : at_ < 0 ∨ (n : Int) ≤ at_ := by omega
    clear hat
    rcases h with h | h
    all_goals
      go_enter Tryd.func109, Tryd.ntmps109
      go_wp2_with fail
      go_ret2
      exact ⟨ret_two (by rw [HV.out]) (by rw [HV.out]), Below.refl _ _⟩
end Go.Proofs.YtfdbmhelcmifoaaDoor.Rune
