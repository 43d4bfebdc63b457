/- The model's l13End, TreeOk and Leaves at every list of nodes. -/
import Derived.Test.YtgejjdkgeoojmaaTrOf
namespace Go.Proofs.Ytgejjdkgeoojmaa.Tr
open Go.RowKit Go.Proofs.Ytgejjdkgeoojmaa.Bytes Go.Proofs.Ytgejjdkgeoojmaa.Rows_ Go.Proofs.Ytgejjdkgeoojmaa.RowK Go.Proofs.Ytgejjdkgeoojmaa.DOk Go.Proofs.Ytgejjdkgeoojmaa.Opq
open Tree
set_option linter.unusedVariables false
def endV (t : List NodeD) (at_ : Nat) : Int := match endL 1 (t.drop at_) with | some e => ((at_ + e : Nat) : Int) | none => -1
theorem endL_zero {m : Nat} {x : NodeD} {r : List NodeD} (h : x.pane = 0) : endL m (x :: r) = (endL (m + 1) r).map (· + 1) := by simp only [endL, if_pos h]; rw [if_neg (by omega)]
theorem endL_one {x : NodeD} {r : List NodeD} (h : ¬ x.pane = 0) : endL 1 (x :: r) = some 1 := by simp only [endL, if_neg h]; rfl
theorem endL_more {m : Nat} {x : NodeD} {r : List NodeD} (h : ¬ x.pane = 0) (hm : 2 ≤ m) : endL m (x :: r) = (endL (m - 1) r).map (· + 1) := by simp only [endL, if_neg h]; rw [if_neg (by omega)]
/-- what is known at the head of a round: m still needed at i -/
def EndR (t : List NodeD) (at_ m i : Nat) : Prop := endL 1 (t.drop at_) = (endL m (t.drop i)).map (· + (i - at_))
theorem EndR.start (t : List NodeD) (at_ : Nat) : EndR t at_ 1 at_ := by unfold EndR; rw [Nat.sub_self]; simp
theorem EndR.next {t : List NodeD} {at_ m m' i : Nat} (h : EndR t at_ m i) (hi : i < t.length) (ha : at_ ≤ i) (he : endL m (t[i] :: t.drop (i + 1)) = (endL m' (t.drop (i + 1))).map (· + 1)) : EndR t at_ m' (i + 1) := by
  unfold EndR at *
  rw [h, List.drop_eq_getElem_cons hi, he, Option.map_map]
  congr 1; funext e; simp only [Function.comp]; omega
theorem EndR.last {t : List NodeD} {at_ i : Nat} (h : EndR t at_ 1 i) (hi : i < t.length) (ha : at_ ≤ i) (hp : ¬ t[i].pane = 0) : endV t at_ = ((i + 1 : Nat) : Int) := by
  unfold EndR at h
  rw [List.drop_eq_getElem_cons hi, endL_one hp] at h
  unfold endV; rw [h]
  simp only [Option.map_some]; congr 1; omega
theorem EndR.stop {t : List NodeD} {at_ m i : Nat} (h : EndR t at_ m i) (hi : t.length ≤ i) : endV t at_ = -1 := by
  unfold EndR at h
  rw [List.drop_of_length_le hi] at h
  unfold endV; rw [h]; simp [endL]
set_option maxRecDepth 100000 in
set_option maxHeartbeats 1600000 in
theorem l13End_any (A : Option Addr) (n c B at_ : Nat) (t : List NodeD) (w : World) (hi : InN w B A n c t) (hn : n ≤ 1000000) (hat : at_ ≤ 1000000) :
    Calls Try.prog 74 #[.slice A n c, .int .i64 at_] w fun e w' => e = .returned (.int .i64 (endV t at_)) ∧ w = w' := by
  have HR := Lib.hid hi.rd
  have HL := Lib.hid hi.len
  clear hi
  go_enter Try.func74, Try.ntmps74
  go_wp2_with fail
  go_loop [5, 6] (fun m i => ∃ (k mm : Nat), at_ ≤ k ∧ (k ≤ n ∨ k = at_) ∧ i = .int .i64 k ∧ m = .int .i64 mm ∧ 1 ≤ mm ∧ mm ≤ k + 1 ∧ EndR t at_ mm k) (fun _ i => n - (intOf i).toNat)
  case atStart => exact ⟨at_, 1, Nat.le_refl _, .inr rfl, rfl, rfl, Nat.le_refl _, by omega, EndR.start t at_⟩
  case round =>
    obtain ⟨k, mm, hak, hkn, rfl, rfl, h1, h2, he⟩ := hrel
    have HE := Lib.hid he
    clear he
    have hk6 : k ≤ 1000000 := by omega
    by_cases hlt : k < n
    · have hlt' : k < t.length := by rw [HL.out]; exact hlt
      obtain ⟨b, o, rfl, hlB, hc0, hc1, hc2⟩ := HR.out.at_ hlt'
      by_cases hp : t[k].pane = 0
      · have HN := Lib.hid (HE.out.next (m' := mm + 1) hlt' hak (endL_zero hp))
        rw [hp] at hc0
        clear hp hkn HE
        go_wp2_with fail
        exact ⟨⟨k + 1, mm + 1, by omega, .inl (by omega), by go_num, by go_num, by omega, by omega, HN.out⟩, by simp [intOf]; omega⟩
      · by_cases hm : mm = 1
        · subst hm
          have HA := Lib.hid (HE.out.last hlt' hak hp)
          have hq : (t[k].pane == 0) = false := by simpa using hp
          clear hkn HE
          generalize t[k].pane = x0 at *
          go_wp2_with fail
          go_ret
          exact ⟨ret_int (by rw [HA.out]; simp), rfl⟩
        · have HN := Lib.hid (HE.out.next (m' := mm - 1) hlt' hak (endL_more hp (by omega)))
          have hq : (t[k].pane == 0) = false := by simpa using hp
          have hmz : ((mm : Int) - 1 == 0) = false := by simp; omega
          have hmn : ((mm - 1 : Nat) : Int) = (mm : Int) - 1 := by omega
          have HMN := Lib.hid hmn
          clear hkn HE hmn
          generalize t[k].pane = x0 at *
          go_wp2_with fail
          exact ⟨⟨k + 1, mm - 1, by omega, .inl (by omega), by go_num, by rw [HMN.out], by omega, by omega, HN.out⟩, by simp [intOf]; omega⟩
    · have HS := Lib.hid (HE.out.stop (by rw [HL.out]; omega))
      clear hkn HE
      go_wp2_with fail
      go_ret
      exact ⟨ret_int (by rw [HS.out]), rfl⟩
end Go.Proofs.Ytgejjdkgeoojmaa.Tr

