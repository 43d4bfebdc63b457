/- The program's keptOk and turnOk. -/
import Derived.Test.YtckiloacbanbmaaDoorImplFiles
namespace Go.Proofs.YtckiloacbanbmaaDoor.DOk
open Go.RowKit Go.Proofs.YtckiloacbanbmaaDoor.Bytes Go.Proofs.YtckiloacbanbmaaDoor.Rows_
open Go.Proofs.YtckiloacbanbmaaDoor.Made (madeB nb)
set_option linter.unusedVariables false

def leB (a b : List UInt8) : Bool := Op.bytesLess a b || a == b
def KeptAtI (ks : List LinkD) (j : Nat) (h : j < ks.length) : Prop :=
  madeB nb 16 ks[j].1.data.toList = true ∧ ∀ _ : 0 < j, leB ks[j].1.toList (ks[j - 1]'(by omega)).1.toList = false
theorem le_f {a b : List UInt8} (h : leB a b = false) : Op.bytesLess a b = false ∧ (a == b) = false := by
  unfold leB at h; simp only [Bool.or_eq_false_iff] at h; exact h

set_option maxRecDepth 100000 in
set_option maxHeartbeats 3200000 in
theorem keptOk_any (K : Option Addr) (nk ck : Nat) (ks : List LinkD) (w : World) (hk : RdL w w.heap.size K ks) (hkl : ks.length = nk) (hn : nk ≤ 1099511627776) (hks : ∀ x ∈ ks, x.1.size ≤ maxLen) :
    Calls Tryd.prog 35 #[.slice K nk ck] w (Ans' (∀ j h, KeptAtI ks j h) w.heap.size w) := by
  have HK := Lib.hid hk
  have HKL := Lib.hid hkl
  have HKS := Lib.hid hks
  clear hk hkl hks
  go_enter Tryd.func35, Tryd.ntmps35
  go_wp2_with fail
  go_loopw [7] (fun i wr => ∃ k : Nat, k ≤ nk ∧ i = .int .i64 k ∧ Below w.heap.size w wr ∧ Hid (∀ j (hj : j < ks.length), j < k → KeptAtI ks j hj)) (fun i _ => nk - (intOf i).toNat)
  case atStart => exact ⟨0, Nat.zero_le _, rfl, Below.refl _ _, Lib.hid (fun j _ h => absurd h (by omega))⟩
  case round =>
    obtain ⟨k, hk, rfl, hb, HA⟩ := hrel
    have hz : w.heap.size ≤ wr.heap.size := hb.size
    by_cases hlt : k < nk
    · have hlt' : k < ks.length := by rw [HKL.out]; exact hlt
      obtain ⟨b, o, rfl, hB, hc0, hc1⟩ := (HK.out.below (Nat.le_refl _) hb).at_ hlt'
      have HB := Lib.hid hb
      have hN := Lib.hid (fun W => fnExactNameOk.impl_any ks[k].1 W (HKS.out _ (List.getElem_mem hlt')))
      have HKA := Lib.hid (show KeptAtI ks k hlt' ↔ (madeB nb 16 ks[k].1.data.toList = true ∧ ∀ _ : 0 < k, leB ks[k].1.toList (ks[k - 1]'(by omega)).1.toList = false) from Iff.rfl)
      have HBad := Lib.hid (show ¬ KeptAtI ks k hlt' → ¬ (∀ j h, KeptAtI ks j h) from fun hn h => hn (h k hlt'))
      have HBr := Lib.hid (fun (o : Obj) => HB.out.alloc hz o)
      clear hb
      rcases Nat.eq_zero_or_pos k with hk0 | hk0
      · have g0 : ¬ (0 : Int) < (k : Int) := by omega
        have dk : decide ((0 : Int) < (k : Int)) = false := decide_eq_false g0
        have dk' : decide (0 < k) = false := decide_eq_false (by omega)
        generalize madeB nb 16 ks[k].1.data.toList = nkb at *
        generalize ks[k].1 = x0 at *
        generalize ks[k].2 = x1 at *
        have hk0' : k ≤ 0 := by omega
        clear hk0
        cases nkb
        · have HN := Lib.hid (HBad.out (fun h => by have := (HKA.out.1 h).1; cases this))
          go_wp2_with fail
          go_quiet ((go_at_call 54; exact Calls.quiet_of_same ((hN.out _).mono fun _ _ ⟨a, b⟩ => ⟨a, b.symm⟩)))
          go_wp2_with fail
          go_ret
          exact ansI_no HN.out (below_drewN (HBr.out _) _)
        · have HG := Lib.hid (upto' HA.out (fun h => HKA.out.2 ⟨rfl, fun h => absurd h (by omega)⟩))
          go_wp2_with fail
          go_quiet ((go_at_call 54; exact Calls.quiet_of_same ((hN.out _).mono fun _ _ ⟨a, b⟩ => ⟨a, b.symm⟩)))
          go_wp2_with fail
          exact ⟨⟨k + 1, by omega, by go_num, below_drewN (HBr.out _) _, HG⟩, by simp [intOf]; omega⟩
      · have hp : k - 1 < ks.length := by omega
        obtain ⟨b', o', e', _, pc0, _⟩ := (HK.out.below (Nat.le_refl _) HB.out).at_ hp
        obtain ⟨rfl, rfl⟩ : b' = b ∧ o' = o := by cases e'; exact ⟨rfl, rfl⟩
        clear e'
        have hBr : b' < wr.heap.size := by omega
        generalize madeB nb 16 ks[k].1.data.toList = nkb at *
        generalize ks[k].1 = x0 at *
        generalize ks[k].2 = x1 at *
        generalize hy : (ks[k - 1]'hp).1 = y at *
        have HYy := Lib.hid (show ∀ h : 0 < k, (ks[k - 1]'(by omega)).1 = y from fun _ => hy)
        clear hy
        have IW := Lib.hid (show IntKind.i64.wrap ((k : Int) - 1) = (k : Int) - 1 ∧ (0 : Int) ≤ (k : Int) - 1 ∧ (1 : Int) ≤ (k : Int) ∧ (k : Int) - 1 < (nk : Int) ∧ ((k : Int) - 1).toNat = k - 1 from ⟨IntWalk.i64_in _ (by omega), by omega, by omega, by omega, by omega⟩)
        have g0 : (0 : Int) < (k : Int) := by omega
        have dk : decide ((0 : Int) < (k : Int)) = true := decide_eq_true g0
        have dk' : decide (0 < k) = true := decide_eq_true hk0
        cases nkb
        · have HN := Lib.hid (HBad.out (fun h => by have := (HKA.out.1 h).1; cases this))
          go_wp2_with fail
          go_quiet ((go_at_call 54; exact Calls.quiet_of_same ((hN.out _).mono fun _ _ ⟨a, b⟩ => ⟨a, b.symm⟩)))
          go_wp2_with fail
          go_ret
          exact ansI_no HN.out (below_drewN (HBr.out _) _)
        · cases hl1 : Op.bytesLess x0.toList y.toList <;> cases hl2 : (x0.toList == y.toList)
          · have HG := Lib.hid (upto' HA.out (fun h => HKA.out.2 ⟨rfl, fun h => by rw [HYy.out h]; unfold leB; rw [hl1, hl2]; rfl⟩))
            go_wp2_with fail
            obtain ⟨iw0, iw1, iw2, iw3, iw4⟩ := IW.out
            go_quiet ((go_at_call 54; exact Calls.quiet_of_same ((hN.out _).mono fun _ _ ⟨a, b⟩ => ⟨a, b.symm⟩)))
            clear iw0 iw1 iw2 iw3 iw4
            go_wp2_with fail
            exact ⟨⟨k + 1, by omega, by go_num, below_drewN (HBr.out _) _, HG⟩, by simp [intOf]; omega⟩
          all_goals
            have HN := Lib.hid (HBad.out (fun h => by have h1 := (HKA.out.1 h).2 hk0; rw [HYy.out hk0] at h1; have h2 := le_f h1; first | (rw [hl1] at h2; exact absurd h2.1 (by decide)) | (rw [hl2] at h2; exact absurd h2.2 (by decide))))
            go_wp2_with fail
            obtain ⟨iw0, iw1, iw2, iw3, iw4⟩ := IW.out
            go_quiet ((go_at_call 54; exact Calls.quiet_of_same ((hN.out _).mono fun _ _ ⟨a, b⟩ => ⟨a, b.symm⟩)))
            clear iw0 iw1 iw2 iw3 iw4
            go_wp2_with fail
            go_ret
            exact ansI_no HN.out (below_drewN (HBr.out _) _)
    · obtain rfl : nk = k := by omega
      have HAK := Lib.hid (show ∀ j h, KeptAtI ks j h from fun j h => HA.out j h (by have := HKL.out; omega))
      have HB := Lib.hid hb
      clear hb
      go_wp2_with fail
      go_ret
      exact ansI_yes HAK.out HB.out

/-! ### turnOk -/
def tokI (nk tk te : Bool) (kind id : Int) : Bool :=
  nk && (if kind = 1 then te else if kind = 4 then tk && decide (id = 0) else if kind = 5 then te && decide (id = 0) else false)
theorem tokI_no {nk tk te : Bool} {kind id : Int} (h1 : kind ≠ 1) (h4 : kind ≠ 4) (h5 : kind ≠ 5) : tokI nk tk te kind id = false := by
  unfold tokI; rw [if_neg h1, if_neg h4, if_neg h5]; simp
def turnOkI (t : TurnD) : Bool := tokI (madeB nb 16 t.name.data.toList) (madeB nb 16 t.to_.data.toList) t.to_.toList.isEmpty t.kind t.id

set_option maxRecDepth 100000 in
set_option maxHeartbeats 3200000 in
theorem turnOk_any (kind : Int) (name to_ : ByteArray) (id : Int) (w : World) (h1 : name.size ≤ maxLen) (h2 : to_.size ≤ maxLen) :
    Calls Tryd.prog 56 #[.agg #[.int .i64 kind, .string name, .string to_, .int .i64 id]] w fun e w' => e = .returned (.bool (turnOkI ⟨kind, name, to_, id⟩)) ∧ Below w.heap.size w w' := by
  have hN := Lib.hid (fun W => fnExactNameOk.impl_any name W h1)
  have hT := Lib.hid (fun W => fnExactNameOk.impl_any to_ W h2)
  unfold turnOkI
  simp only
  generalize madeB nb 16 name.data.toList = nk at *
  generalize madeB nb 16 to_.data.toList = tk at *
  clear h1 h2
  have hb0 := Lib.hid ((Below.refl w.heap.size w).alloc (Nat.le_refl _) (.cells #[.int .i64 kind, .string name, .string to_, .int .i64 id] 63))
  by_cases k1 : kind = 1
  · subst k1
    go_enter Tryd.func56, Tryd.ntmps56
    go_wp2_with fail
    refine (hN.out _).mono ?_
    rintro e w' ⟨rfl, rfl⟩
    cases nk
    all_goals
      go_wp2_with fail
      all_goals (go_ret; exact ⟨Bytes.ret_bool (by unfold tokI; simp_all <;> (rw [Bool.eq_iff_iff]; simp)), hb0.out⟩)
  · by_cases k4 : kind = 4
    · subst k4
      go_enter Tryd.func56, Tryd.ntmps56
      go_wp2_with fail
      refine (hN.out _).mono ?_
      rintro e w' ⟨rfl, rfl⟩
      cases nk
      · go_wp2_with fail
        go_ret
        exact ⟨Bytes.ret_bool (by unfold tokI; simp), hb0.out⟩
      · go_wp2_with fail
        refine (hT.out _).mono ?_
        rintro e w' ⟨rfl, rfl⟩
        cases tk
        all_goals
          go_wp2_with fail
          all_goals (go_ret; exact ⟨Bytes.ret_bool (by unfold tokI; simp_all <;> (rw [Bool.eq_iff_iff]; simp)), hb0.out⟩)
    · by_cases k5 : kind = 5
      · subst k5
        go_enter Tryd.func56, Tryd.ntmps56
        go_wp2_with fail
        refine (hN.out _).mono ?_
        rintro e w' ⟨rfl, rfl⟩
        cases nk
        all_goals
          go_wp2_with fail
          all_goals (go_ret; exact ⟨Bytes.ret_bool (by unfold tokI; simp_all <;> (rw [Bool.eq_iff_iff]; simp)), hb0.out⟩)
      · have HV := Lib.hid (tokI_no (nk := nk) (tk := tk) (te := to_.toList.isEmpty) (id := id) k1 k4 k5)
        have e1 : (kind == 1) = false := by simp; omega
        have e4 : (kind == 4) = false := by simp; omega
        have e5 : (kind == 5) = false := by simp; omega
        clear k1 k4 k5
        go_enter Tryd.func56, Tryd.ntmps56
        go_wp2_with fail
        go_ret
        exact ⟨Bytes.ret_bool HV.out.symm, hb0.out⟩
end Go.Proofs.YtckiloacbanbmaaDoor.DOk
