/- After in the program and in the model. -/
import Derived.Test.YtgejjdkgeoojmaaTrSr
namespace Go.Proofs.Ytgejjdkgeoojmaa.Tr
open Go.RowKit Go.Proofs.Ytgejjdkgeoojmaa.Bytes Go.Proofs.Ytgejjdkgeoojmaa.Rows_ Go.Proofs.Ytgejjdkgeoojmaa.RowK Go.Proofs.Ytgejjdkgeoojmaa.DOk Go.Proofs.Ytgejjdkgeoojmaa.Opq
open Tree
set_option linter.unusedVariables false
def afterD (l : List Int) (p : Int) : Int := match l.findIdx? (· == p) with | some i => l.getD ((i + 1) % l.length) 0 | none => 0
theorem after_at {l : List Int} {p : Int} {i : Nat} (h : l.findIdx? (· == p) = some i) (hm : (i + 1) % l.length < l.length) : afterD l p = l[(i + 1) % l.length] := by
  unfold afterD; rw [h]; simp [List.getD, hm]
set_option maxRecDepth 100000 in
set_option maxHeartbeats 800000 in
theorem impl_After_any (A : Option Addr) (n c B : Nat) (t : List NodeD) (p : Int) (w : World) (hi : InN w B A n c t) :
    Calls Try.prog 56 #[.slice A n c, .int .i64 p] w fun e w' => e = .returned (.int .i64 (afterD (leavesD t) p)) ∧ Below w.heap.size w w' := by
  have HI := Lib.hid hi
  clear hi
  go_enter Try.func56, Try.ntmps56
  go_wp2_with fail
  refine (impl_Leaves_any A n c B t _ HI.out).mono ?_
  rintro e v1 ⟨A1, n1, c1, rfl, ho1, hb1⟩
  have HO1 := Lib.hid ho1
  have HB1 := Lib.hid hb1
  have hn1 : n1 ≤ 31 := by have := ho1.len; have := leavesD_len t; omega
  have HLN := Lib.hid ho1.len
  clear ho1 hb1
  go_wp2_with fail
  refine (indexI_any A1 n1 c1 v1.heap.size (leavesD t) p _ HO1.out.rd HLN.out (by omega)).mono ?_
  rintro e v2 ⟨rfl, rfl⟩
  rcases hf : (leavesD t).findIdx? (· == p) with _ | i
  · have hV : idxV (leavesD t) p = -1 := by unfold idxV; rw [hf]
    have HR := Lib.hid (show afterD (leavesD t) p = 0 by unfold afterD; rw [hf])
    rw [hV]
    clear hV hf
    go_wp2_with fail
    go_ret
    exact ⟨ret_int HR.out.symm, HB1.out⟩
  · have hV : idxV (leavesD t) p = (i : Int) := by unfold idxV; rw [hf]
    have hil : i < n1 := by
      have := (List.findIdx?_eq_some_iff_getElem.1 hf).1
      rw [HLN.out] at this; exact this
    have hmlt : (i + 1) % n1 < n1 := Nat.mod_lt _ (by omega)
    have HR := Lib.hid (after_at hf (by rw [HLN.out]; exact hmlt))
    rw [hV]
    clear hV hf
    have HXX := Lib.hid (show ∃ x, x = (leavesD t)[(i + 1) % n1]'(by rw [HLN.out]; exact hmlt) from ⟨_, rfl⟩)
    obtain ⟨x, hx⟩ := HXX.out
    have HX := Lib.hid (show afterD (leavesD t) p = x by rw [HR.out, hx]; simp only [HLN.out])
    obtain ⟨b, o, rfl, hlB, hc⟩ := HO1.out.rd.at_ (k := (i + 1) % n1) (by rw [HLN.out]; exact hmlt)
    rw [← hx] at hc
    clear hx HXX HR
    have hpos : 0 < n1 := by omega
    have hm0 : (0 : Int) ≤ ((i : Int) + 1) % (n1 : Int) := Int.emod_nonneg _ (by omega)
    have hm1 : ((i : Int) + 1) % (n1 : Int) < (n1 : Int) := Int.emod_lt_of_pos _ (by omega)
    have hmN : (((i : Int) + 1) % (n1 : Int)).toNat = (i + 1) % n1 := by
      have : ((i : Int) + 1) % (n1 : Int) = (((i + 1) % n1 : Nat) : Int) := by simp
      rw [this, Int.toNat_natCast]
    go_wp2_with fail
    go_ret
    exact ⟨ret_int HX.out.symm, HB1.out⟩
set_option maxRecDepth 100000 in
set_option maxHeartbeats 800000 in
theorem spec_After_any (A : Option Addr) (n c B : Nat) (t : List NodeD) (p : Int) (w : World) (hi : InN w B A n c t) :
    Calls Try.prog 55 #[.slice A n c, .int .i64 p] w fun e w' => e = .returned (.int .i64 (afterD (leavesD t) p)) ∧ Below w.heap.size w w' := by
  have HI := Lib.hid hi
  clear hi
  go_enter Try.func55, Try.ntmps55
  go_wp2_with fail
  refine (spec_Leaves_any A n c B t _ HI.out).mono ?_
  rintro e v1 ⟨A1, n1, c1, rfl, ho1, hb1⟩
  have HO1 := Lib.hid ho1
  have HB1 := Lib.hid hb1
  have hn1 : n1 ≤ 31 := by have := ho1.len; have := leavesD_len t; omega
  have HLN := Lib.hid ho1.len
  clear ho1 hb1
  go_wp2_with fail
  generalize hzs : leavesD t = zs at *
  have HZS := Lib.hid hzs
  clear hzs
  go_loop [12] (fun i => ∃ k : Nat, k ≤ n1 ∧ i = .int .i64 k ∧ Hid (∀ j (hj : j < zs.length), j < k → (zs[j] == p) = false)) (fun i => n1 - (intOf i).toNat)
  case atStart => exact ⟨0, Nat.zero_le _, rfl, Lib.hid (fun j _ h => absurd h (by omega))⟩
  case round =>
    obtain ⟨k, hk, rfl, HA⟩ := hrel
    by_cases hlt : k < n1
    · have hlt' : k < zs.length := by rw [HLN.out]; exact hlt
      obtain ⟨b, o, rfl, hlB, hc⟩ := HO1.out.rd.at_ hlt'
      by_cases he : zs[k] = p
      · have HE := Lib.hid (find_at (p := (· == p)) zs k hlt' HA.out (by simp [he]))
        have hmlt : (k + 1) % n1 < n1 := Nat.mod_lt _ (by omega)
        have HR := Lib.hid (after_at HE.out (by rw [HLN.out]; exact hmlt))
        rw [he] at hc
        clear he
        have HXX := Lib.hid (show ∃ x, x = zs[(k + 1) % n1]'(by rw [HLN.out]; exact hmlt) from ⟨_, rfl⟩)
        obtain ⟨x, hx⟩ := HXX.out
        have HX := Lib.hid (show afterD zs p = x by rw [HR.out, hx]; simp only [HLN.out])
        obtain ⟨b', o', he', hlB', hc'⟩ := HO1.out.rd.at_ (k := (k + 1) % n1) (by rw [HLN.out]; exact hmlt)
        injection he' with he'; injection he' with e1 e2; subst e1 e2
        rw [← hx] at hc'
        clear hx HXX HR
        have hpos : 0 < n1 := by omega
        have hm0 : (0 : Int) ≤ ((k : Int) + 1) % (n1 : Int) := Int.emod_nonneg _ (by omega)
        have hm1 : ((k : Int) + 1) % (n1 : Int) < (n1 : Int) := Int.emod_lt_of_pos _ (by omega)
        have hmN : (((k : Int) + 1) % (n1 : Int)).toNat = (k + 1) % n1 := by
          have : ((k : Int) + 1) % (n1 : Int) = (((k + 1) % n1 : Nat) : Int) := by simp
          rw [this, Int.toNat_natCast]
        go_wp2_with fail
        go_ret
        exact ⟨ret_int (by rw [HZS.out]; exact HX.out.symm), HB1.out⟩
      · have hne : (zs[k] == p) = false := by simpa using he
        have HN := Lib.hid (fun j (hj : j < zs.length) (h : j < k + 1) => (by
          rcases Nat.lt_or_ge j k with h1 | h1
          · exact HA.out j hj h1
          · have : j = k := by omega
            subst this; simpa using he : (zs[j] == p) = false))
        clear he
        generalize zs[k] = x at *
        go_wp2_with fail
        exact ⟨⟨k + 1, by omega, by go_num, HN⟩, by simp [intOf]; omega⟩
    · obtain rfl : n1 = k := by omega
      have HV := Lib.hid (show afterD zs p = 0 by unfold afterD; rw [find_none zs (fun j hj => HA.out j hj (by have := HLN.out; omega))])
      go_wp2_with fail
      go_ret
      exact ⟨ret_int (by rw [HZS.out]; exact HV.out.symm), HB1.out⟩
end Go.Proofs.Ytgejjdkgeoojmaa.Tr

