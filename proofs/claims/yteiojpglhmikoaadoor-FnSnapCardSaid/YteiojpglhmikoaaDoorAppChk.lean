/- Contract of 'appendChecked', in the program: the checksum of head and data, then the data, appended to a slice of the call's own. -/
import Derived.Test.YteiojpglhmikoaaDoorCrcParts
import Derived.Test.YteiojpglhmikoaaDoorPutCore
namespace Go.Proofs.YteiojpglhmikoaaDoor.Frame
open Go.RowKit Go.Proofs.YteiojpglhmikoaaDoor.Bytes Go.Proofs.YteiojpglhmikoaaDoor.Var Go.Proofs.YteiojpglhmikoaaDoor.Crc
set_option linter.unusedVariables false

set_option maxRecDepth 100000 in
set_option maxHeartbeats 1600000 in
theorem appendChecked_any (A1 : Option Addr) (n1 c1 : Nat) (A : Option Addr) (n c base : Nat) (xs zs : List Int) (w : World) (ho : Own w base A1 n1 c1 xs) (hbase : base ≤ w.heap.size) (hr : Rd w base A zs) (hgx : Rng xs) (hg : Rng zs)
    (hA : A = none → n = 0 ∧ c = 0) (hl : zs.length = n) (hn1 : n1 ≤ 1099511627776) (hn : n ≤ 1099511627776) :
    Calls Tryd.prog 23 #[.slice A1 n1 c1, .slice A n c] w fun e w' => ∃ A' n' c', e = .returned (.slice A' n' c') ∧ Own w' base A' n' c' (xs ++ (vEnc (crcN (xs ++ zs)) ++ zs)) ∧ Below base w w' := by
  have HL := Lib.hid hl
  have HA := Lib.hid hA
  have HR := Lib.hid hr
  have HGD := Lib.hid hg
  have HGX := Lib.hid hgx
  have HO2 := Lib.hid ho
  have HLX := Lib.hid ho.len
  clear hl hA hr hg hgx ho
  go_enter Tryd.func23, Tryd.ntmps23
  go_wp2_with fail
  refine (crcOfBoth_any A1 A n1 c1 n c _ zs _ HO2.out.rd (HR.out.more hbase) HGX.out HGD.out HLX.out HL.out hn1 hn).mono ?_
  rintro e w3 ⟨rfl, hx3⟩
  have hk := crcN_le (xs ++ zs)
  have hs3 := hx3.size
  have HO3 := Lib.hid (HO2.out.below (Nat.le_refl _) hx3)
  have HB3 := Lib.hid (hx3.mono hbase)
  clear hx3
  obtain ⟨K, hK⟩ : ∃ K, K = crcN (xs ++ zs) := ⟨_, rfl⟩
  rw [← hK] at hk ⊢
  have HK := Lib.hid hK
  clear hK
  go_wp2_with fail
  refine (appendVar_any A1 n1 c1 base _ K _ HO3.out (by omega) hn1 hk).mono ?_
  rintro e w4 ⟨A4, n4, c4, rfl, ho4, hx4⟩
  have hb4 := HB3.out.trans hx4
  have hs4 := hb4.size
  have hl4 := ho4.len
  have hv4 := vEnc_len5 hk
  have hn4 : n4 ≤ n1 + 5 := by rw [List.length_append, HLX.out] at hl4; omega
  have HB4 := Lib.hid hb4
  have hbs : base ≤ w4.heap.size := by omega
  have hr4 : Rd w4 base A zs := HR.out.below (Nat.le_refl _) hb4
  clear hx4 hb4 hl4 hv4
  go_wp2_with (at_builtin; refine append_src rfl _ _ rfl rfl rfl ho4 hr4 HA.out HL.out (by omega) (by omega) (by omega) ?_)
  intro A5 c5 w5 ho5 hb5
  rw [HK.out] at ho5
  have HO5 := Lib.hid ho5
  have HB5 := Lib.hid (HB4.out.trans hb5)
  clear ho4 hr4 ho5 hb5
  go_wp2_with fail
  go_ret
  exact ⟨_, _, _, rfl, HO5.out, HB5.out⟩
end Go.Proofs.YteiojpglhmikoaaDoor.Frame

