/- Texts that lay in modules of their own: TabsBelow, VpB. -/
import Derived.Test.YtgnpgkkjcloghaaGreatDoorDecTab
import Derived.WalkKit
import Derived.Below
import Derived.Test.YtgnpgkkjcloghaaGreatDoorKiA
import Derived.Test.YtgnpgkkjcloghaaGreatDoorKm2
import Derived.Test.YtgnpgkkjcloghaaGreatDoorKm13
import Derived.Laws.AppendOwnNone
import Derived.Test.YtgnpgkkjcloghaaGreatDoorRuneBg
namespace Go.Proofs.YtgnpgkkjcloghaaGreatDoor.Rune
open Go.RowKit
set_option linter.unusedVariables false
theorem tabs_below {w w' : World} (h : Dec.Tabs8 w) (hb : Below w.heap.size w w') : Dec.Tabs8 w' := by
  refine ⟨fun c hc => ?_, fun i hi => ⟨?_, ?_⟩⟩
  · have e := h.1 c hc
    exact (hb.cell (p := ⟨0, c, none⟩) (World.block_lt_of_cell? w _ e)).trans e
  · have e := (h.2 i hi).1
    exact (hb.cell (p := ⟨1, 2 * i, none⟩) (World.block_lt_of_cell? w _ e)).trans e
  · have e := (h.2 i hi).2
    exact (hb.cell (p := ⟨1, 2 * i + 1, none⟩) (World.block_lt_of_cell? w _ e)).trans e
end Go.Proofs.YtgnpgkkjcloghaaGreatDoor.Rune
namespace Go.Proofs.YtgnpgkkjcloghaaGreatDoor.Vp
open Go.RowKit Go.Proofs.YtgnpgkkjcloghaaGreatDoor.Bytes Go.Proofs.YtgnpgkkjcloghaaGreatDoor.DOk Go.Proofs.YtgnpgkkjcloghaaGreatDoor.Rune Go.Proofs.YtgnpgkkjcloghaaGreatDoor.RowK Go.Proofs.YtgnpgkkjcloghaaGreatDoor.Gr
set_option linter.unusedVariables false
def okArg (z : Int) : Bool := decide (0 ≤ z ∧ z ≤ 9999)
def hpB (mk : Bool) (na : Nat) : Bool := mk || decide (0 < na)
def argsB (zs : List Int) : Bool := zs.all okArg && decide (zs.length ≤ 8)
def okVp (st : Int) (mk : Bool) (zs bs : List Int) : Bool :=
  if st = 0 then !(hpB mk zs.length) && (decide (bs.length = 0) || begB bs)
  else if st = 1 then !(hpB mk zs.length) && decide (bs.length = 0)
  else if st = 2 ∨ st = 3 then argsB zs && decide (bs.length = 0)
  else false
theorem okVp_0 (mk : Bool) (zs bs : List Int) : okVp 0 mk zs bs = (!(hpB mk zs.length) && (decide (bs.length = 0) || begB bs)) := rfl
theorem okVp_1 (mk : Bool) (zs bs : List Int) : okVp 1 mk zs bs = (!(hpB mk zs.length) && decide (bs.length = 0)) := rfl
theorem okVp_2 (mk : Bool) (zs bs : List Int) : okVp 2 mk zs bs = (argsB zs && decide (bs.length = 0)) := rfl
theorem okVp_3 (mk : Bool) (zs bs : List Int) : okVp 3 mk zs bs = (argsB zs && decide (bs.length = 0)) := rfl
theorem okVp_no {st : Int} (mk : Bool) (zs bs : List Int) (h : ¬ (0 ≤ st ∧ st ≤ 3)) : okVp st mk zs bs = false := by unfold okVp; rw [if_neg (by omega), if_neg (by omega), if_neg (by omega)]
theorem st_cases (st : Int) : st = 0 ∨ st = 1 ∨ st = 2 ∨ st = 3 ∨ ¬ (0 ≤ st ∧ st ≤ 3) := by omega
theorem argsB_no {zs : List Int} {k : Nat} (h : k < zs.length) (ho : okArg zs[k] = false) : argsB zs = false := by
  unfold argsB
  rw [show zs.all okArg = false by rw [List.all_eq_false]; exact ⟨zs[k], List.getElem_mem h, by rw [ho]; simp⟩]; rfl
theorem argsB_next {zs : List Int} {k : Nat} (h : k < zs.length) (ha : (zs.take k).all okArg = true) (ho : okArg zs[k] = true) : (zs.take (k + 1)).all okArg = true := by
  rw [List.take_succ_eq_append_getElem h, List.all_append, ha]; simp [ho]
theorem argsB_end {zs : List Int} {n : Nat} (hl : zs.length = n) (ha : (zs.take n).all okArg = true) : argsB zs = decide (n ≤ 8) := by
  rw [List.take_of_length_le (by omega)] at ha
  unfold argsB; rw [ha, hl]; rfl
set_option maxRecDepth 100000 in
theorem hasParameters_any (st : Int) (mk : Bool) (A : Option Addr) (na ca : Nat) (P : Option Addr) (np cp : Nat) (w : World) :
    Calls Tryz.prog 153 #[.agg #[.int .i64 st, .bool mk, .slice A na ca, .slice P np cp]] w fun e w' => e = .returned (.bool (hpB mk na)) ∧ Below w.heap.size w w' := by
  have hb0 := Lib.hid ((Below.refl w.heap.size w).alloc (Nat.le_refl _) (.cells #[.int .i64 st, .bool mk, .slice A na ca, .slice P np cp] 99))
  cases mk
  · have HE := Lib.hid (show hpB false na = decide (0 < na) by simp [hpB])
    go_enter Tryz.func153, Tryz.ntmps153
    go_wp2_with fail
    go_ret
    exact ⟨ret_bool HE.out.symm, hb0.out⟩
  · have HE := Lib.hid (show hpB true na = true by simp [hpB])
    go_enter Tryz.func153, Tryz.ntmps153
    go_wp2_with fail
    go_ret
    exact ⟨ret_bool HE.out.symm, hb0.out⟩
set_option maxRecDepth 100000 in
set_option maxHeartbeats 800000 in
theorem areArgs_any (A : Option Addr) (na ca : Nat) (zs : List Int) (w : World) (hr : RdI w w.heap.size A zs) (hl : zs.length = na) (hn : na ≤ 1099511627776) :
    Calls Tryz.prog 155 #[.slice A na ca] w fun e w' => e = .returned (.bool (argsB zs)) ∧ Below w.heap.size w w' := by
  have HR := Lib.hid hr
  have HL := Lib.hid hl
  clear hr hl
  go_enter Tryz.func155, Tryz.ntmps155
  go_wp2_with fail
  go_loop [7] (fun i => ∃ k : Nat, k ≤ na ∧ i = .int .i64 k ∧ (zs.take k).all okArg = true) (fun i => na - (intOf i).toNat)
  case atStart => exact ⟨0, Nat.zero_le _, rfl, by simp⟩
  case round =>
    obtain ⟨k, hk, rfl, ha⟩ := hrel
    have HA := Lib.hid ha
    clear ha
    by_cases hlt : k < na
    · have hlf : k < zs.length := by rw [HL.out]; exact hlt
      obtain ⟨b, o, rfl, hB, hc0⟩ := HR.out.at_ hlf
      have HNX := Lib.hid (fun h => argsB_next hlf HA.out h)
      have HNO := Lib.hid (fun h => argsB_no hlf h)
      generalize zs[k] = z at *
      by_cases hz : 0 ≤ z ∧ z ≤ 9999
      · have HOK := Lib.hid (show okArg z = true from decide_eq_true hz)
        obtain ⟨z0, z1⟩ := hz
        go_wp2_with fail
        go_round
        case rel => exact ⟨k + 1, by omega, by go_num, HNX.out HOK.out⟩
        case measure => simp [intOf]; omega
      · have HOK := Lib.hid (show okArg z = false from decide_eq_false hz)
        by_cases hz0 : z < 0
        · go_wp2_with fail
          go_ret
          exact ⟨ret_bool (HNO.out HOK.out).symm, Below.refl _ _⟩
        · have hz1 : 9999 < z := by omega
          have hz2 : 0 ≤ z := by omega
          go_wp2_with fail
          go_ret
          exact ⟨ret_bool (HNO.out HOK.out).symm, Below.refl _ _⟩
    · obtain rfl : na = k := by omega
      have HE := Lib.hid (argsB_end HL.out HA.out)
      by_cases h8 : na ≤ 8
      · have HE' := Lib.hid (HE.out.trans (decide_eq_true h8))
        go_wp2_with fail
        go_ret
        exact ⟨ret_bool (by rw [HE'.out]; exact decide_eq_true (by omega)), Below.refl _ _⟩
      · have HE' := Lib.hid (HE.out.trans (decide_eq_false h8))
        go_wp2_with fail
        go_ret
        exact ⟨ret_bool (by rw [HE'.out]; exact decide_eq_false (by omega)), Below.refl _ _⟩
end Go.Proofs.YtgnpgkkjcloghaaGreatDoor.Vp
