/- Contracts of RuneBytes, in the model: it answers the bytes of the rune; at every int. -/
import Derived.Test.YtbheimjepikkfaaDoorShows
import Derived.Test.YtbheimjepikkfaaDoorKiA
import Derived.Laws.AppendOwnNone
import Derived.Laws.OwnMore
namespace Go.Proofs.YtbheimjepikkfaaDoor.Rune
open Go.RowKit Go.Proofs.YtbheimjepikkfaaDoor.Bytes
set_option linter.unusedVariables false
def rb (r : Int) : List Int := if showB r then (if r < 128 then [r] else if r < 2048 then [192 + r / 64, 128 + r % 64] else [224 + r / 4096, 128 + r / 64 % 64, 128 + r % 64]) else []
theorem rb_no {r : Int} (h : showB r = false) : rb r = [] := by unfold rb; rw [h]; rfl
theorem rb_one {r : Int} (h : showB r = true) (h1 : r < 128) : rb r = [r] := by unfold rb; rw [h, if_pos rfl, if_pos h1]
theorem rb_two {r : Int} (h : showB r = true) (h1 : ¬ r < 128) (h2 : r < 2048) : rb r = [192 + r / 64, 128 + r % 64] := by unfold rb; rw [h, if_pos rfl, if_neg h1, if_pos h2]
theorem rb_three {r : Int} (h : showB r = true) (h1 : ¬ r < 128) (h2 : ¬ r < 2048) : rb r = [224 + r / 4096, 128 + r / 64 % 64, 128 + r % 64] := by unfold rb; rw [h, if_pos rfl, if_neg h1, if_neg h2]
theorem rb_len (r : Int) : (rb r).length ≤ 3 := by unfold rb; repeat' split
                                                   all_goals simp
theorem show_bd {r : Int} (h : showB r = true) : 32 ≤ r ∧ r ≤ 65535 ∧ (r < 55296 ∨ 57343 < r) := by
  have := of_decide_eq_true h
  omega
theorem own_lit (w : World) (zs : List Int) (cs : Array Value) (h : cs.toList = bv zs) (hn : zs.length ≤ 100) : Own (w.alloc (.cells cs 5)) w.heap.size (some ⟨w.heap.size, 0, none⟩) zs.length zs.length zs := by
  unfold Own
  rw [← h]
  have hl : cs.size = zs.length := by rw [← Array.length_toList, h]; simp [bv]
  exact World.ownsRow_lit w cs zs.length (Nat.le_refl _) (by unfold maxLen; omega) (by omega)

set_option maxRecDepth 100000 in
set_option maxHeartbeats 800000 in
theorem spec_RuneBytes_any (r : Int) (w : World) :
    Calls Tryd.prog 72 #[.int .i64 r] w fun e w' => ∃ A n c, e = .returned (.slice A n c) ∧ Own w' w.heap.size A n c (rb r) ∧ Below w.heap.size w w' := by
  cases hv : showB r
  · have HN := Lib.hid (rb_no hv)
    have HV := Lib.hid hv
    clear hv
    go_enter Tryd.func72, Tryd.ntmps72
    go_wp2_with fail
    refine (spec_Shows_any _ _).mono ?_
    rintro e w' ⟨rfl, rfl⟩
    rw [HV.out]
    go_wp2_with fail
    go_ret
    exact ⟨_, _, _, rfl, by rw [HN.out]; exact World.ownsRow_nil _ _ _ _, Below.refl _ _⟩
  · obtain ⟨hb0, hb1, hb2⟩ := show_bd hv
    have HB2 := Lib.hid hb2
    clear hb2
    by_cases h1 : r < 128
    · have HN := Lib.hid (rb_one hv h1)
      have HV := Lib.hid hv
      have HO := Lib.hid (own_lit w [r] #[.int .u8 r] rfl (by simp))
      clear hv
      go_enter Tryd.func72, Tryd.ntmps72
      go_wp2_with fail
      refine (spec_Shows_any _ _).mono ?_
      rintro e w' ⟨rfl, rfl⟩
      rw [HV.out]
      go_wp2_with fail
      go_ret
      exact ⟨_, _, _, rfl, by rw [HN.out]; exact HO.out, (Below.refl _ _).alloc (Nat.le_refl _) _⟩
    · by_cases h2 : r < 2048
      · have HN := Lib.hid (rb_two hv h1 h2)
        have HV := Lib.hid hv
        have HO := Lib.hid (own_lit w [192 + r / 64, 128 + r % 64] #[.int .u8 (192 + r / 64), .int .u8 (128 + r % 64)] rfl (by simp))
        clear hv
        go_enter Tryd.func72, Tryd.ntmps72
        go_wp2_with fail
        refine (spec_Shows_any _ _).mono ?_
        rintro e w' ⟨rfl, rfl⟩
        rw [HV.out]
        go_wp2_with fail
        go_ret
        exact ⟨_, _, _, rfl, by rw [HN.out]; exact HO.out, (Below.refl _ _).alloc (Nat.le_refl _) _⟩
      · have HN := Lib.hid (rb_three hv h1 h2)
        have HV := Lib.hid hv
        have HO := Lib.hid (own_lit w [224 + r / 4096, 128 + r / 64 % 64, 128 + r % 64] #[.int .u8 (224 + r / 4096), .int .u8 (128 + r / 64 % 64), .int .u8 (128 + r % 64)] rfl (by simp))
        clear hv
        go_enter Tryd.func72, Tryd.ntmps72
        go_wp2_with fail
        refine (spec_Shows_any _ _).mono ?_
        rintro e w' ⟨rfl, rfl⟩
        rw [HV.out]
        go_wp2_with fail
        go_ret
        exact ⟨_, _, _, rfl, by rw [HN.out]; exact HO.out, (Below.refl _ _).alloc (Nat.le_refl _) _⟩

end Go.Proofs.YtbheimjepikkfaaDoor.Rune
