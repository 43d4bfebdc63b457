/- Contracts of RuneBytes, in the program (which calls the library): it answers the bytes of the rune; at every int. -/
import Derived.Test.YtgdjbpgfplcjpaaRuneBs
import Derived.Test.YtgdjbpgfplcjpaaShelf
import Derived.Laws.AppendOwnNone
import Derived.Laws.OwnMore
namespace Go.Proofs.Ytgdjbpgfplcjpaa.Rune
open Go.RowKit Go.Proofs.Ytgdjbpgfplcjpaa.Bytes
set_option linter.unusedVariables false
theorem rb_cells {r : Int} (h : showB r = true) : Lib.runeCells r = bv (rb r) := by
  have hb := show_bd h
  by_cases h1 : r < 128
  · rw [rb_one h h1]; simp [Lib.runeCells, Lib.encodeRuneZ_one (show 0 ≤ r by omega) (by omega), bv]
  · by_cases h2 : r < 2048
    · rw [rb_two h h1 h2]; simp [Lib.runeCells, Lib.encodeRuneZ_two (show 128 ≤ r by omega) (by omega), bv]
    · rw [rb_three h h1 h2]; simp [Lib.runeCells, Lib.encodeRuneZ_three (show (2048 ≤ r ∧ r < 55296) ∨ (57343 < r ∧ r ≤ 65535) by omega), bv]
theorem row_own {w : World} {base : Nat} {v : Value} {n : Nat} {xs : List Int} (h : w.ownsRow base 5 1 v n (bv xs)) : ∃ A c, v = .slice A n c ∧ Own w base A n c xs := by
  rcases h.2 with ⟨rfl, rfl⟩ | ⟨g, cap, cur, rfl, _⟩
  · exact ⟨none, 0, rfl, h⟩
  · exact ⟨_, cap, rfl, h⟩

set_option maxRecDepth 100000 in
set_option maxHeartbeats 800000 in
theorem impl_RuneBytes_any (r : Int) (w : World) :
    Calls Try.prog 48 #[.int .i64 r] w fun e w' => ∃ A n c, e = .returned (.slice A n c) ∧ Own w' w.heap.size A n c (rb r) ∧ Below w.heap.size w w' := by
  cases hv : showB r
  · have HN := Lib.hid (rb_no hv)
    have HV := Lib.hid hv
    clear hv
    go_enter Try.func48, Try.ntmps48
    go_wp2_with fail
    refine (impl_Shows_any _ _).mono ?_
    rintro e w' ⟨rfl, rfl⟩
    rw [HV.out]
    go_wp2_with fail
    go_ret
    exact ⟨_, _, _, rfl, by rw [HN.out]; exact World.ownsRow_nil _ _ _ _, Below.refl _ _⟩
  · obtain ⟨hb0, hb1, hb2⟩ := show_bd hv
    have HB2 := Lib.hid hb2
    have HC := Lib.hid (rb_cells hv)
    have HV := Lib.hid hv
    clear hb2 hv
    go_enter Try.func48, Try.ntmps48
    go_wp2_with fail
    refine (impl_Shows_any _ _).mono ?_
    rintro e w' ⟨rfl, rfl⟩
    rw [HV.out]
    go_wp2_with fail
    refine (Try.utf8_AppendRune_plain w.heap.size (.slice none 0 0) 0 [] r (by omega) (by omega) _ (World.ownsRow_nil _ _ _ _) (by omega) (Nat.le_refl _)).mono ?_
    rintro e v1 ⟨v', rfl, ho, o, hg⟩
    rw [List.nil_append, HC.out, Nat.zero_add] at ho
    obtain ⟨A, c, rfl, ho'⟩ := row_own ho
    have HO := Lib.hid ho'
    have HB := Lib.hid (((Below.refl w.heap.size w).alloc (Nat.le_refl _) o).grown hg (by simp) (fun g hg => by simp [Value.ownBlock] at hg))
    clear ho ho' hg
    go_wp2_with fail
    go_ret
    exact ⟨_, _, _, rfl, HO.out, HB.out⟩
end Go.Proofs.Ytgdjbpgfplcjpaa.Rune
