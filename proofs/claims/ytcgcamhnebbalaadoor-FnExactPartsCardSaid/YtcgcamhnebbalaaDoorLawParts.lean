/- FnExactParts: the walk of the law from the contracts of the program, of its model and of the laws' helpers; the library's split by its contract; at every input, no condition but that the library's own variable holds an int. -/
import Derived.Test.YtcgcamhnebbalaaDoorShelf
import Derived.Test.YtcgcamhnebbalaaDoorParts
import Derived.Test.YtcgcamhnebbalaaDoorStrMarks
import Derived.Shelf.Vars
namespace Go.Proofs.YtcgcamhnebbalaaDoor.Strs
open Go.RowKit
set_option linter.unusedVariables false

def MaxLen (w : World) : Prop := ∃ m, w.cell? ⟨3, 0, none⟩ = some (.int .i64 m)
theorem maxLen_of {w : World} (h : w.ShapedOpen Tryd.prog) : MaxLen w :=
  cell_of_shapedOpen_int (zero := #[.int .i64 0]) (t := 3) h (of_decide_eq_true (by kernel_rfl)) (by kernel_rfl) rfl (by kernel_rfl) (by kernel_rfl) Tryd.underlying3
theorem MaxLen.below {w w' : World} (h : MaxLen w) (hb : Below w.heap.size w w') : MaxLen w' := by
  obtain ⟨m, hm⟩ := h
  have hlt : 3 < w.heap.size := by simpa using World.block_lt_of_cell? w _ hm
  exact ⟨m, (hb.cell (p := ⟨3, 0, none⟩) hlt).trans hm⟩

set_option maxRecDepth 100000 in
theorem impl_any (s : ByteArray) (w : World) (hs : s.size ≤ 1048576) (hm : MaxLen w) :
    Calls Tryd.prog 18 #[.string s] w fun e w' => ∃ A c, e = .returned (.slice A (pc s).length c) ∧ Own w' w.heap.size A (pc s).length c (pc s) ∧ Below w.heap.size w w' := by
  obtain ⟨m, hm⟩ := hm
  have hlen : Lib.countB s ⟨#[32]⟩ + 1 = (pc s).length := by
    rw [← splitB_pc, Lib.splitB_all _ (by decide) 0 _ s rfl]
  have hown : Own (w.alloc (.cells ((pc s).map Value.string).toArray 9)) w.heap.size (some ⟨w.heap.size, 0, none⟩) (pc s).length (pc s).length (pc s) := by
    have hp := pc_len s
    exact World.ownsRow_lit w ((pc s).map Value.string).toArray (pc s).length (Nat.le_refl _) (by unfold maxLen; omega) (by simp)
  have hb : Below w.heap.size w (w.alloc (.cells ((pc s).map Value.string).toArray 9)) := (Below.refl _ _).alloc (Nat.le_refl _) _
  have hc := Tryd.strings_Split s ⟨#[32]⟩ m w (by omega) hm (by decide)
  rw [splitB_pc, hlen] at hc
  have HC := Lib.hid hc
  have HO := Lib.hid hown
  have HB := Lib.hid hb
  clear hc hown hb hlen hm
  go_enter Tryd.func18, Tryd.ntmps18
  go_wp2_with fail
  refine HC.out.mono ?_
  rintro e w1 ⟨rfl, rfl⟩
  go_wp2_with fail
  go_ret
  exact ⟨_, _, rfl, HO.out, HB.out⟩

set_option maxRecDepth 100000 in
set_option maxHeartbeats 3200000 in
theorem law (a0 : ByteArray) (w0 : a0.size ≤ maxLen) (w : World) (hm : MaxLen w) :
    Calls Tryd.prog 6 #[.string a0] w fun e w' => e = .returned (.bool true) ∧ Below w.heap.size w w' := by
  unfold maxLen at w0
  by_cases hbig : a0.size ≤ 1048576
  · have hp := pc_len a0
    have hs := Lib.hid (fun W => spec_any a0 W hbig)
    have hi := Lib.hid (fun W => impl_any a0 W hbig)
    generalize pc a0 = P at *
    obtain ⟨n, hn⟩ : ∃ n, n = P.length := ⟨_, rfl⟩
    rw [← hn] at hp hi
    have HN := Lib.hid hn
    have HM := Lib.hid hm
    clear hn hm
    go_enter Tryd.func6, Tryd.ntmps6
    go_wp2_with fail
    refine (hs.out _).mono ?_
    rintro e v1 ⟨A1, n1, c1, rfl, ho1, hb1⟩
    obtain rfl : n1 = n := by rw [← ho1.len, HN.out]
    have hs1 := hb1.size
    go_wp2_with fail
    refine (hi.out _ (HM.out.below hb1)).mono ?_
    rintro e v2 ⟨A2, c2, rfl, ho2, hx2⟩
    have ho1a := ho1.below (Nat.le_refl _) hx2
    have hk1 := Lib.hid ho1.blk
    have hb2 := hb1.trans (hx2.mono hs1)
    have hs2 := hb2.size
    clear ho1
    go_wp2_with fail
    refine (eq_yes A2 A1 n1 c2 c1 P _ ho2.rd ho1a.rd HN.out.symm (by omega)).mono ?_
    rintro e v3 ⟨rfl, hx3⟩
    have ho1b := ho1a.below (Nat.le_refl _) hx3
    have ho2b := ho2.below (Nat.le_refl _) hx3
    have hb3 := hb2.trans (hx3.mono hs2)
    have hs3 := hb3.size
    clear ho1a ho2
    go_wp2_with fail
    refine (mark_any A2 n1 c2 _ P 1 _ ho2b (by omega) (by omega) (by omega)).mono ?_
    rintro e v4 ⟨rfl, ho2c, hg4⟩
    have ho1c := ho1b.keep hg4 (fun g h1 h2 => by have := (hk1.out g h1).2; have := (ho2b.blk g h2).1; omega)
    have hb4 := hb3.grown hg4 hs3 (fun g hg => Nat.le_trans (by omega) (ho2b.blk g hg).1)
    have hs4 := hb4.size
    clear ho1b ho2b
    go_wp2_with fail
    refine (held_any A2 n1 c2 1 _ ho2c.rd (by omega) (by omega) (by omega)).mono ?_
    rintro e v5 ⟨rfl, hx5⟩
    have ho1d := ho1c.below (Nat.le_refl _) hx5
    have ho2d := ho2c.below (Nat.le_refl _) hx5
    have hb5 := hb4.trans (hx5.mono hs4)
    have hs5 := hb5.size
    clear ho1c ho2c
    go_wp2_with fail
    refine (hi.out _ (HM.out.below hb5)).mono ?_
    rintro e v6 ⟨A6, c6, rfl, ho6, hx6⟩
    have ho1e := ho1d.below (Nat.le_refl _) hx6
    have ho2e := ho2d.below (Nat.le_refl _) hx6
    have hb6 := hb5.trans (hx6.mono hs5)
    have hs6 := hb6.size
    clear ho1d ho2d
    go_wp2_with fail
    refine (eq_yes A6 A1 n1 c6 c1 P _ ho6.rd ho1e.rd HN.out.symm (by omega)).mono ?_
    rintro e v7 ⟨rfl, hx7⟩
    have ho2f := ho2e.below (Nat.le_refl _) hx7
    have hb7 := hb6.trans (hx7.mono hs6)
    have hs7 := hb7.size
    clear ho1e ho2e ho6
    go_wp2_with fail
    refine (held_any A2 n1 c2 1 _ ho2f.rd (by omega) (by omega) (by omega)).mono ?_
    rintro e v8 ⟨rfl, hx8⟩
    have hb8 := hb7.trans (hx8.mono hs7)
    go_wp2_with fail
    go_ret
    exact ⟨rfl, hb8⟩
  · have hbig' : 1048576 < a0.size := by omega
    go_enter Tryd.func6, Tryd.ntmps6
    go_wp2_with fail
    go_ret
    exact ⟨rfl, Below.refl _ _⟩
end Go.Proofs.YtcgcamhnebbalaaDoor.Strs
