/- FnExactRuneBytes: the walk of the law from the contracts of the program, of its model and of the laws' helpers; at every int, no condition. -/
import Derived.Test.YtmmdggmnjmoebaaBytesM
import Derived.Test.YtmmdggmnjmoebaaRuneB
namespace Go.Proofs.Ytmmdggmnjmoebaa.fnExactRuneBytes
open Go.RowKit Go.Proofs.Ytmmdggmnjmoebaa.Bytes Go.Proofs.Ytmmdggmnjmoebaa.Rune
set_option linter.unusedVariables false
theorem own : ownKnob Try.prog.godebug = none := by kernel_rfl
set_option maxRecDepth 100000 in
set_option maxHeartbeats 1600000 in
theorem walk (r : Int) (w : World) (w0 : (Lit.int .i64 r).wf = true) :
    Calls Try.prog 4 #[.int .i64 r] w fun e w' => e = .returned (.bool true) ∧ Below w.heap.size w w' := by
  have HK := rb_len r
  clear w0
  go_enter Try.func4, Try.ntmps4
  go_wp2_with fail
  refine (spec_RuneBytes_any r _).mono ?_
  rintro e v1 ⟨A1, n1, c1, rfl, ho1, hb1⟩
  have hs1 := hb1.size
  have hn1 : n1 ≤ 3 := by have := ho1.len; omega
  have hk1 := Lib.hid ho1.blk
  go_wp2_with fail
  refine (impl_RuneBytes_any r _).mono ?_
  rintro e v2 ⟨A2, n2, c2, rfl, ho2, hx2⟩
  have hb2 := hb1.trans (hx2.mono hs1)
  have hs2 := hb2.size
  have hn2 : n2 ≤ 3 := by have := ho2.len; omega
  have hk2 := Lib.hid ho2.blk
  have ho1_2 := ho1.below (Nat.le_refl _) hx2
  go_wp2_with fail
  refine (eqByteS_yes A2 A1 n2 c2 n1 c1 _ _ ho2.rd ho1_2.rd ho2.len ho1_2.len (by omega)).mono ?_
  rintro e v3 ⟨rfl, hx3⟩
  have hb3 := hb2.trans (hx3.mono hs2)
  have hs3 := hb3.size
  have ho1_3 := ho1_2.below (Nat.le_refl _) hx3
  have ho2_3 := ho2.below (Nat.le_refl _) hx3
  go_wp2_with fail
  refine (markByteS_any A2 n2 c2 _ _ 1 _ ho2_3 (by omega) (by omega) (by omega)).mono ?_
  rintro e v4 ⟨rfl, ho4, hg4⟩
  have hb4 := hb3.grown hg4 hs3 (fun g hg => Nat.le_trans (by omega) (ho2_3.blk g hg).1)
  have hs4 := hb4.size
  have ho1_4 := ho1_3.keep hg4 (fun g h1 h2 => by have := (hk1.out g h1).2; have := (hk2.out g h2).1; omega)
  go_wp2_with fail
  refine (heldByteS_any A2 n2 c2 1 _ ho4.rd (by omega) (by omega) (by omega)).mono ?_
  rintro e w' ⟨rfl, rfl⟩
  go_wp2_with fail
  refine (impl_RuneBytes_any r _).mono ?_
  rintro e v5 ⟨A5, n5, c5, rfl, ho5, hx5⟩
  have hb5 := hb4.trans (hx5.mono hs4)
  have hs5 := hb5.size
  have ho1_5 := ho1_4.below (Nat.le_refl _) hx5
  have ho4_5 := ho4.below (Nat.le_refl _) hx5
  have hn5 : n5 ≤ 3 := by have := ho5.len; omega
  go_wp2_with fail
  refine (eqByteS_yes A5 A1 n5 c5 n1 c1 _ _ ho5.rd ho1_5.rd ho5.len ho1_5.len (by omega)).mono ?_
  rintro e v6 ⟨rfl, hx6⟩
  have hb6 := hb5.trans (hx6.mono hs5)
  have hs6 := hb6.size
  have ho4_6 := ho4_5.below (Nat.le_refl _) hx6
  go_wp2_with fail
  refine (heldByteS_any A2 n2 c2 1 _ ho4_6.rd (by omega) (by omega) (by omega)).mono ?_
  rintro e w' ⟨rfl, rfl⟩
  go_wp2_with fail
  go_ret
  exact ⟨rfl, hb6⟩
end Go.Proofs.Ytmmdggmnjmoebaa.fnExactRuneBytes
