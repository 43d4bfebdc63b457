/- FnExactDiskOpOk: the walk of the law from the contracts of the program, of its model and of the laws' helpers; at every operation, no condition. -/
import Derived.Test.YtmdohcmlfjijpaaOpOk
import Derived.Test.YtmdohcmlfjijpaaOpHelp
import Derived.Deep.RegionWith
namespace Go.Proofs.Ytmdohcmlfjijpaa.fnExactDiskOpOk
open Go.RowKit Go.Proofs.Ytmdohcmlfjijpaa.Bytes Go.Proofs.Ytmdohcmlfjijpaa.OpOk Go.Proofs.Ytmdohcmlfjijpaa.Made
set_option linter.unusedVariables false
theorem own : ownKnob Try.prog.godebug = none := by kernel_rfl

theorem undrew {W v : World} {B : Nat} (h : Below B W.drew v) : Below B W v := ⟨h.os, h.tape, h.output, h.size, h.block⟩
theorem rd_drew {w : World} {B : Nat} {A : Option Addr} {zs : List Int} (h : Rd w B A zs) : Rd w.drew B A zs := h
/-- four cells of a block -/
def Box4 (w : World) (b : Nat) (x0 x1 x2 x3 : Value) : Prop := w.cell? ⟨b, 0, none⟩ = some x0 ∧ w.cell? ⟨b, 1, none⟩ = some x1 ∧ w.cell? ⟨b, 2, none⟩ = some x2 ∧ w.cell? ⟨b, 3, none⟩ = some x3
theorem Box4.below {w w' : World} {B b : Nat} {x0 x1 x2 x3 : Value} (h : Box4 w b x0 x1 x2 x3) (hb : Below B w w') (hlt : b < B) : Box4 w' b x0 x1 x2 x3 :=
  ⟨(hb.cell (p := ⟨b, 0, none⟩) hlt).trans h.1, (hb.cell (p := ⟨b, 1, none⟩) hlt).trans h.2.1, (hb.cell (p := ⟨b, 2, none⟩) hlt).trans h.2.2.1, (hb.cell (p := ⟨b, 3, none⟩) hlt).trans h.2.2.2⟩
theorem Box4.new (w : World) (x0 x1 x2 x3 : Value) (t : TypeId) : Box4 (w.alloc (.cells #[x0, x1, x2, x3] t)) w.heap.size x0 x1 x2 x3 := by
  refine ⟨?_, ?_, ?_, ?_⟩ <;> (rw [World.cell?_alloc_at _ _ _ _ rfl]; rfl)

set_option maxRecDepth 100000 in
set_option maxHeartbeats 4000000 in
theorem walk (k : Int) (name to_ : ByteArray) (A : Option Addr) (n c : Nat) (z : List Int) (w : World) (h1 : name.size ≤ maxLen) (h2 : to_.size ≤ maxLen) (w0 : IsRow .u8 w A n c z) :
    Calls Try.prog 10 #[.agg #[.int .i64 k, .string name, .string to_, .slice A n c]] w fun e w' => e = .returned (.bool true) ∧ Below w.heap.size w w' := by
  have hnc : n ≤ 9223372036854775807 := by
    rcases w0 with ⟨_, h, _⟩ | ⟨_, _, h, h', _⟩
    · omega
    · unfold maxLen at h'; omega
  obtain ⟨hr, hl, _, _⟩ := w0.open_
  generalize z.take n = zs at *
  have g1 : name.size ≤ 9223372036854775807 := by unfold maxLen at h1; exact h1
  have g2 : to_.size ≤ 9223372036854775807 := by unfold maxLen at h2; exact h2
  have HR := Lib.hid hr
  have HL := Lib.hid hl
  have H1 := Lib.hid h1
  have H2 := Lib.hid h2
  clear hr hl w0 h1 h2
  by_cases hbig : (name.size : Int) + to_.size + n ≤ 1048576
  · have hn : n ≤ 1099511627776 := by omega
    have a0 : 0 ≤ 1048576 - (name.size : Int) - to_.size - n := by omega
    cases hv : opB k (madeB nb 16 name.data.toList) (madeB nb 16 to_.data.toList) name.toList.isEmpty to_.toList.isEmpty n <;> have HV := Lib.hid hv <;> clear hv <;>
    · have hb0 := Lib.hid ((Below.refl w.heap.size w).alloc (Nat.le_refl _) (.cells #[.int .i64 k, .string name, .string to_, .slice A n c] 60))
      have hx0 := Lib.hid (Box4.new w (.int .i64 k) (.string name) (.string to_) (.slice A n c) 60)
      go_enter Try.func10, Try.ntmps10
      go_wp2_with fail
      refine (szDiskOp_ok k name to_ A n c _ _ (by omega) (by omega)).mono ?_
      rintro e v1 ⟨rfl, hb1⟩
      have s1 : w.heap.size < v1.heap.size := by have := hb1.size; simp at this; omega
      have HB1 := Lib.hid (hb0.out.trans (hb1.mono (by simp)))
      have HX1 := Lib.hid (hx0.out.below hb1 (by simp))
      have HR1 := Lib.hid ((HR.out.below (Nat.le_refl _) HB1.out).more (Nat.le_of_lt s1))
      clear hb1 hb0 hx0
      obtain ⟨q0, q1, q2, q3⟩ := HX1.out
      go_wp2_with fail
      refine (toDiskOp_any k name to_ A n c zs _ HR1.out HL.out hn).mono ?_
      rintro e v2 ⟨A2, c2, rfl, ho2, hb2⟩
      have s2 : w.heap.size < v2.heap.size := by have := hb2.size; omega
      have HB2 := Lib.hid (HB1.out.trans (hb2.mono (Nat.le_of_lt s1)))
      have HX2 := Lib.hid (HX1.out.below hb2 s1)
      clear q0 q1 q2 q3 hb2 ho2 HR1 HX1 HB1
      go_wp2_with fail
      refine (spec_any k name to_ A2 n c2 _ hn H1.out H2.out).mono ?_
      rintro e v3 ⟨rfl, hb3⟩
      rw [HV.out]
      have s3 : w.heap.size < v3.heap.size := by have := hb3.size; omega
      have HB3 := Lib.hid (HB2.out.trans (hb3.mono (Nat.le_of_lt s2)))
      have HX3 := Lib.hid (HX2.out.below hb3 s2)
      have HR3 := Lib.hid ((HR.out.below (Nat.le_refl _) HB3.out).more (Nat.le_of_lt s3))
      clear hb3 HB2 HX2
      obtain ⟨q0, q1, q2, q3⟩ := HX3.out
      go_wp2_with fail
      refine (toDiskOp_any k name to_ A n c zs _ HR3.out HL.out hn).mono ?_
      rintro e v4 ⟨A4, c4, rfl, ho4, hb4⟩
      have s4 : w.heap.size < v4.heap.size := by have := hb4.size; omega
      have HB4 := Lib.hid (HB3.out.trans (hb4.mono (Nat.le_of_lt s3)))
      have HX4 := Lib.hid (HX3.out.below hb4 s3)
      have HO4 := Lib.hid ho4.rd
      clear q0 q1 q2 q3 hb4 ho4 HR3 HX3 HB3
      go_wp2_with fail
      refine (impl_any k name to_ A4 n c4 _ hn H1.out H2.out).mono ?_
      rintro e v5 ⟨rfl, hb5⟩
      rw [HV.out]
      have hy : Below v4.heap.size v4 (v4.alloc (.cells #[.int .i64 k, .string name, .string to_, .slice A4 n c4] 63)) := (Below.refl _ _).alloc (Nat.le_refl _) _
      have hy5 : Below v4.heap.size v4 v5 := hy.trans (hb5.mono (by simp))
      have s5 : v4.heap.size < v5.heap.size := by have := hb5.size; simp at this; omega
      have HB5 := Lib.hid (HB4.out.trans (hy5.mono (Nat.le_of_lt s4)))
      have HX5 := Lib.hid (HX4.out.below hy5 s4)
      have HY5 := Lib.hid ((Box4.new v4 (.int .i64 k) (.string name) (.string to_) (.slice A4 n c4) 63).below hb5 (by simp))
      have HR5 := Lib.hid ((HR.out.below (Nat.le_refl _) HB5.out).more (B' := v5.heap.size) (by omega))
      have HO5 := Lib.hid ((HO4.out.below (Nat.le_refl _) hy5).more (B' := v5.heap.size) (by omega))
      clear hb5 hy hy5 HX4 HB4 HO4
      obtain ⟨q0, q1, q2, q3⟩ := HX5.out
      obtain ⟨p0, p1, p2, p3⟩ := HY5.out
      go_wp2_with fail
      go_region_with (first
        | (go_at_call 40; refine (toDiskOp_any k name to_ A n c zs _ ?_ HL.out hn).mono ?_; exact rd_drew HR5.out; rintro e v6 ⟨A6, c6, rfl, ho6, hb6'⟩; have hb6 : Below v5.heap.size v5 v6 := undrew hb6'; clear hb6'; have HB6 := Lib.hid (HB5.out.trans (Below.mono hb6 (by omega))); have HO6 := Lib.hid ho6.rd; have HP6 := Lib.hid (HO5.out.below (Nat.le_refl _) hb6); have s6 : v5.heap.size ≤ v6.heap.size := hb6.size; obtain ⟨r0, r1, r2, r3⟩ := HY5.out.below hb6 s5; clear hb6 ho6)
        | (go_at_call 42; refine (eqDiskOp_yes k name to_ A4 _ n c4 _ zs _ ?_ ?_ HL.out hn).mono ?_; exact HP6.out.more s6; exact HO6.out; rintro e v7 ⟨rfl, hb7⟩))
      all_goals
        have HE := Lib.hid (HB6.out.trans (hb7.mono (by omega)))
        clear hb7
        go_wp2_with fail
        go_ret
        exact ⟨rfl, HE.out⟩
  · have hbig' : 1048576 < (name.size : Int) + to_.size + n := by omega
    go_enter Try.func10, Try.ntmps10
    go_wp2_with fail
    refine (szDiskOp_big k name to_ A n c _ _ (by omega) (by omega) g1 g2 hnc (by omega)).mono ?_
    rintro e v1 ⟨rfl, hb1⟩
    go_wp2_with fail
    go_ret
    exact ⟨rfl, ((Below.refl _ _).alloc (Nat.le_refl _) _).trans (hb1.mono (by simp))⟩
end Go.Proofs.Ytmdohcmlfjijpaa.fnExactDiskOpOk
