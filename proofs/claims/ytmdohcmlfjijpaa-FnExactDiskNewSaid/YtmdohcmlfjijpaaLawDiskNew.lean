/- FnExactDiskNew: the walk of the law from the contracts of the program, of its model and of the laws' helpers; at every room, no condition. -/
import Derived.Test.YtmdohcmlfjijpaaDiskNew
namespace Go.Proofs.Ytmdohcmlfjijpaa.fnExactDiskNew
open Go.RowKit Go.Proofs.Ytmdohcmlfjijpaa.DiskNew
set_option linter.unusedVariables false
theorem own : ownKnob Try.prog.godebug = none := by kernel_rfl

/-- a disk without files, links and turns -/
def D0 (r f n : Int) : Value := .agg #[.int .i64 r, .int .i64 f, .int .i64 n, .slice none 0 0, .slice none 0 0, .slice none 0 0]

set_option maxRecDepth 100000 in
set_option maxHeartbeats 1600000 in
theorem diskOk_yes (r : Int) (h0 : 0 ≤ r) (h1 : r ≤ 400000) (w : World) :
    Calls Try.prog 15 #[.agg #[.int .i64 r, .int .i64 (-1), .int .i64 1, .slice none 0 0, .slice none 0 0, .slice none 0 0]] w fun e w' => e = .returned (.bool true) ∧ Below w.heap.size w w' := by
  have hb0 := Lib.hid ((Below.refl w.heap.size w).alloc (Nat.le_refl _) (.cells #[.int .i64 r, .int .i64 (-1), .int .i64 1, .slice none 0 0, .slice none 0 0, .slice none 0 0] 27))
  go_enter Try.func15, Try.ntmps15
  go_wp2_with fail
  refine (filesOk_nil r (-1) 1 h0 _).mono ?_
  rintro e w1 ⟨rfl, hb1⟩
  obtain ⟨hc1, hf1⟩ := bcell hb1
  have hz1 : w.heap.size < w1.heap.size := by have := hb1.size; simp at this; omega
  have HB1 := Lib.hid (hb0.out.trans (hb1.mono (by simp)))
  clear hb1 hf1
  go_wp2_with fail
  refine (keptOk_nil _).mono ?_
  rintro e w' ⟨rfl, rfl⟩
  go_wp2_with fail
  refine (turnsOk_nil _).mono ?_
  rintro e w2 ⟨rfl, hb2⟩
  have hc2 := bcellB hb2
  have HB2 := Lib.hid (HB1.out.trans (hb2.mono (by omega)))
  clear hb2
  go_wp2_with fail
  refine (idsOk_nil r (-1) 1 _).mono ?_
  rintro e w3 ⟨rfl, hb3⟩
  have hz2 : w.heap.size ≤ w2.heap.size := HB2.out.size
  have HB3 := Lib.hid (HB2.out.trans (hb3.mono (by omega)))
  clear hb3
  go_wp2_with fail
  go_ret
  exact ⟨rfl, HB3.out⟩

set_option maxRecDepth 100000 in
set_option maxHeartbeats 1600000 in
theorem diskOk_no (r : Int) (h : r < 0 ∨ 400000 < r) (w : World) :
    Calls Try.prog 15 #[.agg #[.int .i64 r, .int .i64 (-1), .int .i64 1, .slice none 0 0, .slice none 0 0, .slice none 0 0]] w fun e w' => e = .returned (.bool false) ∧ Below w.heap.size w w' := by
  rcases h with h | h
  · have h' : ¬ 0 ≤ r := by omega
    go_enter Try.func15, Try.ntmps15
    go_wp2_with fail
    go_ret
    exact ⟨rfl, (Below.refl _ _).alloc (Nat.le_refl _) _⟩
  · have h0 : 0 ≤ r := by omega
    have h' : ¬ r ≤ 400000 := by omega
    go_enter Try.func15, Try.ntmps15
    go_wp2_with fail
    go_ret
    exact ⟨rfl, (Below.refl _ _).alloc (Nat.le_refl _) _⟩

/-- what both answer: the disk's three numbers and whether there is one -/
def R0 (r : Int) : Int := if 0 ≤ r ∧ r ≤ 400000 then r else 0
def F0 (r : Int) : Int := if 0 ≤ r ∧ r ≤ 400000 then -1 else 0
def N0 (r : Int) : Int := if 0 ≤ r ∧ r ≤ 400000 then 1 else 0
def B0 (r : Int) : Bool := decide (0 ≤ r ∧ r ≤ 400000)
theorem yes_ {r : Int} (h : 0 ≤ r ∧ r ≤ 400000) : R0 r = r ∧ F0 r = -1 ∧ N0 r = 1 ∧ B0 r = true := by simp [R0, F0, N0, B0, h]
theorem no_ {r : Int} (h : ¬ (0 ≤ r ∧ r ≤ 400000)) : R0 r = 0 ∧ F0 r = 0 ∧ N0 r = 0 ∧ B0 r = false := by simp [R0, F0, N0, B0, h]

set_option maxRecDepth 100000 in
set_option maxHeartbeats 1600000 in
theorem spec_any (r : Int) (w : World) :
    Calls Try.prog 25 #[.int .i64 r] w fun e w' => e = .returned (.tuple #[.agg #[.int .i64 (R0 r), .int .i64 (F0 r), .int .i64 (N0 r), .slice none 0 0, .slice none 0 0, .slice none 0 0], .bool (B0 r)]) ∧ Below w.heap.size w w' := by
  by_cases h : 0 ≤ r ∧ r ≤ 400000
  · obtain ⟨e1, e2, e3, e4⟩ := yes_ h
    rw [e1, e2, e3, e4]
    obtain ⟨h0, h1⟩ := h
    clear e1 e2 e3 e4
    go_enter Try.func25, Try.ntmps25
    go_wp2_with fail
    exact bodyPost_ret (v := .tuple #[.agg #[.int .i64 r, .int .i64 (-1), .int .i64 1, .slice none 0 0, .slice none 0 0, .slice none 0 0], .bool true]) (by simp [results, Try.results25, go_sem]) rfl ⟨rfl, (Below.refl _ _).alloc (Nat.le_refl _) _⟩
  · obtain ⟨e1, e2, e3, e4⟩ := no_ h
    rw [e1, e2, e3, e4]
    clear e1 e2 e3 e4
    by_cases h0 : r < 0
    · clear h
      go_enter Try.func25, Try.ntmps25
      go_wp2_with fail
      exact bodyPost_ret (v := .tuple #[.agg #[.int .i64 0, .int .i64 0, .int .i64 0, .slice none 0 0, .slice none 0 0, .slice none 0 0], .bool false]) (by simp [results, Try.results25, go_sem]) rfl ⟨rfl, (Below.refl _ _).alloc (Nat.le_refl _) _⟩
    · have h1 : 400000 < r := by omega
      clear h
      go_enter Try.func25, Try.ntmps25
      go_wp2_with fail
      exact bodyPost_ret (v := .tuple #[.agg #[.int .i64 0, .int .i64 0, .int .i64 0, .slice none 0 0, .slice none 0 0, .slice none 0 0], .bool false]) (by simp [results, Try.results25, go_sem]) rfl ⟨rfl, (Below.refl _ _).alloc (Nat.le_refl _) _⟩

set_option maxRecDepth 100000 in
set_option maxHeartbeats 1600000 in
theorem impl_any (r : Int) (w : World) :
    Calls Try.prog 26 #[.int .i64 r] w fun e w' => e = .returned (.tuple #[.agg #[.int .i64 (R0 r), .int .i64 (F0 r), .int .i64 (N0 r), .slice none 0 0, .slice none 0 0, .slice none 0 0], .bool (B0 r)]) ∧ Below w.heap.size w w' := by
  have hb0 := Lib.hid (((Below.refl w.heap.size w).alloc (Nat.le_refl _) (.cells #[.int .i64 0, .int .i64 0, .int .i64 0, .slice none 0 0, .slice none 0 0, .slice none 0 0] 27)).alloc (by simp) (.cells #[.int .i64 r, .int .i64 (-1), .int .i64 1, .slice none 0 0, .slice none 0 0, .slice none 0 0] 27))
  by_cases h : 0 ≤ r ∧ r ≤ 400000
  · obtain ⟨e1, e2, e3, e4⟩ := yes_ h
    rw [e1, e2, e3, e4]
    have hc := Lib.hid (diskOk_yes r h.1 h.2)
    clear e1 e2 e3 e4 h
    go_enter Try.func26, Try.ntmps26
    go_wp2_with fail
    refine (hc.out _).mono ?_
    rintro e w1 ⟨rfl, hb1⟩
    obtain ⟨hc1, hf1⟩ := bcell hb1
    have hz1 : w.heap.size + 1 < w1.heap.size := by have := hb1.size; simp at this; omega
    have HB1 := Lib.hid (hb0.out.trans (hb1.mono (by simp; omega)))
    clear hb1
    go_wp2_with fail
    refine bodyPost_ret (v := .tuple #[.agg #[.int .i64 r, .int .i64 (-1), .int .i64 1, .slice none 0 0, .slice none 0 0, .slice none 0 0], .bool true]) (by simp [results, Try.results26, go_sem, hc1, show w.heap.size < w.heap.size + 1 + 1 by omega]) rfl ⟨rfl, ?_⟩
    exact (((((HB1.out.setCell (by simp) _).setCell (by simp) _).setCell (by simp) _).setCell (by simp) _).setCell (by simp) _).setCell (by simp) _
  · obtain ⟨e1, e2, e3, e4⟩ := no_ h
    rw [e1, e2, e3, e4]
    have hc := Lib.hid (diskOk_no r (by omega))
    clear e1 e2 e3 e4 h
    go_enter Try.func26, Try.ntmps26
    go_wp2_with fail
    refine (hc.out _).mono ?_
    rintro e w1 ⟨rfl, hb1⟩
    obtain ⟨hc1, hf1⟩ := bcell hb1
    have hz1 : w.heap.size + 1 < w1.heap.size := by have := hb1.size; simp at this; omega
    have HB1 := Lib.hid (hb0.out.trans (hb1.mono (by simp; omega)))
    clear hb1
    go_wp2_with fail
    refine bodyPost_ret (v := .tuple #[.agg #[.int .i64 0, .int .i64 0, .int .i64 0, .slice none 0 0, .slice none 0 0, .slice none 0 0], .bool false]) (by simp [results, Try.results26, go_sem, hc1, show w.heap.size < w.heap.size + 1 + 1 by omega]) rfl ⟨rfl, ?_⟩
    exact (((((HB1.out.setCell (by simp) _).setCell (by simp) _).setCell (by simp) _).setCell (by simp) _).setCell (by simp) _).setCell (by simp) _

def Box6 (w : World) (b : Nat) (R F N : Int) : Prop :=
  w.cell? ⟨b, 0, none⟩ = some (.int .i64 R) ∧ w.cell? ⟨b, 1, none⟩ = some (.int .i64 F) ∧ w.cell? ⟨b, 2, none⟩ = some (.int .i64 N) ∧ w.cell? ⟨b, 3, none⟩ = some (.slice none 0 0) ∧ w.cell? ⟨b, 4, none⟩ = some (.slice none 0 0) ∧ w.cell? ⟨b, 5, none⟩ = some (.slice none 0 0)
theorem Box6.below {w w' : World} {B b : Nat} {R F N : Int} (h : Box6 w b R F N) (hb : Below B w w') (hlt : b < B) : Box6 w' b R F N :=
  ⟨(hb.cell (p := ⟨b, 0, none⟩) hlt).trans h.1, (hb.cell (p := ⟨b, 1, none⟩) hlt).trans h.2.1, (hb.cell (p := ⟨b, 2, none⟩) hlt).trans h.2.2.1, (hb.cell (p := ⟨b, 3, none⟩) hlt).trans h.2.2.2.1, (hb.cell (p := ⟨b, 4, none⟩) hlt).trans h.2.2.2.2.1, (hb.cell (p := ⟨b, 5, none⟩) hlt).trans h.2.2.2.2.2⟩
theorem Box6.new (w : World) (R F N : Int) (t : TypeId) : Box6 (w.alloc (.cells #[.int .i64 R, .int .i64 F, .int .i64 N, .slice none 0 0, .slice none 0 0, .slice none 0 0] t)) w.heap.size R F N := by
  refine ⟨?_, ?_, ?_, ?_, ?_, ?_⟩ <;> (rw [World.cell?_alloc_at _ _ _ _ rfl]; rfl)
theorem alloc6 (w : World) (R F N : Int) (t : TypeId) : Below w.heap.size w (w.alloc (.cells #[.int .i64 R, .int .i64 F, .int .i64 N, .slice none 0 0, .slice none 0 0, .slice none 0 0] t)) := (Below.refl _ _).alloc (Nat.le_refl _) _

set_option maxRecDepth 100000 in
set_option maxHeartbeats 4000000 in
theorem walk (r : Int) (w : World) (w0 : (Lit.int .i64 r).wf = true) :
    Calls Try.prog 7 #[.int .i64 r] w fun e w' => e = .returned (.bool true) ∧ Below w.heap.size w w' := by
  have hS := Lib.hid (fun W => spec_any r W)
  have hI := Lib.hid (fun W => impl_any r W)
  generalize R0 r = R at *
  generalize F0 r = F at *
  generalize N0 r = N at *
  generalize B0 r = b at *
  have hbb : (b != b) = false := by simp
  clear w0
  go_enter Try.func7, Try.ntmps7
  go_wp2_with fail
  refine (hS.out _).mono ?_
  rintro e v1 ⟨rfl, hb1⟩
  have s1 : w.heap.size ≤ v1.heap.size := hb1.size
  have HX1 := Lib.hid (Box6.new v1 R F N 27)
  have HB1 := Lib.hid (hb1.trans ((alloc6 v1 R F N 27).mono s1))
  clear hb1
  go_wp2_with fail
  refine (hI.out _).mono ?_
  rintro e v2 ⟨rfl, hb2⟩
  have s2 : v1.heap.size < v2.heap.size := by have := hb2.size; simp at this; omega
  have HX2 := Lib.hid ((HX1.out.below hb2 (by simp)).below (alloc6 v2 R F N 27) s2)
  have HY2 := Lib.hid (Box6.new v2 R F N 27)
  have HB2 := Lib.hid ((HB1.out.trans (hb2.mono (by simp; omega))).trans ((alloc6 v2 R F N 27).mono (by omega)))
  clear hb2 HX1 HB1
  obtain ⟨p0, p1, p2, p3, p4, p5⟩ := HX2.out
  go_wp2_with fail
  refine (eqDisk_nil R F N _).mono ?_
  rintro e v3 ⟨rfl, hb3⟩
  have s3 : v2.heap.size < v3.heap.size := by have := hb3.size; simp at this; omega
  have HX3 := Lib.hid (HX2.out.below hb3 (by simp; omega))
  have HY3 := Lib.hid (HY2.out.below hb3 (by simp))
  have HB3 := Lib.hid (HB2.out.trans (hb3.mono (by simp; omega)))
  clear hb3 HX2 HY2 HB2 p0 p1 p2 p3 p4 p5
  obtain ⟨q0, q1, q2, q3, q4, q5⟩ := HY3.out
  go_wp2_with fail
  refine (markDisk_nil R F N _).mono ?_
  rintro e v4 ⟨rfl, hb4⟩
  have s4 : v3.heap.size ≤ v4.heap.size := hb4.size
  have HX4 := Lib.hid (HX3.out.below hb4 (by omega))
  have HY4 := Lib.hid (HY3.out.below hb4 (by omega))
  have HB4 := Lib.hid (HB3.out.trans (hb4.mono (by omega)))
  clear hb4 HX3 HY3 HB3 q0 q1 q2 q3 q4 q5
  obtain ⟨q0, q1, q2, q3, q4, q5⟩ := HY4.out
  go_wp2_with fail
  refine (heldDisk_nil R F N _).mono ?_
  rintro e v5 ⟨rfl, hb5⟩
  have s5 : v4.heap.size ≤ v5.heap.size := hb5.size
  have HX5 := Lib.hid (HX4.out.below hb5 (by omega))
  have HY5 := Lib.hid (HY4.out.below hb5 (by omega))
  have HB5 := Lib.hid (HB4.out.trans (hb5.mono (by omega)))
  clear hb5 HX4 HY4 HB4 q0 q1 q2 q3 q4 q5
  go_wp2_with fail
  refine (hI.out _).mono ?_
  rintro e v6 ⟨rfl, hb6⟩
  have s6 : v5.heap.size ≤ v6.heap.size := hb6.size
  have HX6 := Lib.hid ((HX5.out.below hb6 (by omega)).below (alloc6 v6 R F N 27) (by omega))
  have HY6 := Lib.hid ((HY5.out.below hb6 (by omega)).below (alloc6 v6 R F N 27) (by omega))
  have HZ6 := Lib.hid (Box6.new v6 R F N 27)
  have HB6 := Lib.hid ((HB5.out.trans (hb6.mono (by omega))).trans ((alloc6 v6 R F N 27).mono (by omega)))
  clear hb6 HX5 HY5 HB5
  obtain ⟨p0, p1, p2, p3, p4, p5⟩ := HX6.out
  obtain ⟨q0, q1, q2, q3, q4, q5⟩ := HZ6.out
  go_wp2_with fail
  refine (eqDisk_nil R F N _).mono ?_
  rintro e v7 ⟨rfl, hb7⟩
  have s7 : v6.heap.size < v7.heap.size := by have := hb7.size; simp at this; omega
  have HY7 := Lib.hid (HY6.out.below hb7 (by simp; omega))
  have HB7 := Lib.hid (HB6.out.trans (hb7.mono (by simp; omega)))
  clear hb7 HX6 HY6 HZ6 HB6 p0 p1 p2 p3 p4 p5 q0 q1 q2 q3 q4 q5
  obtain ⟨q0, q1, q2, q3, q4, q5⟩ := HY7.out
  go_wp2_with fail
  refine (heldDisk_nil R F N _).mono ?_
  rintro e v8 ⟨rfl, hb8⟩
  have HB8 := Lib.hid (HB7.out.trans (hb8.mono (by omega)))
  clear hb8
  go_wp2_with fail
  go_ret
  exact ⟨rfl, HB8.out⟩
end Go.Proofs.Ytmdohcmlfjijpaa.fnExactDiskNew
