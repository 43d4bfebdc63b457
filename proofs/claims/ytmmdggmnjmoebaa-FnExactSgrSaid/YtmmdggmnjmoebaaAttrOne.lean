/- One parameter's turn of an attribute, in the model and in the program; at every attribute and every int. -/
import Derived.Test.YtmmdggmnjmoebaaAttr
namespace Go.Proofs.Ytmmdggmnjmoebaa.Attr
open Go.RowKit
set_option linter.unusedVariables false
structure AD where
  fg : Int
  bg : Int
  b : Bool
  u : Bool
  t : Bool
def AD.v (a : AD) : Value := .agg #[.int .i64 a.fg, .int .i64 a.bg, .bool a.b, .bool a.u, .bool a.t]
def AD.zero : AD := ⟨0, 0, false, false, false⟩
def one (a : AD) (n : Int) : AD :=
  if n = 0 then AD.zero
  else if n = 1 then ⟨a.fg, a.bg, true, a.u, a.t⟩ else if n = 22 then ⟨a.fg, a.bg, false, a.u, a.t⟩
  else if n = 4 then ⟨a.fg, a.bg, a.b, true, a.t⟩ else if n = 24 then ⟨a.fg, a.bg, a.b, false, a.t⟩
  else if n = 7 then ⟨a.fg, a.bg, a.b, a.u, true⟩ else if n = 27 then ⟨a.fg, a.bg, a.b, a.u, false⟩
  else if n = 39 then ⟨0, a.bg, a.b, a.u, a.t⟩ else if n = 49 then ⟨a.fg, 0, a.b, a.u, a.t⟩
  else if 30 ≤ n ∧ n ≤ 37 then ⟨n - 29, a.bg, a.b, a.u, a.t⟩
  else if 40 ≤ n ∧ n ≤ 47 then ⟨a.fg, n - 39, a.b, a.u, a.t⟩
  else a
theorem cases_n (n : Int) : n = 0 ∨ n = 1 ∨ n = 22 ∨ n = 4 ∨ n = 24 ∨ n = 7 ∨ n = 27 ∨ n = 39 ∨ n = 49 ∨ (n ≠ 0 ∧ n ≠ 1 ∧ n ≠ 22 ∧ n ≠ 4 ∧ n ≠ 24 ∧ n ≠ 7 ∧ n ≠ 27 ∧ n ≠ 39 ∧ n ≠ 49) := by omega
theorem one_fg (a : AD) (n : Int) (h0 : 30 ≤ n) (h1 : n ≤ 37) : one a n = ⟨n - 29, a.bg, a.b, a.u, a.t⟩ := by
  unfold one
  rw [if_neg (by omega), if_neg (by omega), if_neg (by omega), if_neg (by omega), if_neg (by omega), if_neg (by omega), if_neg (by omega), if_neg (by omega), if_neg (by omega), if_pos ⟨h0, h1⟩]
theorem one_bg (a : AD) (n : Int) (h0 : 40 ≤ n) (h1 : n ≤ 47) : one a n = ⟨a.fg, n - 39, a.b, a.u, a.t⟩ := by
  unfold one
  rw [if_neg (by omega), if_neg (by omega), if_neg (by omega), if_neg (by omega), if_neg (by omega), if_neg (by omega), if_neg (by omega), if_neg (by omega), if_neg (by omega), if_neg (by omega), if_pos ⟨h0, h1⟩]
theorem one_no (a : AD) (n : Int) (h : n ≠ 0 ∧ n ≠ 1 ∧ n ≠ 22 ∧ n ≠ 4 ∧ n ≠ 24 ∧ n ≠ 7 ∧ n ≠ 27 ∧ n ≠ 39 ∧ n ≠ 49) (h0 : ¬ (30 ≤ n ∧ n ≤ 37)) (h1 : ¬ (40 ≤ n ∧ n ≤ 47)) : one a n = a := by
  unfold one
  rw [if_neg (by omega), if_neg (by omega), if_neg (by omega), if_neg (by omega), if_neg (by omega), if_neg (by omega), if_neg (by omega), if_neg (by omega), if_neg (by omega), if_neg h0, if_neg h1]
theorem nb {n k : Int} (h : n ≠ k) : (n == k) = false := by simp [h]

set_option maxRecDepth 100000 in
set_option maxHeartbeats 1600000 in
theorem withColor_any (fg bg : Int) (b u t : Bool) (n : Int) (w : World) (h : n ≠ 0 ∧ n ≠ 1 ∧ n ≠ 22 ∧ n ≠ 4 ∧ n ≠ 24 ∧ n ≠ 7 ∧ n ≠ 27 ∧ n ≠ 39 ∧ n ≠ 49) :
    Calls Try.prog 27 #[.agg #[.int .i64 fg, .int .i64 bg, .bool b, .bool u, .bool t], .int .i64 n] w fun e w' => e = .returned (one ⟨fg, bg, b, u, t⟩ n).v ∧ Below w.heap.size w w' := by
  by_cases h1 : 30 ≤ n ∧ n ≤ 37
  · have HO := Lib.hid (one_fg ⟨fg, bg, b, u, t⟩ n h1.1 h1.2)
    obtain ⟨h1, h2⟩ := h1
    have h1' : (29 : Int) < n := by omega
    clear h
    go_enter Try.func27, Try.ntmps27
    go_wp2_with fail
    refine bodyPost_ret (v := .agg #[.int .i64 (n - 29), .int .i64 bg, .bool b, .bool u, .bool t]) (by simp [results, Try.results27, go_sem]) rfl ⟨by rw [HO.out]; rfl, ?_⟩
    repeat (first | refine Below.setCell ?_ (by simp <;> omega) _ | refine Below.alloc ?_ (by simp <;> omega) _)
    exact Below.refl _ _
  · by_cases h2 : 40 ≤ n ∧ n ≤ 47
    · have HO := Lib.hid (one_bg ⟨fg, bg, b, u, t⟩ n h2.1 h2.2)
      obtain ⟨h2, h3⟩ := h2
      have h4 : (29 : Int) < n := by omega
      have h5 : ¬ n ≤ 37 := by omega
      have h6 : (39 : Int) < n := by omega
      clear h h1
      go_enter Try.func27, Try.ntmps27
      go_wp2_with fail
      refine bodyPost_ret (v := .agg #[.int .i64 fg, .int .i64 (n - 39), .bool b, .bool u, .bool t]) (by simp [results, Try.results27, go_sem]) rfl ⟨by rw [HO.out]; rfl, ?_⟩
      repeat (first | refine Below.setCell ?_ (by simp <;> omega) _ | refine Below.alloc ?_ (by simp <;> omega) _)
      exact Below.refl _ _
    · have HO := Lib.hid (one_no ⟨fg, bg, b, u, t⟩ n h h1 h2)
      have h3 : n ≤ 29 ∨ (n = 38) ∨ 48 ≤ n := by omega
      clear h h1 h2
      rcases h3 with h3 | rfl | h3
      · have h4 : ¬ (29 : Int) < n := by omega
        have h5 : ¬ (39 : Int) < n := by omega
        go_enter Try.func27, Try.ntmps27
        go_wp2_with fail
        refine bodyPost_ret (v := .agg #[.int .i64 fg, .int .i64 bg, .bool b, .bool u, .bool t]) (by simp [results, Try.results27, go_sem]) rfl ⟨by rw [HO.out]; rfl, ?_⟩
        repeat (first | refine Below.setCell ?_ (by simp <;> omega) _ | refine Below.alloc ?_ (by simp <;> omega) _)
        exact Below.refl _ _
      · go_enter Try.func27, Try.ntmps27
        go_wp2_with fail
        refine bodyPost_ret (v := .agg #[.int .i64 fg, .int .i64 bg, .bool b, .bool u, .bool t]) (by simp [results, Try.results27, go_sem]) rfl ⟨by rw [HO.out]; rfl, ?_⟩
        repeat (first | refine Below.setCell ?_ (by simp <;> omega) _ | refine Below.alloc ?_ (by simp <;> omega) _)
        exact Below.refl _ _
      · have h4 : (29 : Int) < n := by omega
        have h5 : ¬ n ≤ 37 := by omega
        have h6 : (39 : Int) < n := by omega
        have h7 : ¬ n ≤ 47 := by omega
        go_enter Try.func27, Try.ntmps27
        go_wp2_with fail
        refine bodyPost_ret (v := .agg #[.int .i64 fg, .int .i64 bg, .bool b, .bool u, .bool t]) (by simp [results, Try.results27, go_sem]) rfl ⟨by rw [HO.out]; rfl, ?_⟩
        repeat (first | refine Below.setCell ?_ (by simp <;> omega) _ | refine Below.alloc ?_ (by simp <;> omega) _)
        exact Below.refl _ _

set_option maxRecDepth 100000 in
set_option maxHeartbeats 3200000 in
theorem withParameter_any (fg bg : Int) (b u t : Bool) (n : Int) (w : World) :
    Calls Try.prog 25 #[.agg #[.int .i64 fg, .int .i64 bg, .bool b, .bool u, .bool t], .int .i64 n] w fun e w' => e = .returned (one ⟨fg, bg, b, u, t⟩ n).v ∧ Below w.heap.size w w' := by
  rcases cases_n n with rfl | rfl | rfl | rfl | rfl | rfl | rfl | rfl | rfl | h
  iterate 9
    · go_enter Try.func25, Try.ntmps25
      go_wp2_with fail
      refine bodyPost_ret (by simp [results, Try.results25, go_sem]; rfl) rfl ⟨rfl, ?_⟩
      repeat (first | refine Below.setCell ?_ (by simp <;> omega) _ | refine Below.alloc ?_ (by simp <;> omega) _)
      exact Below.refl _ _
  · have H := Lib.hid h
    obtain ⟨h0, h1, h2, h3, h4, h5, h6, h7, h8⟩ := h
    replace h0 := nb h0; replace h1 := nb h1; replace h2 := nb h2; replace h3 := nb h3; replace h4 := nb h4; replace h5 := nb h5; replace h6 := nb h6; replace h7 := nb h7; replace h8 := nb h8
    have HC := fun W => withColor_any fg bg b u t n W H.out
    generalize one ⟨fg, bg, b, u, t⟩ n = A at *
    obtain ⟨f', g', b', u', t'⟩ := A
    have HC := Lib.hid HC
    go_enter Try.func25, Try.ntmps25
    go_wp2_with fail
    refine (HC.out _).mono ?_
    simp only [AD.v]
    rintro e v1 ⟨rfl, hb⟩
    obtain ⟨hc, hf⟩ := bcell hb
    have hz : w.heap.size + 1 < v1.heap.size := by have := hb.size; simp at this; omega
    have HB := Lib.hid hb
    clear hb
    go_wp2_with fail
    refine bodyPost_ret (v := .agg #[.int .i64 f', .int .i64 g', .bool b', .bool u', .bool t']) (by simp [results, Try.results25, go_sem, hc]) rfl ⟨rfl, ?_⟩
    repeat (first | refine Below.setCell ?_ (by simp <;> omega) _)
    exact (((Below.refl _ _).alloc (Nat.le_refl _) _).alloc (by simp) _).trans (HB.out.mono (by simp; omega))

set_option maxRecDepth 100000 in
set_option maxHeartbeats 3200000 in
theorem l06One_any (fg bg : Int) (b u t : Bool) (n : Int) (w : World) :
    Calls Try.prog 24 #[.agg #[.int .i64 fg, .int .i64 bg, .bool b, .bool u, .bool t], .int .i64 n] w fun e w' => e = .returned (one ⟨fg, bg, b, u, t⟩ n).v ∧ Below w.heap.size w w' := by
  rcases cases_n n with rfl | rfl | rfl | rfl | rfl | rfl | rfl | rfl | rfl | h
  iterate 9
    · go_enter Try.func24, Try.ntmps24
      go_wp2_with fail
      refine bodyPost_ret (by simp [results, Try.results24, go_sem]; rfl) rfl ⟨rfl, ?_⟩
      repeat (first | refine Below.setCell ?_ (by simp <;> omega) _ | refine Below.alloc ?_ (by simp <;> omega) _)
      exact Below.refl _ _
  · by_cases c1 : 30 ≤ n ∧ n ≤ 37
    · have HO := Lib.hid (one_fg ⟨fg, bg, b, u, t⟩ n c1.1 c1.2)
      obtain ⟨h0, h1, h2, h3, h4, h5, h6, h7, h8⟩ := h
      replace h0 := nb h0; replace h1 := nb h1; replace h2 := nb h2; replace h3 := nb h3; replace h4 := nb h4; replace h5 := nb h5; replace h6 := nb h6; replace h7 := nb h7; replace h8 := nb h8
      obtain ⟨c1, c2⟩ := c1
      go_enter Try.func24, Try.ntmps24
      go_wp2_with fail
      refine bodyPost_ret (v := .agg #[.int .i64 (n - 29), .int .i64 bg, .bool b, .bool u, .bool t]) (by simp [results, Try.results24, go_sem]) rfl ⟨by rw [HO.out]; rfl, ?_⟩
      repeat (first | refine Below.setCell ?_ (by simp <;> omega) _ | refine Below.alloc ?_ (by simp <;> omega) _)
      exact Below.refl _ _
    · by_cases c2 : 40 ≤ n ∧ n ≤ 47
      · have HO := Lib.hid (one_bg ⟨fg, bg, b, u, t⟩ n c2.1 c2.2)
        obtain ⟨h0, h1, h2, h3, h4, h5, h6, h7, h8⟩ := h
        replace h0 := nb h0; replace h1 := nb h1; replace h2 := nb h2; replace h3 := nb h3; replace h4 := nb h4; replace h5 := nb h5; replace h6 := nb h6; replace h7 := nb h7; replace h8 := nb h8
        obtain ⟨c2, c3⟩ := c2
        have c4 : (30 : Int) ≤ n := by omega
        have c5 : ¬ n ≤ 37 := by omega
        clear c1
        go_enter Try.func24, Try.ntmps24
        go_wp2_with fail
        refine bodyPost_ret (v := .agg #[.int .i64 fg, .int .i64 (n - 39), .bool b, .bool u, .bool t]) (by simp [results, Try.results24, go_sem]) rfl ⟨by rw [HO.out]; rfl, ?_⟩
        repeat (first | refine Below.setCell ?_ (by simp <;> omega) _ | refine Below.alloc ?_ (by simp <;> omega) _)
        exact Below.refl _ _
      · have HO := Lib.hid (one_no ⟨fg, bg, b, u, t⟩ n h c1 c2)
        have h9 : n < 30 ∨ n = 38 ∨ 48 ≤ n := by omega
        obtain ⟨h0, h1, h2, h3, h4, h5, h6, h7, h8⟩ := h
        clear c1 c2
        rcases h9 with h9 | rfl | h9
        · replace h0 := nb h0; replace h1 := nb h1; replace h2 := nb h2; replace h3 := nb h3; replace h4 := nb h4; replace h5 := nb h5; replace h6 := nb h6; replace h7 := nb h7; replace h8 := nb h8
          have c1 : ¬ (30 : Int) ≤ n := by omega
          have c2 : ¬ (40 : Int) ≤ n := by omega
          go_enter Try.func24, Try.ntmps24
          go_wp2_with fail
          refine bodyPost_ret (v := .agg #[.int .i64 fg, .int .i64 bg, .bool b, .bool u, .bool t]) (by simp [results, Try.results24, go_sem]) rfl ⟨by rw [HO.out]; rfl, ?_⟩
          repeat (first | refine Below.setCell ?_ (by simp <;> omega) _ | refine Below.alloc ?_ (by simp <;> omega) _)
          exact Below.refl _ _
        · clear h0 h1 h2 h3 h4 h5 h6 h7 h8
          go_enter Try.func24, Try.ntmps24
          go_wp2_with fail
          refine bodyPost_ret (v := .agg #[.int .i64 fg, .int .i64 bg, .bool b, .bool u, .bool t]) (by simp [results, Try.results24, go_sem]) rfl ⟨by rw [HO.out]; rfl, ?_⟩
          repeat (first | refine Below.setCell ?_ (by simp <;> omega) _ | refine Below.alloc ?_ (by simp <;> omega) _)
          exact Below.refl _ _
        · replace h0 := nb h0; replace h1 := nb h1; replace h2 := nb h2; replace h3 := nb h3; replace h4 := nb h4; replace h5 := nb h5; replace h6 := nb h6; replace h7 := nb h7; replace h8 := nb h8
          have c1 : (30 : Int) ≤ n := by omega
          have c2 : ¬ n ≤ 37 := by omega
          have c3 : (40 : Int) ≤ n := by omega
          have c4 : ¬ n ≤ 47 := by omega
          go_enter Try.func24, Try.ntmps24
          go_wp2_with fail
          refine bodyPost_ret (v := .agg #[.int .i64 fg, .int .i64 bg, .bool b, .bool u, .bool t]) (by simp [results, Try.results24, go_sem]) rfl ⟨by rw [HO.out]; rfl, ?_⟩
          repeat (first | refine Below.setCell ?_ (by simp <;> omega) _ | refine Below.alloc ?_ (by simp <;> omega) _)
          exact Below.refl _ _
end Go.Proofs.Ytmmdggmnjmoebaa.Attr
