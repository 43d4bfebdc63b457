/- The program's words on rectangles: turned, turnedIf, extent, share. -/
import Derived.Test.YtgejjdkgeoojmaaTrAt
import Derived.Test.YtgejjdkgeoojmaaTrP
namespace Go.Proofs.Ytgejjdkgeoojmaa.Tr
open Go.RowKit Go.Proofs.Ytgejjdkgeoojmaa.Bytes Go.Proofs.Ytgejjdkgeoojmaa.Rows_ Go.Proofs.Ytgejjdkgeoojmaa.RowK Go.Proofs.Ytgejjdkgeoojmaa.Opq
open Tree
set_option linter.unusedVariables false
set_option maxRecDepth 100000 in
set_option maxHeartbeats 800000 in
theorem turned_any (p x y v h : Int) (w : World) :
    Calls Try.prog 114 #[.agg #[.int .i64 p, .int .i64 x, .int .i64 y, .int .i64 v, .int .i64 h]] w fun e w' => e = .returned (.agg #[.int .i64 p, .int .i64 y, .int .i64 x, .int .i64 h, .int .i64 v]) ∧ Below w.heap.size w w' := by
  go_enter Try.func114, Try.ntmps114
  go_wp2_with fail
  refine bodyPost_ret (v := .agg #[.int .i64 p, .int .i64 y, .int .i64 x, .int .i64 h, .int .i64 v]) (by simp [results, Try.results114, go_sem]) rfl ⟨rfl, ?_⟩
  repeat (first | refine Below.setCell ?_ (by simp <;> omega) _ | refine Below.alloc ?_ (by simp <;> omega) _)
  exact Below.refl _ _
/-- two results, the first in a variable of many cells -/
theorem results_rt {P : Program} {fn : Func} {p q : Tmp} {T : TypeId} {d : TypeDesc} {sz : Nat} (h : fn.results = #[.cell p T, .tmp q]) (hu : P.underlying T = some d) (hd : (match d with | .struct _ | .array _ _ => true | _ => false) = true) (hi : (P.info? T).map (·.size) = some sz)
    (tmps : Array Value) (w : World) (b : Nat) (C : Array Value) {x : Value} (hp : tmps.getD p undef = .pointer (some ⟨b, 0, none⟩)) (hq : tmps.getD q undef = x) (hb : RowB w b C) (hs : C.size = sz) : (results fn tmps).run P w = .ok (.tuple #[.agg C, x]) w := by
  obtain ⟨T', hb⟩ := hb
  have hp' : tmps[p]?.getD undef = .pointer (some ⟨b, 0, none⟩) := by simpa using hp
  have hq' : tmps[q]?.getD undef = x := by simpa using hq
  simp [results, h, hp', hq', asAddr, run_loadVar_row w b T' T C (0, 0) d hb hu hd (by rw [hi, hs])]
theorem sizeR : (Try.prog.info? 65).map (·.size) = some 5 := by kernel_rfl
set_option maxRecDepth 100000 in
set_option maxHeartbeats 800000 in
theorem turnedIf_any (d : Bool) (p x y v h : Int) (w : World) :
    Calls Try.prog 104 #[.bool d, .agg #[.int .i64 p, .int .i64 x, .int .i64 y, .int .i64 v, .int .i64 h]] w fun e w' => e = .returned (.agg #[.int .i64 p, .int .i64 (if d = true then y else x), .int .i64 (if d = true then x else y), .int .i64 (if d = true then h else v), .int .i64 (if d = true then v else h)]) ∧ Below w.heap.size w w' := by
  have hb0 := Lib.hid (((Below.refl w.heap.size w).alloc (Nat.le_refl _) (.cells (#[.int .i64 p, .int .i64 x, .int .i64 y, .int .i64 v, .int .i64 h]) 65)).alloc (by simp) (.cells (#[.int .i64 0, .int .i64 0, .int .i64 0, .int .i64 0, .int .i64 0]) 65))
  cases d <;> simp only [Bool.false_eq_true, if_true, if_false]
  · go_enter Try.func104, Try.ntmps104
    go_wp2_with fail
    refine bodyPost_ret (v := .agg #[.int .i64 p, .int .i64 x, .int .i64 y, .int .i64 v, .int .i64 h]) (by simp [results, Try.results104, go_sem]) rfl ⟨rfl, ?_⟩
    repeat (first | refine Below.setCell ?_ (by simp <;> omega) _ | refine Below.alloc ?_ (by simp <;> omega) _)
    exact Below.refl _ _
  · go_enter Try.func104, Try.ntmps104
    go_wp2_with fail
    refine (turned_any p x y v h _).mono ?_
    rintro e v1 ⟨rfl, hb1⟩
    obtain ⟨hc, hf⟩ := bcell hb1
    have hz : w.heap.size + 1 < v1.heap.size := by have := hb1.size; simp at this; omega
    have HB1 := Lib.hid (hb0.out.trans (hb1.mono (by simp <;> omega)))
    have HR1 := Lib.hid (show RowB v1 (w.heap.size + 1) (#[.int .i64 0, .int .i64 0, .int .i64 0, .int .i64 0, .int .i64 0]) from RowB.below (show RowB ((w.alloc (.cells (#[.int .i64 p, .int .i64 x, .int .i64 y, .int .i64 v, .int .i64 h]) 65)).alloc (.cells (#[.int .i64 0, .int .i64 0, .int .i64 0, .int .i64 0, .int .i64 0]) 65)) (w.heap.size + 1) (#[.int .i64 0, .int .i64 0, .int .i64 0, .int .i64 0, .int .i64 0]) by have h := RowB.new (w.alloc (.cells (#[.int .i64 p, .int .i64 x, .int .i64 y, .int .i64 v, .int .i64 h]) 65)) (#[.int .i64 0, .int .i64 0, .int .i64 0, .int .i64 0, .int .i64 0]) 65; rwa [World.size_alloc] at h) hb1 (by simp))
    have g0 := HR1.out.cell 0
    have g1 := HR1.out.cell 1
    have g2 := HR1.out.cell 2
    have g3 := HR1.out.cell 3
    have g4 := HR1.out.cell 4
    have f0 := HR1.out.free 0
    have f1 := HR1.out.free 1
    have f2 := HR1.out.free 2
    have f3 := HR1.out.free 3
    have f4 := HR1.out.free 4
    simp at g0 g1 g2 g3 g4
    clear hb1 hc hf
    go_wp2_with fail
    refine bodyPost_ret (v := .agg #[.int .i64 p, .int .i64 y, .int .i64 x, .int .i64 h, .int .i64 v]) (results_row Try.results104 Try.underlying65 rfl sizeR _ _ (w.heap.size + 1) (#[.int .i64 p, .int .i64 y, .int .i64 x, .int .i64 h, .int .i64 v]) rfl (((((HR1.out.set (j := 0) (v := .int .i64 p)).set (j := 1) (v := .int .i64 y)).set (j := 2) (v := .int .i64 x)).set (j := 3) (v := .int .i64 h)).set (j := 4) (v := .int .i64 v)) rfl) rfl ⟨rfl, ?_⟩
    repeat (first | refine Below.setCell ?_ (by simp <;> omega) _)
    exact HB1.out
set_option maxRecDepth 100000 in
set_option maxHeartbeats 800000 in
theorem extent_any (d : Bool) (p x y v h : Int) (w : World) :
    Calls Try.prog 86 #[.agg #[.int .i64 p, .int .i64 x, .int .i64 y, .int .i64 v, .int .i64 h], .bool d] w fun e w' => e = .returned (.int .i64 (if d = true then h else v)) ∧ Below w.heap.size w w' := by
  have hb0 := Lib.hid ((Below.refl w.heap.size w).alloc (Nat.le_refl _) (.cells (#[.int .i64 p, .int .i64 x, .int .i64 y, .int .i64 v, .int .i64 h]) 65))
  obtain ⟨z, hz⟩ : ∃ z, z = (if d = true then h else v) := ⟨_, rfl⟩
  obtain ⟨z1, hz1⟩ : ∃ z, z = (if d = true then y else x) := ⟨_, rfl⟩
  obtain ⟨z2, hz2⟩ : ∃ z, z = (if d = true then x else y) := ⟨_, rfl⟩
  obtain ⟨z3, hz3⟩ : ∃ z, z = (if d = true then v else h) := ⟨_, rfl⟩
  have HT := Lib.hid (fun W => show Calls Try.prog _ _ W (fun e w' => e = .returned (.agg #[.int .i64 p, .int .i64 z1, .int .i64 z2, .int .i64 z, .int .i64 z3]) ∧ Below W.heap.size W w') from by rw [hz, hz1, hz2, hz3]; exact turnedIf_any d p x y v h W)
  rw [← hz]
  clear hz hz1 hz2 hz3
  have hfd : ∀ W, (Instr.field 65 (.agg #[.int .i64 p, .int .i64 z1, .int .i64 z2, .int .i64 z, .int .i64 z3]) 3).run Try.prog W = .ok (.int .i64 z) W := fun _ => by kernel_rfl
  go_enter Try.func86, Try.ntmps86
  go_wp2_with fail
  refine (HT.out _).mono ?_
  rintro e v1 ⟨rfl, hb1⟩
  have HB1 := Lib.hid (hb0.out.trans (hb1.mono (by simp <;> omega)))
  clear hb1
  go_wp2_with fail
  go_ret
  exact ⟨rfl, HB1.out⟩
set_option maxRecDepth 100000 in
set_option maxHeartbeats 800000 in
theorem share_any (g : Nat) (d : Bool) (f n : Int) (va vb : Value) (w : World) (hr : RowB w g (splitC d f va vb)) (h1 : -1000000 ≤ n) (h2 : n ≤ 1000000) (h3 : -1000000 ≤ f) (h4 : f ≤ 1000000) :
    Calls Try.prog 112 #[.pointer (some ⟨g, 0, none⟩), .int .i64 n] w fun e w' => e = .returned (.int .i64 (shareD f n)) ∧ w = w' := by
  have hc1 : w.cell? ⟨g, 1, none⟩ = some (.int .i64 f) := by rw [hr.cell]; rfl
  clear hr
  by_cases hle : f ≤ n - 2
  · have HE := Lib.hid (show shareD f n = f by unfold shareD; rw [if_pos hle])
    go_enter Try.func112, Try.ntmps112
    go_wp2_with fail
    go_ret
    exact ⟨ret_int (by rw [HE.out]), rfl⟩
  · have HE := Lib.hid (show shareD f n = n - 2 by unfold shareD; rw [if_neg hle])
    go_enter Try.func112, Try.ntmps112
    go_wp2_with fail
    go_ret
    exact ⟨ret_int (by rw [HE.out]), rfl⟩
end Go.Proofs.Ytgejjdkgeoojmaa.Tr

