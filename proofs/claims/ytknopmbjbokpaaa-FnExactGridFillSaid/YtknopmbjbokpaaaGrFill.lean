/- The program's fill and within; a filled grid as a list. -/
import Derived.Test.YtknopmbjbokpaaaGrShiftS
namespace Go.Proofs.Ytknopmbjbokpaaa.Gr
open Go.RowKit Go.Proofs.Ytknopmbjbokpaaa.Bytes Go.Proofs.Ytknopmbjbokpaaa.Rows_ Go.Proofs.Ytknopmbjbokpaaa.RowK
set_option linter.unusedVariables false
theorem only6c {S : Nat → Prop} (w : World) (g : Nat) (h : S g) (i0 i1 i2 i3 i4 i5 : Nat) (x0 x1 x2 x3 x4 x5 : Value) :
    Only S w ((((((w.setCell ⟨g, i0, none⟩ x0).setCell ⟨g, i1, none⟩ x1).setCell ⟨g, i2, none⟩ x2).setCell ⟨g, i3, none⟩ x3).setCell ⟨g, i4, none⟩ x4).setCell ⟨g, i5, none⟩ x5) :=
  (((((Only.cell_ _ g _ _ h).trans (Only.cell_ _ g _ _ h)).trans (Only.cell_ _ g _ _ h)).trans (Only.cell_ _ g _ _ h)).trans (Only.cell_ _ g _ _ h)).trans (Only.cell_ _ g _ _ h)
theorem only6b (w : World) (g : Nat) (i0 i1 i2 i3 i4 i5 : Nat) (x0 x1 x2 x3 x4 x5 : Value) :
    Only (fun i => i = g) w ((((((w.setCell ⟨g, i0, none⟩ x0).setCell ⟨g, i1, none⟩ x1).setCell ⟨g, i2, none⟩ x2).setCell ⟨g, i3, none⟩ x3).setCell ⟨g, i4, none⟩ x4).setCell ⟨g, i5, none⟩ x5) := only6c (S := fun i => i = g) w g rfl _ _ _ _ _ _ _ _ _ _ _ _
theorem clampV_bdF (x lo hi : Int) (h : lo ≤ hi) : lo ≤ clampV x lo hi ∧ clampV x lo hi ≤ hi := by unfold clampV; split <;> (try split) <;> omega
set_option maxRecDepth 100000 in
set_option maxHeartbeats 1600000 in
theorem fill_any (A : Option Addr) (lo m c' : Nat) {base g n c : Nat} {cs : List CellD} (z0 z1 z2 : Int) (z3 z4 z5 : Bool) (w : World) (h : OwnC w base (some ⟨g, 0, none⟩) n c cs) (hlm : lo + m ≤ n) (hn : n ≤ 2097152) (hA : 0 < m → A = some ⟨g, lo * 6, none⟩) :
    Calls Try.prog 73 #[.slice A m c', .agg #[.int .i64 z0, .int .i64 z1, .int .i64 z2, .bool z3, .bool z4, .bool z5]] w fun e w' => e = .returned (.tuple #[]) ∧ OwnC w' base (some ⟨g, 0, none⟩) n c (over cs lo (List.replicate m ⟨z0, z1, z2, z3, z4, z5⟩)) ∧ Only (fun i => i = g) w w' := by
  have HL := Lib.hid h.len
  have hgw : g < w.heap.size := (h.blk g rfl).2
  have X3 := Lib.hid (fun j v (hv : (#[.int .i64 z0, .int .i64 z1, .int .i64 z2, .bool z3, .bool z4, .bool z5] : Array Value)[j]? = some v) => (show (w.alloc (.cells #[.int .i64 z0, .int .i64 z1, .int .i64 z2, .bool z3, .bool z4, .bool z5] 37)).cell? ⟨w.heap.size, j, none⟩ = some v by rw [World.cell?_alloc_at _ _ _ _ rfl]; exact hv))
  have HO1 := Lib.hid (h.below (Nat.le_refl _) ((Below.refl w.heap.size w).alloc (Nat.le_refl _) (.cells #[.int .i64 z0, .int .i64 z1, .int .i64 z2, .bool z3, .bool z4, .bool z5] 37)))
  have ON1 := Lib.hid (Only.below (S := fun i => i = g) ((Below.refl w.heap.size w).alloc (Nat.le_refl _) (.cells #[.int .i64 z0, .int .i64 z1, .int .i64 z2, .bool z3, .bool z4, .bool z5] 37)) (Nat.le_refl _))
  have HA := Lib.hid hA
  have hgn : g ≠ w.heap.size := by omega
  clear h hA
  go_enter Try.func73, Try.ntmps73
  go_wp2_with fail
  go_loopw [7] (fun i wr => ∃ k : Nat, k ≤ m ∧ i = .int .i64 k ∧ (∀ j v, (#[.int .i64 z0, .int .i64 z1, .int .i64 z2, .bool z3, .bool z4, .bool z5] : Array Value)[j]? = some v → wr.cell? ⟨w.heap.size, j, none⟩ = some v) ∧ OwnC wr base (some ⟨g, 0, none⟩) n c (over cs lo ((List.replicate m ⟨z0, z1, z2, z3, z4, z5⟩).take k)) ∧ Only (fun i => i = g) w wr) (fun i _ => m - (intOf i).toNat)
  case atStart => exact ⟨0, Nat.zero_le _, rfl, X3.out, by rw [List.take_zero, over_nil]; exact HO1.out, ON1.out⟩
  case round =>
    clear X3 HO1 ON1
    obtain ⟨k, hk, rfl, hx, ho, hon⟩ := hrel
    by_cases hlt : k < m
    · obtain rfl := HA.out (by omega)
      have b0 := hx 0 _ rfl
      have b1 := hx 1 _ rfl
      have b2 := hx 2 _ rfl
      have b3 := hx 3 _ rfl
      have b4 := hx 4 _ rfl
      have b5 := hx 5 _ rfl
      have HX := Lib.hid hx
      have hll : lo + k < (over cs lo ((List.replicate m (⟨z0, z1, z2, z3, z4, z5⟩ : CellD)).take k)).length := by rw [over_len (by rw [List.length_take, List.length_replicate, HL.out]; omega), HL.out]; omega
      have HN := Lib.hid (show OwnC ((((((wr.setCell ⟨g, lo * 6 + k * 6, none⟩ (.int .i64 z0)).setCell ⟨g, lo * 6 + k * 6 + 1, none⟩ (.int .i64 z1)).setCell ⟨g, lo * 6 + k * 6 + 2, none⟩ (.int .i64 z2)).setCell ⟨g, lo * 6 + k * 6 + 3, none⟩ (.bool z3)).setCell ⟨g, lo * 6 + k * 6 + 4, none⟩ (.bool z4)).setCell ⟨g, lo * 6 + k * 6 + 5, none⟩ (.bool z5)) base (some ⟨g, 0, none⟩) n c (over cs lo ((List.replicate m ⟨z0, z1, z2, z3, z4, z5⟩).take (k + 1))) by
        have h := own_setC ho (lo + k) hll ⟨z0, z1, z2, z3, z4, z5⟩
        rw [over_next (by rw [List.length_replicate, HL.out]; exact hlm) (by rw [List.getElem?_replicate, if_pos hlt])] at h
        rw [Nat.add_mul] at h
        exact h)
      have K0 : lo * 6 + k * 6 + 6 ≤ n * 6 := by omega
      obtain ⟨u0, hu0⟩ := own_there ho (lo * 6 + k * 6) (by omega)
      obtain ⟨u1, hu1⟩ := own_there ho (lo * 6 + k * 6 + 1) (by omega)
      obtain ⟨u2, hu2⟩ := own_there ho (lo * 6 + k * 6 + 2) (by omega)
      obtain ⟨u3, hu3⟩ := own_there ho (lo * 6 + k * 6 + 3) (by omega)
      obtain ⟨u4, hu4⟩ := own_there ho (lo * 6 + k * 6 + 4) (by omega)
      obtain ⟨u5, hu5⟩ := own_there ho (lo * 6 + k * 6 + 5) (by omega)
      have f0 := World.ownsRow.frozenAt (h := ho) (lo * 6 + k * 6)
      have f1 := World.ownsRow.frozenAt (h := ho) (lo * 6 + k * 6 + 1)
      have f2 := World.ownsRow.frozenAt (h := ho) (lo * 6 + k * 6 + 2)
      have f3 := World.ownsRow.frozenAt (h := ho) (lo * 6 + k * 6 + 3)
      have f4 := World.ownsRow.frozenAt (h := ho) (lo * 6 + k * 6 + 4)
      have f5 := World.ownsRow.frozenAt (h := ho) (lo * 6 + k * 6 + 5)
      have HON := Lib.hid hon
      clear ho hon hx hll
      go_wp2_with fail
      refine ⟨⟨k + 1, by omega, by go_num, ?_, HN.out, ?_⟩, by simp [intOf]; omega⟩
      · intro j v hv
        exact (only6b _ g _ _ _ _ _ _ _ _ _ _ _ _).cell (HX.out j v hv) (fun e => hgn e.symm)
      · exact HON.out.trans (only6b _ g _ _ _ _ _ _ _ _ _ _ _ _)
    · obtain rfl : m = k := by omega
      rw [List.take_of_length_le (by simp)] at ho
      have HO := Lib.hid ho
      have HON := Lib.hid hon
      clear ho hon hx
      go_wp2_with fail
      go_end0
      exact ⟨rfl, HO.out, HON.out⟩

set_option maxRecDepth 100000 in
theorem within_any (a s t : Int) (w : World) (ha : -100000 ≤ a ∧ a ≤ 100000) (hs : -100000 ≤ s ∧ s ≤ 100000) (ht : 0 ≤ t) :
    Calls Try.prog 57 #[.int .i64 a, .int .i64 s, .int .i64 t] w fun e w' => e = .returned (.tuple #[.int .i64 (clampV a 0 t), .int .i64 (clampV (a + s) (clampV a 0 t) t)]) ∧ w = w' := by
  obtain ⟨p1, p2⟩ := ha
  obtain ⟨p3, p4⟩ := hs
  have HB := Lib.hid (clampV_bdF a 0 t ht)
  have HC1 := Lib.hid (fun V => clamp_anyG a 0 t ht V)
  have HC2 := Lib.hid (fun V => clamp_anyG (a + s) (clampV a 0 t) t HB.out.2 V)
  generalize clampV a 0 t = fr at *
  generalize clampV (a + s) fr t = to_ at *
  go_enter Try.func57, Try.ntmps57
  go_wp2_with fail
  (with_reducible refine (HC1.out _).mono ?_)
  rintro e v ⟨rfl, rfl⟩
  go_wp2_with fail
  (with_reducible refine (HC2.out _).mono ?_)
  rintro e v ⟨rfl, rfl⟩
  go_wp2_with fail
  go_ret2
  exact ⟨rfl, rfl⟩
end Go.Proofs.Ytknopmbjbokpaaa.Gr
