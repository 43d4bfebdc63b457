/- The files that a directory links; a row cut short, and cleared behind. Plain reasoning, and one law of the built-in clear. -/
import Derived.Test.YtckiloacbanbmaaGreatCopySpec
import Derived.Test.YtckiloacbanbmaaGreatReadMath
namespace Go.Proofs.YtckiloacbanbmaaGreat.DOk
open Go.RowKit Go.Proofs.YtckiloacbanbmaaGreat.Bytes Go.Proofs.YtckiloacbanbmaaGreat.Rows_ Go.Maps
set_option linter.unusedVariables false

theorem grown_any {w w' : World} (h : Below w.heap.size w w') (row : Option Nat) : w.grownBy w' row := ⟨h.os, h.tape, h.output, h.size, fun k hk _ => h.block k hk⟩
/-- the files whose ids are linked -/
def keptF (ids : List Int) (fs : List FileD) : List FileD := fs.filter fun f => hasI ids f.id
theorem own_takeK {w : World} {base size n c : Nat} {e : TypeId} {A : Option Addr} {xs : List Value} (h : w.ownsRow base e size (.slice A n c) n xs) {m : Nat} (hm : m ≤ n) :
    w.ownsRow base e size (.slice A m c) m (xs.take (m * size)) := by
  have hle : m * size ≤ n * size := Nat.mul_le_mul_right _ hm
  refine ⟨by rw [List.length_take, h.1]; omega, ?_⟩
  rcases h.2 with ⟨hv, h0⟩ | ⟨g, cap, cur, hv, hb, hg, hnc, hcm, hcs, ht⟩
  · injection hv with e1 e2 e3
    subst e1 e3
    obtain rfl : m = 0 := by omega
    exact .inl ⟨rfl, rfl⟩
  · injection hv with e1 e2 e3
    subst e1 e3
    exact .inr ⟨g, c, cur, rfl, hb, hg, by omega, hcm, hcs, by rw [← ht, List.take_take, Nat.min_eq_left hle]⟩
theorem own_takeB {w : World} {base n c : Nat} {A : Option Addr} {zs : List Int} (h : Own w base A n c zs) {m : Nat} (hm : m ≤ n) : Own w base A m c (zs.take m) := by
  have := own_takeK h hm
  unfold Own bv
  rw [List.map_take]; simpa [bv] using this
theorem flat_take (K : Nat) (rows : List (List Value)) (hr : ∀ r ∈ rows, r.length = K) (i : Nat) (hi : i ≤ rows.length) : rows.flatten.take (i * K) = (rows.take i).flatten := by
  have e : rows.flatten = (rows.take i).flatten ++ (rows.drop i).flatten := by rw [← List.flatten_append, List.take_append_drop]
  have hl : (rows.take i).flatten.length = i * K := by rw [flat_len K _ (fun r h => hr r (List.mem_of_mem_take h)), List.length_take, Nat.min_eq_left hi]
  rw [e, ← hl, List.take_left]
theorem zeroF (w : World) : (zeroValue 65).run Tryz.prog w = .ok (.agg #[.int .i64 0, .slice none 0 0, .int .i64 0]) w := by kernel_rfl
set_option maxRecDepth 100000 in
/-- 'clear(s[i:])' on the call's own row of files: what lies before i stays -/
theorem run_clear_files {w : World} {base g n c i : Nat} {rows : List (List Value)} (h : w.ownsRow base 65 3 (.slice (some ⟨g, 0, none⟩) n c) n rows.flatten) (hr : ∀ r ∈ rows, r.length = 3) (hl : rows.length = n) (hi : i < n) (c' : Nat) :
    ∃ w', (∀ ty, (Builtin.clear_ #[32] ty #[.slice (some ⟨g, i * 3, none⟩) (n - i) c']).run Tryz.prog w = .ok (.tuple #[]) w') ∧
      w'.ownsRow base 65 3 (.slice (some ⟨g, 0, none⟩) i c) i (rows.take i).flatten ∧ w.grownBy w' (some g) := by
  rcases h.2 with ⟨hv, _⟩ | ⟨g', cap, cur, hv, hb, hg, hnc, hcm, hcs, ht⟩
  · cases hv
  injection hv with e1 e2 e3
  injection e1 with e1
  injection e1 with e1
  subst e1 e3
  have hz : (Builtin.zeroCells #[Value.int .i64 0, .slice none 0 0, .int .i64 0] (n - i)).size = (n - i) * 3 := by simp [Builtin.zeroCells]
  have h1 : ∀ v ∈ (Builtin.zeroCells #[Value.int .i64 0, .slice none 0 0, .int .i64 0] (n - i)).toList, v.oneCell' = true := by
    intro v hv
    simp only [Builtin.zeroCells, Array.toList_map, List.mem_map] at hv
    obtain ⟨j, _, rfl⟩ := hv
    have h3 : j % (#[Value.int .i64 0, .slice none 0 0, .int .i64 0] : Array Value).size < 3 := Nat.mod_lt _ (by decide)
    generalize j % (#[Value.int .i64 0, .slice none 0 0, .int .i64 0] : Array Value).size = m at h3
    rcases m with _ | _ | _ | m
    · rfl
    · rfl
    · rfl
    · omega
  have hst := run_storeCells_at Tryz.prog g (i * 3) 65 (Builtin.zeroCells #[Value.int .i64 0, .slice none 0 0, .int .i64 0] (n - i)).toList 0 cur w hg (by rw [Array.length_toList, hz, hcs]; omega) h1
  obtain ⟨m, hm⟩ : ∃ m, n - i = m + 1 := ⟨n - i - 1, by omega⟩
  refine ⟨w.setRow g (cur.toList.take (i * 3 + 0) ++ (Builtin.zeroCells #[Value.int .i64 0, .slice none 0 0, .int .i64 0] (n - i)).toList ++ cur.toList.drop (i * 3 + 0 + (Builtin.zeroCells #[Value.int .i64 0, .slice none 0 0, .int .i64 0] (n - i)).toList.length)).toArray, fun ty => ?_, ?_, ?_⟩
  rotate_left
  · refine ⟨?_, .inr ⟨g, c, _, rfl, hb, setRow_heap w g cur _ _ _ hg, by omega, hcm, ?_, ?_⟩⟩
    · rw [flat_len 3 _ (fun r h => hr r (List.mem_of_mem_take h)), List.length_take, hl, Nat.min_eq_left (Nat.le_of_lt hi)]
    · simp only [List.size_toArray, List.length_append, List.length_take, List.length_drop, Array.length_toList, hz, hcs, Nat.add_zero]
      omega
    · rw [← flat_take 3 rows hr i (by omega), ← ht, List.take_take, Nat.min_eq_left (by omega)]
      have hl2 : (cur.toList.take (i * 3 + 0)).length = i * 3 := by rw [List.length_take, Array.length_toList, hcs]; omega
      rw [List.append_assoc]
      have := List.take_left (l₁ := cur.toList.take (i * 3 + 0)) (l₂ := (Builtin.zeroCells #[Value.int .i64 0, .slice none 0 0, .int .i64 0] (n - i)).toList ++ cur.toList.drop (i * 3 + 0 + (Builtin.zeroCells #[Value.int .i64 0, .slice none 0 0, .int .i64 0] (n - i)).toList.length))
      rw [hl2] at this
      simpa using this
  · exact ⟨rfl, rfl, rfl, by simp, fun k _ hk => setRow_other w g k _ (fun e => hk (by simp [e]))⟩
  · have hu := Tryz.underlying32
    rw [hm] at hst ⊢
    simp [Builtin.clear_, run_underlying hu, Value.cells, hst]
end Go.Proofs.YtckiloacbanbmaaGreat.DOk
