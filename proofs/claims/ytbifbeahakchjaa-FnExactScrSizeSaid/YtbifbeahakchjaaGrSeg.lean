/- A part of the call's own row of cells: what a clear and a copy leave of the row. -/
import Derived.Test.YtbifbeahakchjaaGrTo
import Derived.Laws.CopyRow
import Derived.Laws.IdiomCopy
import Derived.Lib.SliceRun
namespace Go.Proofs.Ytbifbeahakchjaa.Gr
open Go.RowKit Go.Proofs.Ytbifbeahakchjaa.Bytes Go.Proofs.Ytbifbeahakchjaa.Rows_ Go.Proofs.Ytbifbeahakchjaa.RowK
set_option linter.unusedVariables false
theorem take_seg {α : Type} (l : List α) (N o : Nat) (vs : List α) (h : o + vs.length ≤ N) (hN : N ≤ l.length) :
    (l.take o ++ vs ++ l.drop (o + vs.length)).take N = (l.take N).take o ++ vs ++ (l.take N).drop (o + vs.length) := by
  have h1 : (l.take o).length = o := by rw [List.length_take]; omega
  rw [List.append_assoc, List.take_append, h1, List.take_append, List.take_of_length_le (show (l.take o).length ≤ N by omega), List.take_of_length_le (show vs.length ≤ N - o by omega), List.take_take, Nat.min_eq_left (by omega), List.append_assoc,
    List.drop_take, show N - o - vs.length = N - (o + vs.length) by omega]
theorem flat_take (K : Nat) (rows : List (List Value)) (hr : ∀ r ∈ rows, r.length = K) (i : Nat) (hi : i ≤ rows.length) : rows.flatten.take (i * K) = (rows.take i).flatten := by
  have e : rows.flatten = (rows.take i).flatten ++ (rows.drop i).flatten := by rw [← List.flatten_append, List.take_append_drop]
  have hl : (rows.take i).flatten.length = i * K := by rw [flat_len K _ (fun r h => hr r (List.mem_of_mem_take h)), List.length_take, Nat.min_eq_left hi]
  rw [e, ← hl, List.take_left]
theorem flat_drop (K : Nat) (rows : List (List Value)) (hr : ∀ r ∈ rows, r.length = K) (i : Nat) (hi : i ≤ rows.length) : rows.flatten.drop (i * K) = (rows.drop i).flatten := by
  have e : rows.flatten = (rows.take i).flatten ++ (rows.drop i).flatten := by rw [← List.flatten_append, List.take_append_drop]
  have hl : (rows.take i).flatten.length = i * K := by rw [flat_len K _ (fun r h => hr r (List.mem_of_mem_take h)), List.length_take, Nat.min_eq_left hi]
  rw [e, ← hl, List.drop_left]
def flatC (cs : List CellD) : List Value := (cs.map cellR).flatten
theorem flatC_len (cs : List CellD) : (flatC cs).length = cs.length * 6 := by unfold flatC; rw [flat_len 6 _ (cell_len cs), List.length_map]
theorem flatC_app (a b : List CellD) : flatC (a ++ b) = flatC a ++ flatC b := by unfold flatC; simp
theorem flatC_take (cs : List CellD) (i : Nat) (hi : i ≤ cs.length) : (flatC cs).take (i * 6) = flatC (cs.take i) := by
  unfold flatC; rw [flat_take 6 _ (cell_len cs) i (by simpa using hi), List.map_take]
theorem flatC_drop (cs : List CellD) (i : Nat) (hi : i ≤ cs.length) : (flatC cs).drop (i * 6) = flatC (cs.drop i) := by
  unfold flatC; rw [flat_drop 6 _ (cell_len cs) i (by simpa using hi), List.map_drop]
/-- the cells 'new' laid over a row from lo on -/
def over (cs : List CellD) (lo : Nat) (new : List CellD) : List CellD := cs.take lo ++ new ++ cs.drop (lo + new.length)
theorem over_len {cs : List CellD} {lo : Nat} {new : List CellD} (h : lo + new.length ≤ cs.length) : (over cs lo new).length = cs.length := by unfold over; simp; omega
theorem over_nil (cs : List CellD) (lo : Nat) : over cs lo [] = cs := by unfold over; simp
/-- what a row that is the call's own is, and what it is behind a store of a part -/
theorem own_seg {w : World} {base g n c K : Nat} {E : TypeId} {xs : List Value} (h : w.ownsRow base E K (.slice (some ⟨g, 0, none⟩) n c) n xs) :
    ∃ cur : Array Value, w.heap[g]? = some (.cells cur E (0, 0)) ∧ n * K ≤ cur.size ∧ cur.toList.take (n * K) = xs ∧
      ∀ (o : Nat) (vs : List Value), o + vs.length ≤ n * K → (w.setRow g (cur.toList.take o ++ vs ++ cur.toList.drop (o + vs.length)).toArray).ownsRow base E K (.slice (some ⟨g, 0, none⟩) n c) n (xs.take o ++ vs ++ xs.drop (o + vs.length)) ∧
        w.grownBy (w.setRow g (cur.toList.take o ++ vs ++ cur.toList.drop (o + vs.length)).toArray) (some g) := by
  rcases h.2 with ⟨hv, _⟩ | ⟨g', cap, cur, hv, hb, hg, hnc, hcm, hcs, ht⟩
  · cases hv
  injection hv with e1 e2 e3
  injection e1 with e1
  injection e1 with e1
  subst e1 e3
  have hle : n * K ≤ cur.size := by rw [hcs]; exact Nat.mul_le_mul_right _ hnc
  refine ⟨cur, hg, hle, ht, fun o vs ho => ⟨⟨?_, .inr ⟨g, c, _, rfl, hb, setRow_heap w g cur _ _ _ hg, hnc, hcm, ?_, ?_⟩⟩, ⟨rfl, rfl, rfl, by simp, fun k _ hk => setRow_other w g k _ (fun e => hk (by simp [e]))⟩⟩⟩
  · have := h.1; simp; omega
  · rw [← hcs]; simp; omega
  · rw [List.toList_toArray, take_seg _ _ _ _ ho (by rw [Array.length_toList]; exact hle), ht]
theorem own_segC {w : World} {base g n c : Nat} {cs : List CellD} (h : OwnC w base (some ⟨g, 0, none⟩) n c cs) :
    ∃ cur : Array Value, w.heap[g]? = some (.cells cur 69 (0, 0)) ∧ n * 6 ≤ cur.size ∧ cur.toList.take (n * 6) = flatC cs ∧
      ∀ (lo : Nat) (new : List CellD), lo + new.length ≤ n → OwnC (w.setRow g (cur.toList.take (lo * 6) ++ flatC new ++ cur.toList.drop (lo * 6 + (flatC new).length)).toArray) base (some ⟨g, 0, none⟩) n c (over cs lo new) ∧
        w.grownBy (w.setRow g (cur.toList.take (lo * 6) ++ flatC new ++ cur.toList.drop (lo * 6 + (flatC new).length)).toArray) (some g) := by
  obtain ⟨cur, h1, h2, h3, h4⟩ := own_seg h
  have hl := h.len
  refine ⟨cur, h1, h2, h3, fun lo new hn => ?_⟩
  obtain ⟨a, b⟩ := h4 (lo * 6) (flatC new) (by rw [flatC_len]; omega)
  refine ⟨?_, b⟩
  have e : (flatC cs).take (lo * 6) ++ flatC new ++ (flatC cs).drop (lo * 6 + (flatC new).length) = flatC (over cs lo new) := by
    rw [flatC_len, show lo * 6 + new.length * 6 = (lo + new.length) * 6 by omega, flatC_take _ _ (by omega), flatC_drop _ _ (by omega), ← flatC_app, ← flatC_app]; rfl
  have a' := a
  change World.ownsRow _ base _ 6 _ n ((flatC cs).take (lo * 6) ++ flatC new ++ (flatC cs).drop (lo * 6 + (flatC new).length)) at a'
  rw [e] at a'
  exact a'
theorem one_cells (cs : List CellD) : ∀ v ∈ flatC cs, v.oneCell' = true := by
  intro v hv
  unfold flatC at hv
  rw [List.mem_flatten] at hv
  obtain ⟨r, hr, hv⟩ := hv
  rw [List.mem_map] at hr
  obtain ⟨x, _, rfl⟩ := hr
  simp only [cellR, List.mem_cons, List.not_mem_nil, or_false] at hv
  rcases hv with rfl | rfl | rfl | rfl | rfl | rfl <;> rfl
theorem zeroV (w : World) : (zeroValue 69).run Try.prog w = .ok (.agg #[.int .i64 0, .int .i64 0, .int .i64 0, .bool false, .bool false, .bool false]) w := by kernel_rfl
def nilC : CellD := ⟨0, 0, 0, false, false, false⟩
def blankC : CellD := ⟨32, 0, 0, false, false, false⟩
theorem zeroCells_flat (m : Nat) : (Builtin.zeroCells #[Value.int .i64 0, .int .i64 0, .int .i64 0, .bool false, .bool false, .bool false] m).toList = flatC (List.replicate m nilC) := by
  unfold flatC
  rw [List.map_replicate]
  have := made_flat #[Value.int .i64 0, .int .i64 0, .int .i64 0, .bool false, .bool false, .bool false] 6 m rfl (by omega)
  rw [show cellR nilC = (#[Value.int .i64 0, .int .i64 0, .int .i64 0, .bool false, .bool false, .bool false] : Array Value).toList from rfl, ← this]
  unfold madeCells Builtin.zeroCells
  simp
set_option maxRecDepth 100000 in
/-- 'clear' on a part of the call's own row of cells -/
theorem run_clear_cells {w : World} {base g n c lo m : Nat} {cs : List CellD} (h : OwnC w base (some ⟨g, 0, none⟩) n c cs) (hlm : lo + m ≤ n) (hm : 0 < m) (c' : Nat) :
    ∃ w', (∀ ty, (Builtin.clear_ #[27] ty #[.slice (some ⟨g, lo * 6, none⟩) m c']).run Try.prog w = .ok (.tuple #[]) w') ∧
      OwnC w' base (some ⟨g, 0, none⟩) n c (over cs lo (List.replicate m nilC)) ∧ w.grownBy w' (some g) := by
  obtain ⟨cur, h1, h2, h3, h4⟩ := own_segC h
  obtain ⟨ha, hb⟩ := h4 lo (List.replicate m nilC) (by simp; exact hlm)
  have hst := run_storeCells_at Try.prog g (lo * 6) 69 (flatC (List.replicate m nilC)) 0 cur w h1 (by rw [flatC_len, List.length_replicate]; omega) (one_cells _)
  obtain ⟨m', rfl⟩ : ∃ m', m = m' + 1 := ⟨m - 1, by omega⟩
  refine ⟨_, fun ty => ?_, ha, hb⟩
  have hu := Try.underlying27
  have hz := zeroCells_flat (m' + 1)
  simp only [Nat.add_zero] at hst
  simp [Builtin.clear_, run_underlying hu, Value.cells, hz, hst]
set_option maxRecDepth 100000 in
theorem run_clear_none (w : World) (a : Option Addr) (c : Nat) (ty : TypeId) : (Builtin.clear_ #[27] ty #[.slice a 0 c]).run Try.prog w = .ok (.tuple #[]) w := by
  have hu := Try.underlying27
  cases a <;> simp [Builtin.clear_, run_underlying hu]
end Go.Proofs.Ytbifbeahakchjaa.Gr
