/- Words and lemmas, merged (once: GrSeg, GrErase) -/
import Derived.Test.YthlpchojlddnbaaGrTo
import Derived.Laws.CopyRow
import Derived.Laws.IdiomCopy
import Derived.Lib.SliceRun
import Derived.Test.YthlpchojlddnbaaGrOkD
namespace Go.Proofs.Ythlpchojlddnbaa.Gr
open Go.RowKit Go.Proofs.Ythlpchojlddnbaa.Bytes Go.Proofs.Ythlpchojlddnbaa.Rows_ Go.Proofs.Ythlpchojlddnbaa.RowK
set_option linter.unusedVariables false
theorem take_seg {α : Type} (l : List α) (N o : Nat) (vs : List α) (h : o + vs.length ≤ N) (hN : N ≤ l.length) :
    (l.take o ++ vs ++ l.drop (o + vs.length)).take N = (l.take N).take o ++ vs ++ (l.take N).drop (o + vs.length) := by
  have h1 : (l.take o).length = o := by rw [List.length_take]; omega
  rw [List.append_assoc, List.take_append, h1, List.take_append, List.take_of_length_le (show (l.take o).length ≤ N by omega), List.take_of_length_le (show vs.length ≤ N - o by omega), List.take_take, Nat.min_eq_left (by omega), List.append_assoc,
    List.drop_take, show N - o - vs.length = N - (o + vs.length) by omega]
theorem flat_take (K : Nat) (rows : List (List Value)) (hr : ∀ r ∈ rows, r.length = K) (i : Nat) (hi : i ≤ rows.length) : rows.flatten.take (i * K) = (rows.take i).flatten := by
  have e : rows.flatten = (rows.take i).flatten ++ (rows.drop i).flatten := by rw [← List.flatten_append, List.take_append_drop]
  have hl : (rows.take i).flatten.length = i * K := by rw [flat_len K _ (fun r h => hr r (List.mem_of_mem_take h)), List.length_take, Nat.min_eq_left hi]
  rw [e, ← hl, List.take_left]
theorem flat_drop (K : Nat) (rows : List (List Value)) (hr : ∀ r ∈ rows, r.length = K) (i : Nat) (hi : i ≤ rows.length) : rows.flatten.drop (i * K) = (rows.drop i).flatten := by
  have e : rows.flatten = (rows.take i).flatten ++ (rows.drop i).flatten := by rw [← List.flatten_append, List.take_append_drop]
  have hl : (rows.take i).flatten.length = i * K := by rw [flat_len K _ (fun r h => hr r (List.mem_of_mem_take h)), List.length_take, Nat.min_eq_left hi]
  rw [e, ← hl, List.drop_left]
def flatC (cs : List CellD) : List Value := (cs.map cellR).flatten
theorem flatC_len (cs : List CellD) : (flatC cs).length = cs.length * 6 := by unfold flatC; rw [flat_len 6 _ (cell_len cs), List.length_map]
theorem flatC_app (a b : List CellD) : flatC (a ++ b) = flatC a ++ flatC b := by unfold flatC; simp
theorem flatC_take (cs : List CellD) (i : Nat) (hi : i ≤ cs.length) : (flatC cs).take (i * 6) = flatC (cs.take i) := by
  unfold flatC; rw [flat_take 6 _ (cell_len cs) i (by simpa using hi), List.map_take]
theorem flatC_drop (cs : List CellD) (i : Nat) (hi : i ≤ cs.length) : (flatC cs).drop (i * 6) = flatC (cs.drop i) := by
  unfold flatC; rw [flat_drop 6 _ (cell_len cs) i (by simpa using hi), List.map_drop]
/-- the cells 'new' laid over a row from lo on -/
def over (cs : List CellD) (lo : Nat) (new : List CellD) : List CellD := cs.take lo ++ new ++ cs.drop (lo + new.length)
theorem over_len {cs : List CellD} {lo : Nat} {new : List CellD} (h : lo + new.length ≤ cs.length) : (over cs lo new).length = cs.length := by unfold over; simp; omega
theorem over_nil (cs : List CellD) (lo : Nat) : over cs lo [] = cs := by unfold over; simp
/-- what a row that is the call's own is, and what it is behind a store of a part -/
theorem own_seg {w : World} {base g n c K : Nat} {E : TypeId} {xs : List Value} (h : w.ownsRow base E K (.slice (some ⟨g, 0, none⟩) n c) n xs) :
    ∃ cur : Array Value, w.heap[g]? = some (.cells cur E (0, 0)) ∧ n * K ≤ cur.size ∧ cur.toList.take (n * K) = xs ∧
      ∀ (o : Nat) (vs : List Value), o + vs.length ≤ n * K → (w.setRow g (cur.toList.take o ++ vs ++ cur.toList.drop (o + vs.length)).toArray).ownsRow base E K (.slice (some ⟨g, 0, none⟩) n c) n (xs.take o ++ vs ++ xs.drop (o + vs.length)) ∧
        w.grownBy (w.setRow g (cur.toList.take o ++ vs ++ cur.toList.drop (o + vs.length)).toArray) (some g) := by
  rcases h.2 with ⟨hv, _⟩ | ⟨g', cap, cur, hv, hb, hg, hnc, hcm, hcs, ht⟩
  · cases hv
  injection hv with e1 e2 e3
  injection e1 with e1
  injection e1 with e1
  subst e1 e3
  have hle : n * K ≤ cur.size := by rw [hcs]; exact Nat.mul_le_mul_right _ hnc
  refine ⟨cur, hg, hle, ht, fun o vs ho => ⟨⟨?_, .inr ⟨g, c, _, rfl, hb, setRow_heap w g cur _ _ _ hg, hnc, hcm, ?_, ?_⟩⟩, ⟨rfl, rfl, rfl, by simp, fun k _ hk => setRow_other w g k _ (fun e => hk (by simp [e]))⟩⟩⟩
  · have := h.1; simp; omega
  · rw [← hcs]; simp; omega
  · rw [List.toList_toArray, take_seg _ _ _ _ ho (by rw [Array.length_toList]; exact hle), ht]
theorem own_segC {w : World} {base g n c : Nat} {cs : List CellD} (h : OwnC w base (some ⟨g, 0, none⟩) n c cs) :
    ∃ cur : Array Value, w.heap[g]? = some (.cells cur 37 (0, 0)) ∧ n * 6 ≤ cur.size ∧ cur.toList.take (n * 6) = flatC cs ∧
      ∀ (lo : Nat) (new : List CellD), lo + new.length ≤ n → OwnC (w.setRow g (cur.toList.take (lo * 6) ++ flatC new ++ cur.toList.drop (lo * 6 + (flatC new).length)).toArray) base (some ⟨g, 0, none⟩) n c (over cs lo new) ∧
        w.grownBy (w.setRow g (cur.toList.take (lo * 6) ++ flatC new ++ cur.toList.drop (lo * 6 + (flatC new).length)).toArray) (some g) := by
  obtain ⟨cur, h1, h2, h3, h4⟩ := own_seg h
  have hl := h.len
  refine ⟨cur, h1, h2, h3, fun lo new hn => ?_⟩
  obtain ⟨a, b⟩ := h4 (lo * 6) (flatC new) (by rw [flatC_len]; omega)
  refine ⟨?_, b⟩
  have e : (flatC cs).take (lo * 6) ++ flatC new ++ (flatC cs).drop (lo * 6 + (flatC new).length) = flatC (over cs lo new) := by
    rw [flatC_len, show lo * 6 + new.length * 6 = (lo + new.length) * 6 by omega, flatC_take _ _ (by omega), flatC_drop _ _ (by omega), ← flatC_app, ← flatC_app]; rfl
  have a' := a
  change World.ownsRow _ base _ 6 _ n ((flatC cs).take (lo * 6) ++ flatC new ++ (flatC cs).drop (lo * 6 + (flatC new).length)) at a'
  rw [e] at a'
  exact a'
theorem one_cells (cs : List CellD) : ∀ v ∈ flatC cs, v.oneCell' = true := by
  intro v hv
  unfold flatC at hv
  rw [List.mem_flatten] at hv
  obtain ⟨r, hr, hv⟩ := hv
  rw [List.mem_map] at hr
  obtain ⟨x, _, rfl⟩ := hr
  simp only [cellR, List.mem_cons, List.not_mem_nil, or_false] at hv
  rcases hv with rfl | rfl | rfl | rfl | rfl | rfl <;> rfl
def nilC : CellD := ⟨0, 0, 0, false, false, false⟩
def blankC : CellD := ⟨32, 0, 0, false, false, false⟩
theorem zeroCells_flat (m : Nat) : (Builtin.zeroCells #[Value.int .i64 0, .int .i64 0, .int .i64 0, .bool false, .bool false, .bool false] m).toList = flatC (List.replicate m nilC) := by
  unfold flatC
  rw [List.map_replicate]
  have := made_flat #[Value.int .i64 0, .int .i64 0, .int .i64 0, .bool false, .bool false, .bool false] 6 m rfl (by omega)
  rw [show cellR nilC = (#[Value.int .i64 0, .int .i64 0, .int .i64 0, .bool false, .bool false, .bool false] : Array Value).toList from rfl, ← this]
  unfold madeCells Builtin.zeroCells
  simp
set_option maxRecDepth 100000 in
/-- 'clear' on a part of the call's own row of cells -/
theorem run_clear_cells {w : World} {base g n c lo m : Nat} {cs : List CellD} (h : OwnC w base (some ⟨g, 0, none⟩) n c cs) (hlm : lo + m ≤ n) (hm : 0 < m) (c' : Nat) :
    ∃ w', (∀ ty, (Builtin.clear_ #[30] ty #[.slice (some ⟨g, lo * 6, none⟩) m c']).run Try.prog w = .ok (.tuple #[]) w') ∧
      OwnC w' base (some ⟨g, 0, none⟩) n c (over cs lo (List.replicate m nilC)) ∧ w.grownBy w' (some g) := by
  obtain ⟨cur, h1, h2, h3, h4⟩ := own_segC h
  obtain ⟨ha, hb⟩ := h4 lo (List.replicate m nilC) (by simp; exact hlm)
  have hst := run_storeCells_at Try.prog g (lo * 6) 37 (flatC (List.replicate m nilC)) 0 cur w h1 (by rw [flatC_len, List.length_replicate]; omega) (one_cells _)
  obtain ⟨m', rfl⟩ : ∃ m', m = m' + 1 := ⟨m - 1, by omega⟩
  refine ⟨_, fun ty => ?_, ha, hb⟩
  have hu := Try.underlying30
  have hz := zeroCells_flat (m' + 1)
  simp only [Nat.add_zero] at hst
  simp [Builtin.clear_, run_underlying hu, Value.cells, hz, hst]
set_option maxRecDepth 100000 in
theorem run_clear_none (w : World) (a : Option Addr) (c : Nat) (ty : TypeId) : (Builtin.clear_ #[30] ty #[.slice a 0 c]).run Try.prog w = .ok (.tuple #[]) w := by
  have hu := Try.underlying30
  cases a <;> simp [Builtin.clear_, run_underlying hu]
end Go.Proofs.Ythlpchojlddnbaa.Gr
namespace Go.Proofs.Ythlpchojlddnbaa.Gr
open Go.RowKit Go.Proofs.Ythlpchojlddnbaa.Bytes Go.Proofs.Ythlpchojlddnbaa.Rows_ Go.Proofs.Ythlpchojlddnbaa.RowK
set_option linter.unusedVariables false
theorem over_at {cs : List CellD} {lo : Nat} {new : List CellD} (h : lo + new.length ≤ cs.length) (i : Nat) (hi : i < new.length) : (over cs lo new)[lo + i]? = some new[i] := by
  unfold over
  rw [List.append_assoc, List.getElem?_append_right (by rw [List.length_take]; omega), List.length_take, show lo + i - min lo cs.length = i by omega, List.getElem?_append_left hi, List.getElem?_eq_getElem hi]
/-- a row of cells, split at one of them -/
theorem own_split {w : World} {base g n c : Nat} {cs : List CellD} (h : OwnC w base (some ⟨g, 0, none⟩) n c cs) (k : Nat) (hk : k < cs.length) :
    w.ownsRow base 37 6 (.slice (some ⟨g, 0, none⟩) n c) n ((cs.take k).map cellR ++ [cellR cs[k]] ++ (cs.drop (k + 1)).map cellR).flatten := by
  have e : cs.map cellR = (cs.take k).map cellR ++ [cellR cs[k]] ++ (cs.drop (k + 1)).map cellR := by
    rw [← List.map_singleton, ← List.map_append, ← List.map_append]
    congr 1
    rw [List.append_assoc, List.singleton_append, ← List.drop_eq_getElem_cons hk, List.take_append_drop]
  unfold OwnC at h; rw [e] at h; exact h
theorem own_join {w : World} {base g n c : Nat} {cs : List CellD} (k : Nat) (hk : k < cs.length) (x : CellD)
    (h : w.ownsRow base 37 6 (.slice (some ⟨g, 0, none⟩) n c) n ((cs.take k).map cellR ++ [cellR x] ++ (cs.drop (k + 1)).map cellR).flatten) : OwnC w base (some ⟨g, 0, none⟩) n c (cs.set k x) := by
  have e : (cs.set k x).map cellR = (cs.take k).map cellR ++ [cellR x] ++ (cs.drop (k + 1)).map cellR := by
    rw [← List.map_singleton, ← List.map_append, ← List.map_append]
    congr 1
    rw [List.set_eq_take_append_cons_drop, if_pos hk, List.append_assoc]; rfl
  unfold OwnC; rw [e]; exact h
theorem take_len {cs : List CellD} {k : Nat} (hk : k < cs.length) : ((cs.take k).map cellR).length = k := by rw [List.length_map, List.length_take]; omega
/-- the rune of one cell stored -/
theorem own_setR {w : World} {base g n c : Nat} {cs : List CellD} (h : OwnC w base (some ⟨g, 0, none⟩) n c cs) (k : Nat) (hk : k < cs.length) (r : Int) :
    OwnC (w.setCell ⟨g, k * 6, none⟩ (.int .i64 r)) base (some ⟨g, 0, none⟩) n c (cs.set k { cs[k] with r := r }) :=
  own_join k hk _ (rowJ (K := 6) rfl (cell_len _) k (take_len hk) 0 (by omega) (.int .i64 r) (own_split h k hk))
/-- a whole cell stored -/
theorem own_setC {w : World} {base g n c : Nat} {cs : List CellD} (h : OwnC w base (some ⟨g, 0, none⟩) n c cs) (k : Nat) (hk : k < cs.length) (x : CellD) :
    OwnC ((((((w.setCell ⟨g, k * 6, none⟩ (.int .i64 x.r)).setCell ⟨g, k * 6 + 1, none⟩ (.int .i64 x.fg)).setCell ⟨g, k * 6 + 2, none⟩ (.int .i64 x.bg)).setCell ⟨g, k * 6 + 3, none⟩ (.bool x.b)).setCell ⟨g, k * 6 + 4, none⟩ (.bool x.u)).setCell ⟨g, k * 6 + 5, none⟩ (.bool x.t)) base (some ⟨g, 0, none⟩) n c (cs.set k x) :=
  own_join k hk _ (row6 _ _ _ _ _ _ (cell_len _) k (take_len hk) (own_split h k hk))
/-- blanks as far as i, zero cells behind -/
def half (m i : Nat) : List CellD := List.replicate i blankC ++ List.replicate (m - i) nilC
theorem half_len {m i : Nat} (h : i ≤ m) : (half m i).length = m := by unfold half; simp; omega
theorem half_next {cs : List CellD} {lo m i : Nat} (h : lo + m ≤ cs.length) (hi : i < m) (hk : lo + i < (over cs lo (half m i)).length) :
    (over cs lo (half m i)).set (lo + i) { (over cs lo (half m i))[lo + i] with r := 32 } = over cs lo (half m (i + 1)) := by
  have e : (over cs lo (half m i))[lo + i]? = some nilC := by
    rw [over_at (by rw [half_len (by omega)]; exact h) i (by rw [half_len (by omega)]; exact hi)]
    unfold half
    rw [List.getElem_append_right (by simp)]
    simp
  have e2 : (over cs lo (half m i))[lo + i] = nilC := by
    rw [List.getElem?_eq_getElem hk] at e; exact Option.some.inj e
  rw [e2]
  unfold over half
  rw [show m - i = (m - (i + 1)) + 1 by omega, List.replicate_succ, List.replicate_succ']
  simp only [List.length_append, List.length_replicate, List.length_cons, List.length_nil]
  rw [show i + (m - (i + 1) + 1) = m by omega, show i + 1 + (m - (i + 1)) = m by omega]
  have hl : (cs.take lo).length = lo := by rw [List.length_take]; omega
  rw [List.append_assoc, List.append_assoc, List.set_append_right _ _ (by omega), hl, show lo + i - lo = i by omega, List.set_append_right _ _ (by simp)]
  simp [blankC, nilC]

set_option maxRecDepth 100000 in
set_option maxHeartbeats 3200000 in
theorem erase_any (A : Option Addr) (lo m c' : Nat) {base g n c : Nat} {cs : List CellD} (w : World) (h : OwnC w base (some ⟨g, 0, none⟩) n c cs) (hlm : lo + m ≤ n) (hn : n ≤ 2097152) (hA : 0 < m → A = some ⟨g, lo * 6, none⟩) :
    Calls Try.prog 129 #[.slice A m c'] w fun e w' => e = .returned (.tuple #[]) ∧ OwnC w' base (some ⟨g, 0, none⟩) n c (over cs lo (List.replicate m blankC)) ∧ Only (fun i => i = g) w w' := by
  have HL := Lib.hid h.len
  rcases Nat.eq_zero_or_pos m with rfl | hm
  · have hcl := fun ty => run_clear_none w A c' ty
    have HO := Lib.hid h
    clear h hA
    go_enter Try.func129, Try.ntmps129
    go_wp2_with fail
    refine wp_loop_rounds 1 ?_
    rw [rounds_succ]
    go_wp2_with fail
    go_end0
    exact ⟨rfl, by simpa [over_nil] using HO.out, Only.refl _ _⟩
  · obtain rfl := hA hm
    obtain ⟨w1, hcl, ho1, hg1⟩ := run_clear_cells h hlm hm c'
    have HO1 := Lib.hid ho1
    have ON1 := Lib.hid (Only.grown (S := fun i => i = g) hg1 (fun i e => by injection e with e; exact e.symm))
    clear ho1 hg1 h hA
    go_enter Try.func129, Try.ntmps129
    go_wp2_with fail
    go_loopw [6] (fun i wr => ∃ k : Nat, k ≤ m ∧ i = .int .i64 k ∧ OwnC wr base (some ⟨g, 0, none⟩) n c (over cs lo (half m k)) ∧ Only (fun i => i = g) w wr) (fun i _ => m - (intOf i).toNat)
    case atStart => exact ⟨0, Nat.zero_le _, rfl, by simpa [half] using HO1.out, ON1.out⟩
    case round =>
      obtain ⟨k, hk, rfl, ho, hon⟩ := hrel
      clear hcl
      by_cases hlt : k < m
      · have hln : lo + m ≤ cs.length := by rw [HL.out]; exact hlm
        have hkl : lo + k < (over cs lo (half m k)).length := by rw [over_len (by rw [half_len (by omega)]; exact hln)]; omega
        have HN := Lib.hid (show OwnC (wr.setCell ⟨g, lo * 6 + k * 6, none⟩ (.int .i64 32)) base (some ⟨g, 0, none⟩) n c (over cs lo (half m (k + 1))) by
          have h := own_setR ho (lo + k) hkl 32
          rw [half_next hln hlt hkl, Nat.add_mul] at h
          exact h)
        obtain ⟨u0, hu0⟩ := own_there ho ((lo + k) * 6) (by omega)
        have hf0 := World.ownsRow.frozenAt (h := ho) ((lo + k) * 6)
        rw [Nat.add_mul] at hu0 hf0
        have HON := Lib.hid hon
        clear ho hon hln hkl
        go_wp2_with fail
        refine ⟨⟨k + 1, by omega, by go_num, ?_, ?_⟩, by simp [intOf]; omega⟩
        · exact HN.out
        · exact HON.out.trans (Only.cell_ (S := fun i => i = g) _ g _ _ rfl)
      · obtain rfl : m = k := by omega
        have HO := Lib.hid ho
        have HON := Lib.hid hon
        clear ho hon
        go_wp2_with fail
        go_end0
        exact ⟨rfl, by simpa [half] using HO.out, HON.out⟩
end Go.Proofs.Ythlpchojlddnbaa.Gr

