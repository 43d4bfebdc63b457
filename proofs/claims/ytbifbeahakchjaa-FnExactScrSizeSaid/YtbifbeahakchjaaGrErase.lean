/- The program's erase and fill over a part of the call's own row of cells; GridNew in the program. -/
import Derived.Test.YtbifbeahakchjaaGrSeg
import Derived.Test.YtbifbeahakchjaaGrOk
namespace Go.Proofs.Ytbifbeahakchjaa.Gr
open Go.RowKit Go.Proofs.Ytbifbeahakchjaa.Bytes Go.Proofs.Ytbifbeahakchjaa.Rows_ Go.Proofs.Ytbifbeahakchjaa.RowK
set_option linter.unusedVariables false
theorem over_at {cs : List CellD} {lo : Nat} {new : List CellD} (h : lo + new.length ≤ cs.length) (i : Nat) (hi : i < new.length) : (over cs lo new)[lo + i]? = some new[i] := by
  unfold over
  rw [List.append_assoc, List.getElem?_append_right (by rw [List.length_take]; omega), List.length_take, show lo + i - min lo cs.length = i by omega, List.getElem?_append_left hi, List.getElem?_eq_getElem hi]
/-- a row of cells, split at one of them -/
theorem own_split {w : World} {base g n c : Nat} {cs : List CellD} (h : OwnC w base (some ⟨g, 0, none⟩) n c cs) (k : Nat) (hk : k < cs.length) :
    w.ownsRow base 69 6 (.slice (some ⟨g, 0, none⟩) n c) n ((cs.take k).map cellR ++ [cellR cs[k]] ++ (cs.drop (k + 1)).map cellR).flatten := by
  have e : cs.map cellR = (cs.take k).map cellR ++ [cellR cs[k]] ++ (cs.drop (k + 1)).map cellR := by
    rw [← List.map_singleton, ← List.map_append, ← List.map_append]
    congr 1
    rw [List.append_assoc, List.singleton_append, ← List.drop_eq_getElem_cons hk, List.take_append_drop]
  unfold OwnC at h; rw [e] at h; exact h
theorem own_join {w : World} {base g n c : Nat} {cs : List CellD} (k : Nat) (hk : k < cs.length) (x : CellD)
    (h : w.ownsRow base 69 6 (.slice (some ⟨g, 0, none⟩) n c) n ((cs.take k).map cellR ++ [cellR x] ++ (cs.drop (k + 1)).map cellR).flatten) : OwnC w base (some ⟨g, 0, none⟩) n c (cs.set k x) := by
  have e : (cs.set k x).map cellR = (cs.take k).map cellR ++ [cellR x] ++ (cs.drop (k + 1)).map cellR := by
    rw [← List.map_singleton, ← List.map_append, ← List.map_append]
    congr 1
    rw [List.set_eq_take_append_cons_drop, if_pos hk, List.append_assoc]; rfl
  unfold OwnC; rw [e]; exact h
theorem take_len {cs : List CellD} {k : Nat} (hk : k < cs.length) : ((cs.take k).map cellR).length = k := by rw [List.length_map, List.length_take]; omega
/-- the rune of one cell stored -/
theorem own_setR {w : World} {base g n c : Nat} {cs : List CellD} (h : OwnC w base (some ⟨g, 0, none⟩) n c cs) (k : Nat) (hk : k < cs.length) (r : Int) :
    OwnC (w.setCell ⟨g, k * 6, none⟩ (.int .i64 r)) base (some ⟨g, 0, none⟩) n c (cs.set k { cs[k] with r := r }) :=
  own_join k hk _ (rowJ (K := 6) rfl (cell_len _) k (take_len hk) 0 (by omega) (.int .i64 r) (own_split h k hk))
/-- a whole cell stored -/
theorem own_setC {w : World} {base g n c : Nat} {cs : List CellD} (h : OwnC w base (some ⟨g, 0, none⟩) n c cs) (k : Nat) (hk : k < cs.length) (x : CellD) :
    OwnC ((((((w.setCell ⟨g, k * 6, none⟩ (.int .i64 x.r)).setCell ⟨g, k * 6 + 1, none⟩ (.int .i64 x.fg)).setCell ⟨g, k * 6 + 2, none⟩ (.int .i64 x.bg)).setCell ⟨g, k * 6 + 3, none⟩ (.bool x.b)).setCell ⟨g, k * 6 + 4, none⟩ (.bool x.u)).setCell ⟨g, k * 6 + 5, none⟩ (.bool x.t)) base (some ⟨g, 0, none⟩) n c (cs.set k x) :=
  own_join k hk _ (row6 _ _ _ _ _ _ (cell_len _) k (take_len hk) (own_split h k hk))
/-- blanks as far as i, zero cells behind -/
def half (m i : Nat) : List CellD := List.replicate i blankC ++ List.replicate (m - i) nilC
theorem half_len {m i : Nat} (h : i ≤ m) : (half m i).length = m := by unfold half; simp; omega
theorem half_next {cs : List CellD} {lo m i : Nat} (h : lo + m ≤ cs.length) (hi : i < m) (hk : lo + i < (over cs lo (half m i)).length) :
    (over cs lo (half m i)).set (lo + i) { (over cs lo (half m i))[lo + i] with r := 32 } = over cs lo (half m (i + 1)) := by
  have e : (over cs lo (half m i))[lo + i]? = some nilC := by
    rw [over_at (by rw [half_len (by omega)]; exact h) i (by rw [half_len (by omega)]; exact hi)]
    unfold half
    rw [List.getElem_append_right (by simp)]
    simp
  have e2 : (over cs lo (half m i))[lo + i] = nilC := by
    rw [List.getElem?_eq_getElem hk] at e; exact Option.some.inj e
  rw [e2]
  unfold over half
  rw [show m - i = (m - (i + 1)) + 1 by omega, List.replicate_succ, List.replicate_succ']
  simp only [List.length_append, List.length_replicate, List.length_cons, List.length_nil]
  rw [show i + (m - (i + 1) + 1) = m by omega, show i + 1 + (m - (i + 1)) = m by omega]
  have hl : (cs.take lo).length = lo := by rw [List.length_take]; omega
  rw [List.append_assoc, List.append_assoc, List.set_append_right _ _ (by omega), hl, show lo + i - lo = i by omega, List.set_append_right _ _ (by simp)]
  simp [blankC, nilC]

set_option maxRecDepth 100000 in
set_option maxHeartbeats 3200000 in
theorem erase_any (A : Option Addr) (lo m c' : Nat) {base g n c : Nat} {cs : List CellD} (w : World) (h : OwnC w base (some ⟨g, 0, none⟩) n c cs) (hlm : lo + m ≤ n) (hn : n ≤ 2097152) (hA : 0 < m → A = some ⟨g, lo * 6, none⟩) :
    Calls Try.prog 154 #[.slice A m c'] w fun e w' => e = .returned (.tuple #[]) ∧ OwnC w' base (some ⟨g, 0, none⟩) n c (over cs lo (List.replicate m blankC)) ∧ Only (fun i => i = g) w w' := by
  have HL := Lib.hid h.len
  rcases Nat.eq_zero_or_pos m with rfl | hm
  · have hcl := fun ty => run_clear_none w A c' ty
    have HO := Lib.hid h
    clear h hA
    go_enter Try.func154, Try.ntmps154
    go_wp2_with fail
    refine wp_loop_rounds 1 ?_
    rw [rounds_succ]
    go_wp2_with fail
    go_end0
    exact ⟨rfl, by simpa [over_nil] using HO.out, Only.refl _ _⟩
  · obtain rfl := hA hm
    obtain ⟨w1, hcl, ho1, hg1⟩ := run_clear_cells h hlm hm c'
    have HO1 := Lib.hid ho1
    have ON1 := Lib.hid (Only.grown (S := fun i => i = g) hg1 (fun i e => by injection e with e; exact e.symm))
    clear ho1 hg1 h hA
    go_enter Try.func154, Try.ntmps154
    go_wp2_with fail
    go_loopw [6] (fun i wr => ∃ k : Nat, k ≤ m ∧ i = .int .i64 k ∧ OwnC wr base (some ⟨g, 0, none⟩) n c (over cs lo (half m k)) ∧ Only (fun i => i = g) w wr) (fun i _ => m - (intOf i).toNat)
    case atStart => exact ⟨0, Nat.zero_le _, rfl, by simpa [half] using HO1.out, ON1.out⟩
    case round =>
      obtain ⟨k, hk, rfl, ho, hon⟩ := hrel
      clear hcl
      by_cases hlt : k < m
      · have hln : lo + m ≤ cs.length := by rw [HL.out]; exact hlm
        have hkl : lo + k < (over cs lo (half m k)).length := by rw [over_len (by rw [half_len (by omega)]; exact hln)]; omega
        have HN := Lib.hid (show OwnC (wr.setCell ⟨g, lo * 6 + k * 6, none⟩ (.int .i64 32)) base (some ⟨g, 0, none⟩) n c (over cs lo (half m (k + 1))) by
          have h := own_setR ho (lo + k) hkl 32
          rw [half_next hln hlt hkl, Nat.add_mul] at h
          exact h)
        obtain ⟨u0, hu0⟩ := own_there ho ((lo + k) * 6) (by omega)
        have hf0 := World.ownsRow.frozenAt (h := ho) ((lo + k) * 6)
        rw [Nat.add_mul] at hu0 hf0
        have HON := Lib.hid hon
        clear ho hon hln hkl
        go_wp2_with fail
        refine ⟨⟨k + 1, by omega, by go_num, ?_, ?_⟩, by simp [intOf]; omega⟩
        · exact HN.out
        · exact HON.out.trans (Only.cell_ (S := fun i => i = g) _ g _ _ rfl)
      · obtain rfl : m = k := by omega
        have HO := Lib.hid ho
        have HON := Lib.hid hon
        clear ho hon
        go_wp2_with fail
        go_end0
        exact ⟨rfl, by simpa [half] using HO.out, HON.out⟩
end Go.Proofs.Ytbifbeahakchjaa.Gr
