/- Sorting a row of links of the call's own by their names, by the library's sort. -/
import Derived.Test.YtckiloacbanbmaaGreatShelf
import Derived.Test.YtckiloacbanbmaaGreatLinks
import Derived.Test.YtckiloacbanbmaaGreatMapVal
import Derived.Shelf.SlSortCmp.WholeK
namespace Go.Proofs.YtckiloacbanbmaaGreat.DOk
open Go.RowKit Go.Proofs.YtckiloacbanbmaaGreat.Bytes Go.Proofs.YtckiloacbanbmaaGreat.Rows_ Go.Sort Go.Shelf
set_option linter.unusedVariables false

/-! ### the order -/
theorem cmp_less : ∀ a b : List UInt8, (Lib.compareBytes a b < 0) ↔ Op.bytesLess a b = true := by
  intro a
  induction a with
  | nil => intro b; cases b <;> simp [Lib.compareBytes, Op.bytesLess]
  | cons x a ih =>
    intro b
    cases b with
    | nil => simp [Lib.compareBytes, Op.bytesLess]
    | cons y b =>
      unfold Lib.compareBytes Op.bytesLess
      by_cases h1 : x < y
      · simp [h1]
      · by_cases h2 : y < x
        · have hne : ¬ x = y := by intro e; subst e; exact absurd h2 (UInt8.lt_irrefl _)
          simp [h1, h2, hne]
        · have e : x = y := UInt8.le_antisymm (UInt8.not_lt.1 h2) (UInt8.not_lt.1 h1)
          subst e
          simp [ih b]
def cfL (x y : LinkD) : Int := Lib.compareBytes x.1.data.toList y.1.data.toList
theorem ltL (x y : LinkD) : ltOf cfL x y = Op.bytesLess x.1.toList y.1.toList := by
  unfold ltOf cfL
  rw [ByteArray.toList_eq, ByteArray.toList_eq]
  cases h : Op.bytesLess x.1.data.toList y.1.data.toList
  · exact decide_eq_false (fun h2 => by rw [(cmp_less _ _).1 h2] at h; cases h)
  · exact decide_eq_true ((cmp_less _ _).2 h)
theorem less_tot : ∀ a b : List UInt8, Op.bytesLess a b = false → Op.bytesLess b a = false → a = b := by
  intro a
  induction a with
  | nil => intro b; cases b <;> simp [Op.bytesLess]
  | cons x a ih =>
    intro b
    cases b with
    | nil => simp [Op.bytesLess]
    | cons y b =>
      unfold Op.bytesLess
      by_cases h1 : x < y
      · simp [h1]
      · by_cases h2 : y < x
        · have hne : ¬ y = x := by intro e; subst e; exact absurd h2 (UInt8.lt_irrefl _)
          simp [h1, h2]
        · have e : x = y := UInt8.le_antisymm (UInt8.not_lt.1 h2) (UInt8.not_lt.1 h1)
          subst e
          simp
          exact ih b
theorem swoL : SWO (ltOf cfL) where
  irrefl x := by rw [ltL]; exact less_irrefl _
  trans x y z := by rw [ltL, ltL, ltL]; exact less_trans _ _ _
  ntrans x y z h1 h2 := by
    rw [ltL] at h1 h2 ⊢
    cases h : Op.bytesLess x.1.toList z.1.toList
    · rfl
    · exfalso
      cases h3 : Op.bytesLess y.1.toList x.1.toList
      · have e := less_tot _ _ h1 h3
        rw [e] at h; rw [h] at h2; cases h2
      · have := less_trans _ _ _ h3 h
        rw [this] at h2; cases h2

/-! ### the closure -/
set_option maxHeartbeats 1000000 in
theorem cmpLink (x y : LinkD) (W : World) : Calls Tryz.prog 102 #[.agg #[.string x.1, .int .i64 x.2], .agg #[.string y.1, .int .i64 y.2]] W fun e w' => e = .returned (.int .i64 (cfL x y)) ∧ ∃ q os', w' = grow (W.drewN q) os' := by
  have hcon := fun W' => Tryz.strings_Compare x.1 y.1 W'
  have e0 : Lib.compareBytes x.1.data.toList y.1.data.toList = cfL x y := rfl
  rw [e0] at hcon
  generalize cfL x y = r at hcon ⊢
  clear e0
  go_enter Tryz.func102, Tryz.ntmps102
  go_wp2_with (go_at_call 103; refine (hcon _).mono ?_; rintro e w' ⟨rfl, rfl⟩)
  go_ret
  exact ⟨rfl, 0, _, by rw [alloc_eq_grow, alloc_eq_grow, grow_grow]; rfl⟩
theorem cmpLays (blk off size : Nat) (w : World) : CmpLays Tryz.prog 102 #[] linkR 2 cfL blk off size w :=
  fun _ _ _ _ x y => cmpLink x y _

/-! ### the row -/
theorem flatK_list (d : Array LinkD) : (flatK linkR 2 d).toList = (d.toList.map linkR).flatten := by
  apply List.ext_getElem?
  intro j
  have hlen : ((d.toList.map linkR).flatten).length = d.size * 2 := by rw [flat_len 2 _ (link_len _), List.length_map, Array.length_toList]
  by_cases hj : j < d.size * 2
  · have h2 : j / 2 < d.size := by omega
    have hr : (d.toList.map linkR)[j / 2]? = some (linkR d[j / 2]) := by simp [h2]
    have hv : (linkR d[j / 2])[j % 2]? = some ((linkR d[j / 2])[j % 2]!) := by
      have hm : j % 2 < (linkR d[j / 2]).length := by show j % 2 < 2; omega
      rw [getElem!_pos (linkR d[j / 2]) (j % 2) hm, List.getElem?_eq_getElem hm]
    have := flat_at 2 _ (link_len _) (j / 2) _ hr (j % 2) _ hv
    rw [show j / 2 * 2 + j % 2 = j by omega] at this
    rw [this]
    have hg := get_flatK linkR 2 d j hj
    have hsz : j < (flatK linkR 2 d).size := by simpa using hj
    rw [Array.getElem?_toList, Array.getElem?_eq_getElem hsz, ← getElem!_pos (flatK linkR 2 d) j hsz, hg, getElem!_pos d (j / 2) h2]
  · rw [List.getElem?_eq_none (by simpa using Nat.le_of_not_lt hj), List.getElem?_eq_none (by rw [hlen]; omega)]
theorem holds_own {w : World} {base g n c : Nat} {ks : List LinkD} (h : OwnL w base (some ⟨g, 0, none⟩) n c ks) : HoldsK linkR 2 w g 0 ks.toArray := by
  intro j hj
  have hl := h.len
  have hj2 : j < n * 2 := by simpa [hl] using hj
  rw [Nat.zero_add]
  refine ⟨?_, World.ownsRow.frozenAt (h := h) j⟩
  rw [World.ownsRow.cellAt (h := h) j hj2, ← flatK_list ks.toArray, Array.getElem?_toList, Array.getElem?_eq_getElem hj, ← getElem!_pos (flatK linkR 2 ks.toArray) j hj]
  rfl
theorem own_sorted {w : World} {base g n c : Nat} {ks : List LinkD} (h : OwnL w base (some ⟨g, 0, none⟩) n c ks) (d : Array LinkD) (hd : d.size = n) (m : Nat) (os : Array Obj) :
    OwnL (sortWorldK linkR 2 w g 0 m d os) base (some ⟨g, 0, none⟩) n c d.toList ∧ w.grownBy (sortWorldK linkR 2 w g 0 m d os) (some g) := by
  have hlen : ((d.toList.map linkR).flatten).length = n * 2 := by rw [flat_len 2 _ (link_len _), List.length_map, Array.length_toList, hd]
  have hF : (flatK linkR 2 d).size = n * 2 := by simp [hd]
  rcases h.2 with ⟨hv, hn⟩ | ⟨g', cap, cur, hv, hb, hg, hnc, hm, hs, ht⟩
  · cases hv
  · injection hv with e1 e2 e3
    injection e1 with e1
    injection e1 with e1
    subst e1 e3
    have hlt : g < w.heap.size := (Array.getElem?_eq_some_iff.1 hg).1
    have hg2 : (sortWorldK linkR 2 w g 0 m d os).heap[g]? = some (.cells (putCells id 0 (flatK linkR 2 d) cur) 97 (0, 0)) := by
      show ((w.heap.modify g (onCells (putCells id 0 (flatK linkR 2 d)))) ++ os)[g]? = _
      rw [Array.getElem?_append_left (by simpa using hlt), Array.getElem?_modify, if_pos rfl, hg]
      rfl
    refine ⟨⟨hlen, .inr ⟨g, c, _, rfl, hb, hg2, hnc, hm, by simp [putCells, hs], ?_⟩⟩, ⟨rfl, rfl, rfl, ?_, fun k hk hne => ?_⟩⟩
    · rw [← flatK_list]
      apply List.ext_getElem?
      intro j
      rw [List.getElem?_take]
      split
      · rename_i hj
        have hjc : j < cur.size := by
          have : n * 2 ≤ c * 2 := Nat.mul_le_mul_right 2 hnc
          omega
        have hjF : j < (flatK linkR 2 d).size := by omega
        simp only [putCells, Array.getElem?_toList, Array.getElem?_mapIdx, Array.getElem?_eq_getElem hjc, Option.map_some, Nat.zero_add, Nat.zero_le, true_and, hjF, if_true, Nat.sub_zero, id]
        rw [getElem!_pos (flatK linkR 2 d) j hjF, Array.getElem?_eq_getElem hjF]
      · rename_i hj
        rw [List.getElem?_eq_none (by simp; omega)]
    · show w.heap.size ≤ ((w.heap.modify g (onCells (putCells id 0 (flatK linkR 2 d)))) ++ os).size
      simp
    · show ((w.heap.modify g (onCells (putCells id 0 (flatK linkR 2 d)))) ++ os)[k]? = _
      rw [Array.getElem?_append_left (by simpa using hk), Array.getElem?_modify, if_neg (fun e => hne (by rw [e]))]

/-- the sort: what the row holds then rises, and is what it held -/
theorem sort_any (g n c base : Nat) (ks : List LinkD) (w : World) (ho : OwnL w base (some ⟨g, 0, none⟩) n c ks) (hn : n ≤ 2000000) :
    Calls Tryz.prog 101 #[.slice (some ⟨g, 0, none⟩) n c, .func (.func 102) #[] #[]] w fun e w' =>
      e = .returned (.tuple #[]) ∧ ∃ l : List LinkD, l.Perm ks ∧ (l.Pairwise fun x y => Op.bytesLess y.1.toList x.1.toList = false) ∧ OwnL w' base (some ⟨g, 0, none⟩) n c l ∧ w.grownBy w' (some g) := by
  have eg : ∀ args w, (callFunc 102 args).run Tryz.prog w = .ok (.enter 102 args) w := enters_of Tryz.func102 (by kernel_rfl) rfl
  have hl := ho.len
  have hb := (ho.blk g rfl).2
  have hcon := AnyQ.slices_SortFunc Tryz.sortLink 2 Tryz.isAgg97 Tryz.sizeOf97 linkR (fun _ => rfl) (fun x v hv => by simp [linkR] at hv; rcases hv with rfl | rfl <;> rfl) cfL swoL 102 #[] g 0 c ks.toArray w eg (cmpLays g 0 _ w) (holds_own ho) hb (by simp; omega)
  change Calls Tryz.prog 101 _ _ _ at hcon
  have e0 : ks.toArray.size = n := by simpa using hl
  rw [e0] at hcon
  refine hcon.mono ?_
  rintro e w' ⟨rfl, d, m, os, ⟨p1, p2, p3⟩, hs, rfl⟩
  have hd : d.size = n := by rw [p1, e0]
  obtain ⟨o1, o2⟩ := own_sorted ho d hd m os
  refine ⟨rfl, d.toList, ?_, ?_, o1, o2⟩
  · have h1 : d.extract 0 n = d := by rw [← hd]; exact Array.extract_size
    have h2 : ks.toArray.extract 0 n = ks.toArray := by rw [← e0]; exact Array.extract_size
    rw [h1, h2] at p3
    simpa using p3
  · rw [List.pairwise_iff_getElem]
    intro i j hi hj hij
    have := hs i j (Nat.zero_le _) hij (by simp at hj; omega)
    rw [ltL, getElem!_pos d j (by simpa using hj), getElem!_pos d i (by simpa using hi)] at this
    simpa using this
end Go.Proofs.YtckiloacbanbmaaGreat.DOk
