/- The program's slide: cells moved within a part of a row, blanks behind them; as a list. -/
import Derived.Test.YthlpchojlddnbaaGrSE
namespace Go.Proofs.Ythlpchojlddnbaa.Gr
open Go.RowKit Go.Proofs.Ythlpchojlddnbaa.Bytes Go.Proofs.Ythlpchojlddnbaa.Rows_ Go.Proofs.Ythlpchojlddnbaa.RowK
set_option linter.unusedVariables false
theorem over_get {cs : List CellD} {lo : Nat} {new : List CellD} (h : lo + new.length ≤ cs.length) (i : Nat) :
    (over cs lo new)[i]? = if i < lo then cs[i]? else if i < lo + new.length then new[i - lo]? else cs[i]? := by
  unfold over
  by_cases h1 : i < lo
  · rw [if_pos h1, List.append_assoc, List.getElem?_append_left (by rw [List.length_take]; omega), List.getElem?_take_of_lt h1]
  · rw [if_neg h1, List.append_assoc, List.getElem?_append_right (by rw [List.length_take]; omega), List.length_take, Nat.min_eq_left (by omega)]
    by_cases h2 : i < lo + new.length
    · rw [if_pos h2, List.getElem?_append_left (by omega)]
    · rw [if_neg h2, List.getElem?_append_right (by omega), List.getElem?_drop]
      congr 1; omega
theorem over_ext {cs ds : List CellD} {lo : Nat} {new : List CellD} (h : lo + new.length ≤ cs.length) (hl : ds.length = cs.length) (h1 : ∀ i, i < lo → ds[i]? = cs[i]?) (h2 : ∀ i, i < new.length → ds[lo + i]? = new[i]?) (h3 : ∀ i, lo + new.length ≤ i → ds[i]? = cs[i]?) : ds = over cs lo new := by
  apply List.ext_getElem?
  intro i
  rw [over_get h]
  by_cases a : i < lo
  · rw [if_pos a]; exact h1 i a
  · rw [if_neg a]
    by_cases b : i < lo + new.length
    · rw [if_pos b]
      have := h2 (i - lo) (by omega)
      rwa [show lo + (i - lo) = i by omega] at this
    · rw [if_neg b]; exact h3 i (by omega)
/-- the cells from lo on, m of them, moved by d places; blanks where none moves to -/
def shiftL (cs : List CellD) (lo m : Nat) (d : Int) : List CellD :=
  (List.range m).map fun i : Nat => if 0 ≤ (i : Int) - d ∧ (i : Int) - d < m then cs.getD (lo + ((i : Int) - d).toNat) blankC else blankC
theorem shiftL_len (cs : List CellD) (lo m : Nat) (d : Int) : (shiftL cs lo m d).length = m := by simp [shiftL]
theorem shiftL_get {cs : List CellD} {lo m : Nat} {d : Int} {i : Nat} (hi : i < m) : (shiftL cs lo m d)[i]? = some (if 0 ≤ (i : Int) - d ∧ (i : Int) - d < m then cs.getD (lo + ((i : Int) - d).toNat) blankC else blankC) := by
  simp [shiftL, hi]
/-- moves by as many places as there are cells, or more, are all one -/
theorem shiftL_big {cs : List CellD} {lo m : Nat} {d e : Int} (h : (d = e) ∨ ((m : Int) ≤ d ∧ (m : Int) ≤ e) ∨ (d ≤ -(m : Int) ∧ e ≤ -(m : Int))) : shiftL cs lo m d = shiftL cs lo m e := by
  rcases h with rfl | ⟨h1, h2⟩ | ⟨h1, h2⟩
  · rfl
  · apply List.ext_getElem?; intro i
    by_cases hi : i < m
    · rw [shiftL_get hi, shiftL_get hi, if_neg (by omega), if_neg (by omega)]
    · rw [List.getElem?_eq_none (by rw [shiftL_len]; omega), List.getElem?_eq_none (by rw [shiftL_len]; omega)]
  · apply List.ext_getElem?; intro i
    by_cases hi : i < m
    · rw [shiftL_get hi, shiftL_get hi, if_neg (by omega), if_neg (by omega)]
    · rw [List.getElem?_eq_none (by rw [shiftL_len]; omega), List.getElem?_eq_none (by rw [shiftL_len]; omega)]
/-- to the left by k -/
theorem slide_left {cs : List CellD} {lo m k : Nat} (h : lo + m ≤ cs.length) (hk : k ≤ m) :
    over (over cs lo ((cs.drop (lo + k)).take (m - k))) (lo + (m - k)) (List.replicate k blankC) = over cs lo (shiftL cs lo m (-(k : Int))) := by
  have hl1 : ((cs.drop (lo + k)).take (m - k)).length = m - k := by simp; omega
  have hl2 := over_len (cs := cs) (lo := lo) (new := (cs.drop (lo + k)).take (m - k)) (by omega)
  refine over_ext (by rw [shiftL_len]; exact h) (by rw [over_len (by rw [List.length_replicate]; omega), hl2]) (fun i hi => ?_) (fun i hi => ?_) (fun i hi => ?_)
  · rw [over_get (by rw [List.length_replicate]; omega), if_pos (by omega), over_get (by omega), if_pos hi]
  · rw [shiftL_len] at hi
    rw [shiftL_get hi, over_get (by rw [List.length_replicate]; omega)]
    by_cases a : i < m - k
    · rw [if_pos (by omega), over_get (by omega), if_neg (by omega), if_pos (by omega), show lo + i - lo = i by omega, List.getElem?_take_of_lt a, List.getElem?_drop, if_pos (by omega)]
      rw [show ((i : Int) - -(k : Int)).toNat = k + i by omega]
      simp only [List.getD]
      rw [show lo + k + i = lo + (k + i) by omega, List.getElem?_eq_getElem (show lo + (k + i) < cs.length by omega)]; rfl
    · rw [if_neg (by omega), if_pos (by rw [List.length_replicate]; omega), if_neg (by omega), List.getElem?_replicate, if_pos (by omega)]
  · rw [shiftL_len] at hi
    rw [over_get (by rw [List.length_replicate]; omega), if_neg (by omega), if_neg (by rw [List.length_replicate]; omega), over_get (by omega), if_neg (by omega), if_neg (by omega)]
/-- to the right by k -/
theorem slide_right {cs : List CellD} {lo m k : Nat} (h : lo + m ≤ cs.length) (hk : k ≤ m) :
    over (over cs (lo + k) ((cs.drop lo).take (m - k))) lo (List.replicate k blankC) = over cs lo (shiftL cs lo m (k : Int)) := by
  have hl1 : ((cs.drop lo).take (m - k)).length = m - k := by simp; omega
  have hl2 := over_len (cs := cs) (lo := lo + k) (new := (cs.drop lo).take (m - k)) (by omega)
  refine over_ext (by rw [shiftL_len]; exact h) (by rw [over_len (by rw [List.length_replicate]; omega), hl2]) (fun i hi => ?_) (fun i hi => ?_) (fun i hi => ?_)
  · rw [over_get (by rw [List.length_replicate]; omega), if_pos hi, over_get (by omega), if_pos (by omega)]
  · rw [shiftL_len] at hi
    rw [shiftL_get hi, over_get (by rw [List.length_replicate]; omega), if_neg (by omega)]
    by_cases a : i < k
    · rw [if_pos (by rw [List.length_replicate]; omega), if_neg (by omega), List.getElem?_replicate, if_pos (by omega)]
    · rw [if_neg (by rw [List.length_replicate]; omega), over_get (by omega), if_neg (by omega), if_pos (by omega), List.getElem?_take_of_lt (by omega), List.getElem?_drop, if_pos (by omega)]
      rw [show ((i : Int) - (k : Int)).toNat = i - k by omega]
      simp only [List.getD]
      rw [show lo + (lo + i - (lo + k)) = lo + (i - k) by omega, List.getElem?_eq_getElem (show lo + (i - k) < cs.length by omega)]; rfl
  · rw [shiftL_len] at hi
    rw [over_get (by rw [List.length_replicate]; omega), if_neg (by omega), if_neg (by rw [List.length_replicate]; omega), over_get (by omega), if_neg (by omega), if_neg (by omega)]

/-! ### copy -/
theorem infoC : (Try.prog.info? 37).map (·.size) = some 6 := by kernel_rfl
set_option maxRecDepth 100000 in
/-- 'copy' onto a part of the call's own row of cells -/
theorem run_copy_cellsC {w : World} {base g n c lo : Nat} {cs new : List CellD} (h : OwnC w base (some ⟨g, 0, none⟩) n c cs) (dp sp : Option Addr) (dLen dCap sLen sCap : Nat) (hk : new.length = Nat.min sLen dLen)
    (hpos : 0 < new.length → dp = some ⟨g, lo * 6, none⟩ ∧ ∃ ad, sp = some ad ∧ ∀ j v, (flatC new)[j]? = some v → w.cell? (ad.add j) = some v) (hfit : lo + new.length ≤ n) :
    ∃ w', (∀ ty, (Builtin.copy_ #[30, 30] ty #[.slice dp dLen dCap, .slice sp sLen sCap]).run Try.prog w = .ok (goInt new.length) w') ∧
      OwnC w' base (some ⟨g, 0, none⟩) n c (over cs lo new) ∧ w.grownBy w' (some g) := by
  have hu := Try.underlying30
  have hs := infoC
  by_cases h0 : new.length = 0
  · obtain rfl : new = [] := List.eq_nil_of_length_eq_zero h0
    refine ⟨w, fun ty => ?_, by rw [over_nil]; exact h, World.grownBy.refl _ _⟩
    have hmin : Nat.min sLen dLen = 0 := by simpa using hk.symm
    cases hq : Try.prog.info? 37 with
    | none => rw [hq] at hs; cases hs
    | some i =>
      have hl : ∀ (x : Addr), (loadCells x 0).run Try.prog w = .ok #[] w := fun x => by simpa using run_loadCells_list (P := Try.prog) w x [] (by simp)
      cases dp <;> cases sp <;> simp [Builtin.copy_, run_underlying hu, Builtin.lenOf, Builtin.firstCells, sizeOf, typeInfo, hq, hmin, storeCells, hl]
  · obtain ⟨rfl, ad, rfl, hsrc⟩ := hpos (by omega)
    obtain ⟨cur, h1, h2, h3, h4⟩ := own_segC h
    obtain ⟨ha, hb⟩ := h4 lo new hfit
    have hst := run_storeCells_at Try.prog g (lo * 6) 37 (flatC new) 0 cur w h1 (by rw [flatC_len]; omega) (one_cells _)
    have hl := run_loadCells_list (P := Try.prog) w ad (flatC new) hsrc
    rw [flatC_len, hk] at hl
    simp only [Nat.add_zero] at hst
    refine ⟨_, fun ty => ?_, ha, hb⟩
    cases hq : Try.prog.info? 37 with
    | none => rw [hq] at hs; cases hs
    | some i =>
      have hi : i.size = 6 := by simpa [hq] using hs
      simp [Builtin.copy_, run_underlying hu, Builtin.lenOf, Builtin.firstCells, sizeOf, typeInfo, hq, hi, hl, hst, hk]
theorem own_src {w : World} {base g n c : Nat} {cs : List CellD} (h : OwnC w base (some ⟨g, 0, none⟩) n c cs) (a b : Nat) (hab : a + b ≤ n) : ∀ j v, (flatC ((cs.drop a).take b))[j]? = some v → w.cell? ⟨g, a * 6 + j, none⟩ = some v := by
  intro j v hv
  have hl := h.len
  have hj : j < b * 6 := by
    have := (List.getElem?_eq_some_iff.1 hv).1
    rw [flatC_len] at this; simp at this; omega
  rw [← flatC_take _ _ (by simp; omega), ← flatC_drop _ _ (by omega), List.getElem?_take_of_lt hj, List.getElem?_drop] at hv
  rw [World.ownsRow.cellAt (h := h) (a * 6 + j) (by omega)]
  exact hv
def clampV (x lo hi : Int) : Int := if x < lo then lo else if hi < x then hi else x
set_option maxRecDepth 100000 in
theorem clamp_anyG (x lo hi : Int) (h : lo ≤ hi) (w : World) : Calls Try.prog 94 #[.int .i64 x, .int .i64 lo, .int .i64 hi] w fun e w' => e = .returned (.int .i64 (clampV x lo hi)) ∧ w = w' := by
  have HE := Lib.hid (show clampV x lo hi = if x < lo then lo else if hi < x then hi else x from rfl)
  by_cases h1 : x < lo
  · have HF := Lib.hid (show clampV x lo hi = lo by rw [HE.out, if_pos h1])
    have h2 : x ≤ hi := by omega
    go_enter Try.func94, Try.ntmps94
    go_wp2
    all_goals
      go_ret
      refine ⟨ret_int ?_, rfl⟩
      first | (rw [HF.out]; done) | (rw [HF.out]; omega)
  · by_cases h2 : hi < x
    · have HF := Lib.hid (show clampV x lo hi = hi by rw [HE.out, if_neg h1, if_pos h2])
      go_enter Try.func94, Try.ntmps94
      go_wp2
      all_goals
        go_ret
        refine ⟨ret_int ?_, rfl⟩
        first | (rw [HF.out]; done) | (rw [HF.out]; omega)
    · have HF := Lib.hid (show clampV x lo hi = x by rw [HE.out, if_neg h1, if_neg h2])
      go_enter Try.func94, Try.ntmps94
      go_wp2
      all_goals
        go_ret
        refine ⟨ret_int ?_, rfl⟩
        first | (rw [HF.out]; done) | (rw [HF.out]; omega)

set_option maxRecDepth 100000 in
set_option maxHeartbeats 800000 in
theorem slide_neg (lo m c' k : Nat) (d : Int) {base g n c : Nat} {cs : List CellD} (w : World) (h : OwnC w base (some ⟨g, 0, none⟩) n c cs) (hlm : lo + m ≤ n) (hmc : m ≤ c') (hc : c' ≤ 9223372036854775807) (hn : n ≤ 2097152) (hk0 : 0 < k) (hk : k ≤ m) (hd : clampV d (-(m : Int)) (m : Int) = -(k : Int)) :
    Calls Try.prog 130 #[.slice (some ⟨g, lo * 6, none⟩) m c', .int .i64 d] w fun e w' => e = .returned (.tuple #[]) ∧ OwnC w' base (some ⟨g, 0, none⟩) n c (over cs lo (shiftL cs lo m (-(k : Int)))) ∧ Only (fun i => i = g) w w' := by
  have HD := Lib.hid hd
  have HL := Lib.hid h.len
  have HSL := Lib.hid (slide_left (cs := cs) (lo := lo) (m := m) (k := k) (by rw [h.len]; exact hlm) hk)
  have hlen : ((cs.drop (lo + k)).take (m - k)).length = m - k := by simp [h.len]; omega
  have HC := Lib.hid (fun V => clamp_anyG d (-(m : Int)) (m : Int) (by omega) V)
  have hneg : decide (-(k : Int) < 0) = true := decide_eq_true (by omega)
  clear hd
  by_cases hkc : k = c'
  · have e1 : m = k := by omega
    subst e1
    subst hkc
    obtain ⟨w1, hcp, ho1, hg1⟩ := run_copy_cellsC (lo := lo) (new := []) h (some ⟨g, lo * 6, none⟩) (some ⟨g, lo * 6, none⟩) m m 0 0 (by simp) (fun h => by simp at h) (by simp; omega)
    have HO1 := Lib.hid ho1
    have ON1 := Lib.hid (Only.grown (S := fun i => i = g) hg1 (fun i e => by injection e with e; exact e.symm))
    clear ho1 hg1 h hlen
    go_enter Try.func130, Try.ntmps130
    go_wp2_with fail
    (with_reducible refine (HC.out _).mono ?_)
    rintro e v0 ⟨rfl, rfl⟩
    rw [HD.out]
    go_wp2_with fail
    refine (erase_any _ lo m _ _ HO1.out (by omega) hn (fun _ => rfl)).mono ?_
    rintro e v2 ⟨rfl, ho2, on2⟩
    have HO2 := Lib.hid (show OwnC v2 base (some ⟨g, 0, none⟩) n c (over cs lo (shiftL cs lo m (-(m : Int)))) by
      have h1 := HSL.out
      rw [Nat.sub_self, List.take_zero, Nat.add_zero] at h1
      rw [← h1]; exact ho2)
    have ON2 := Lib.hid (ON1.out.trans on2)
    clear ho2 on2
    go_wp2_with fail
    exact bodyPost_ret (v := .tuple #[]) (results_none rfl _ _ _) rfl ⟨rfl, HO2.out, ON2.out⟩
  · obtain ⟨w1, hcp, ho1, hg1⟩ := run_copy_cellsC (lo := lo) (new := (cs.drop (lo + k)).take (m - k)) h (some ⟨g, lo * 6, none⟩) (some ⟨g, lo * 6 + k * 6, none⟩) m c' (m - k) (c' - k) (by rw [hlen]; exact (Nat.min_eq_left (by omega)).symm)
      (fun _ => ⟨rfl, _, rfl, fun j v hv => by have := own_src h (lo + k) (m - k) (by omega) j v hv; rw [Addr.add_lit]; rw [Nat.add_mul] at this; exact this⟩) (by rw [hlen]; omega)
    rw [hlen] at hcp
    have HO1 := Lib.hid ho1
    have ON1 := Lib.hid (Only.grown (S := fun i => i = g) hg1 (fun i e => by injection e with e; exact e.symm))
    have HE := Lib.hid (fun (W : World) (h : OwnC W base (some ⟨g, 0, none⟩) n c (over cs lo ((cs.drop (lo + k)).take (m - k)))) => (erase_any (some ⟨g, lo * 6 + (m - k) * 6, none⟩) (lo + (m - k)) (m - (m - k)) (c' - (m - k)) W h (by omega) hn (fun _ => by rw [Nat.add_mul])).mono (fun e w' hh => (⟨hh.1, by have h2 := hh.2.1; rw [show m - (m - k) = k by omega, HSL.out] at h2; exact h2, hh.2.2⟩ : e = .returned (.tuple #[]) ∧ OwnC w' base (some ⟨g, 0, none⟩) n c (over cs lo (shiftL cs lo m (-(k : Int)))) ∧ Only (fun i => i = g) W w')))
    clear ho1 hg1 h hlen
    go_enter Try.func130, Try.ntmps130
    go_wp2_with fail
    (with_reducible refine (HC.out _).mono ?_)
    rintro e v0 ⟨rfl, rfl⟩
    rw [HD.out]
    go_wp2_with fail
    refine (HE.out _ HO1.out).mono ?_
    rintro e v2 ⟨rfl, ho2, on2⟩
    have HO2 := Lib.hid ho2
    have ON2 := Lib.hid (ON1.out.trans on2)
    clear ho2 on2
    go_wp2_with fail
    exact bodyPost_ret (v := .tuple #[]) (results_none rfl _ _ _) rfl ⟨rfl, HO2.out, ON2.out⟩

set_option maxRecDepth 100000 in
set_option maxHeartbeats 800000 in
theorem slide_pos (lo m c' k : Nat) (d : Int) {base g n c : Nat} {cs : List CellD} (w : World) (h : OwnC w base (some ⟨g, 0, none⟩) n c cs) (hlm : lo + m ≤ n) (hmc : m ≤ c') (hc : c' ≤ 9223372036854775807) (hn : n ≤ 2097152) (hk : k ≤ m) (hd : clampV d (-(m : Int)) (m : Int) = (k : Int)) :
    Calls Try.prog 130 #[.slice (some ⟨g, lo * 6, none⟩) m c', .int .i64 d] w fun e w' => e = .returned (.tuple #[]) ∧ OwnC w' base (some ⟨g, 0, none⟩) n c (over cs lo (shiftL cs lo m (k : Int))) ∧ Only (fun i => i = g) w w' := by
  have HD := Lib.hid hd
  have HL := Lib.hid h.len
  have HSL := Lib.hid (slide_right (cs := cs) (lo := lo) (m := m) (k := k) (by rw [h.len]; exact hlm) hk)
  have hlen : ((cs.drop lo).take (m - k)).length = m - k := by simp [h.len]; omega
  have HC := Lib.hid (fun V => clamp_anyG d (-(m : Int)) (m : Int) (by omega) V)
  have hneg : decide ((k : Int) < 0) = false := decide_eq_false (by omega)
  clear hd
  by_cases hkc : k = c'
  · have e1 : m = k := by omega
    subst e1
    subst hkc
    obtain ⟨w1, hcp, ho1, hg1⟩ := run_copy_cellsC (lo := lo) (new := []) h (some ⟨g, lo * 6, none⟩) (some ⟨g, lo * 6, none⟩) 0 0 m m (by simp) (fun h => by simp at h) (by simp; omega)
    have HO1 := Lib.hid ho1
    have ON1 := Lib.hid (Only.grown (S := fun i => i = g) hg1 (fun i e => by injection e with e; exact e.symm))
    have HE := Lib.hid (show over (over cs lo []) lo (List.replicate m blankC) = over cs lo (shiftL cs lo m (m : Int)) by
      have h1 := HSL.out
      rw [Nat.sub_self, List.take_zero] at h1
      rw [← h1, over_nil, over_nil])
    clear ho1 hg1 h hlen
    go_enter Try.func130, Try.ntmps130
    go_wp2_with fail
    (with_reducible refine (HC.out _).mono ?_)
    rintro e v0 ⟨rfl, rfl⟩
    rw [HD.out]
    go_wp2_with fail
    refine (erase_any _ lo m _ _ HO1.out (by omega) hn (fun _ => rfl)).mono ?_
    rintro e v2 ⟨rfl, ho2, on2⟩
    have HO2 := Lib.hid (show OwnC v2 base (some ⟨g, 0, none⟩) n c (over cs lo (shiftL cs lo m (m : Int))) by rw [← HE.out]; exact ho2)
    have ON2 := Lib.hid (ON1.out.trans on2)
    clear ho2 on2
    go_wp2_with fail
    go_end0
    exact ⟨rfl, HO2.out, ON2.out⟩
  · obtain ⟨w1, hcp, ho1, hg1⟩ := run_copy_cellsC (lo := lo + k) (new := (cs.drop lo).take (m - k)) h (some ⟨g, lo * 6 + k * 6, none⟩) (some ⟨g, lo * 6, none⟩) (m - k) (c' - k) m c' (by rw [hlen]; exact (Nat.min_eq_right (by omega)).symm)
      (fun _ => ⟨by rw [Nat.add_mul], _, rfl, fun j v hv => by have := own_src h lo (m - k) (by omega) j v hv; rw [Addr.add_lit]; exact this⟩) (by rw [hlen]; omega)
    rw [hlen] at hcp
    have HO1 := Lib.hid ho1
    have ON1 := Lib.hid (Only.grown (S := fun i => i = g) hg1 (fun i e => by injection e with e; exact e.symm))
    clear ho1 hg1 h hlen
    go_enter Try.func130, Try.ntmps130
    go_wp2_with fail
    (with_reducible refine (HC.out _).mono ?_)
    rintro e v0 ⟨rfl, rfl⟩
    rw [HD.out]
    go_wp2_with fail
    refine (erase_any _ lo k _ _ HO1.out (by omega) hn (fun _ => rfl)).mono ?_
    rintro e v2 ⟨rfl, ho2, on2⟩
    have HO2 := Lib.hid (show OwnC v2 base (some ⟨g, 0, none⟩) n c (over cs lo (shiftL cs lo m (k : Int))) by rw [← HSL.out]; exact ho2)
    have ON2 := Lib.hid (ON1.out.trans on2)
    clear ho2 on2
    go_wp2_with fail
    go_end0
    exact ⟨rfl, HO2.out, ON2.out⟩

theorem slide_any (lo m c' : Nat) (d : Int) {base g n c : Nat} {cs : List CellD} (w : World) (h : OwnC w base (some ⟨g, 0, none⟩) n c cs) (hlm : lo + m ≤ n) (hmc : m ≤ c') (hc : c' ≤ 9223372036854775807) (hn : n ≤ 2097152) :
    Calls Try.prog 130 #[.slice (some ⟨g, lo * 6, none⟩) m c', .int .i64 d] w fun e w' => e = .returned (.tuple #[]) ∧ OwnC w' base (some ⟨g, 0, none⟩) n c (over cs lo (shiftL cs lo m d)) ∧ Only (fun i => i = g) w w' := by
  by_cases h1 : clampV d (-(m : Int)) (m : Int) < 0
  · obtain ⟨k, hk⟩ := Int.eq_ofNat_of_zero_le (show 0 ≤ -clampV d (-(m : Int)) (m : Int) by omega)
    have e : shiftL cs lo m d = shiftL cs lo m (-(k : Int)) := shiftL_big (by unfold clampV at hk h1; split at hk <;> (try split at hk) <;> omega)
    rw [e]
    exact slide_neg lo m c' k d w h hlm hmc hc hn (by omega) (by unfold clampV at hk h1; split at hk <;> (try split at hk) <;> omega) (by omega)
  · obtain ⟨k, hk⟩ := Int.eq_ofNat_of_zero_le (show 0 ≤ clampV d (-(m : Int)) (m : Int) by omega)
    have e : shiftL cs lo m d = shiftL cs lo m (k : Int) := shiftL_big (by unfold clampV at hk h1; split at hk <;> (try split at hk) <;> omega)
    rw [e]
    exact slide_pos lo m c' k d w h hlm hmc hc hn (by unfold clampV at hk h1; split at hk <;> (try split at hk) <;> omega) hk
end Go.Proofs.Ythlpchojlddnbaa.Gr

