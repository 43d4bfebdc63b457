/- The laws' helper that copies a disk. -/
import Derived.Test.YtfkdfabbpebljaaGreatEqDisk
import Derived.Test.YtfkdfabbpebljaaGreatKitA
namespace Go.Proofs.YtfkdfabbpebljaaGreat.DOk
open Go.RowKit Go.Proofs.YtfkdfabbpebljaaGreat.Bytes Go.Proofs.YtfkdfabbpebljaaGreat.Rows_
set_option linter.unusedVariables false

theorem set_mid (a b c : List Value) (m j : Nat) (hm : a.length = m) (hj : j < b.length) (v : Value) : (a ++ b ++ c).set (m + j) v = a ++ b.set j v ++ c := by
  rw [List.append_assoc, List.set_append_right _ _ (by omega), show m + j - a.length = j by omega, List.set_append_left _ _ hj, ← List.append_assoc]
theorem flat3 (pre post : List (List Value)) (z : List Value) : (pre ++ [z] ++ post).flatten = pre.flatten ++ z ++ post.flatten := by simp
theorem rep_flat (z : List Value) (n k : Nat) (h : k < n) : List.replicate (n - k) z = [z] ++ List.replicate (n - (k + 1)) z := by
  rw [show n - k = (n - (k + 1)) + 1 by omega, List.replicate_succ]; rfl
theorem made_flat (z : Array Value) (K n : Nat) (hz : z.size = K) (hK : 0 < K) : (madeCells z (n * K)).toList = (List.replicate n z.toList).flatten := by
  have hlen : ∀ r ∈ List.replicate n z.toList, r.length = K := by intro r hr; rw [List.eq_of_mem_replicate hr]; simpa using hz
  apply List.ext_getElem?
  intro j
  by_cases hj : j < n * K
  · have hi : j / K < n := (Nat.div_lt_iff_lt_mul hK).2 hj
    have hm : j % K < K := Nat.mod_lt _ hK
    have h1 := flat_at K (List.replicate n z.toList) hlen (j / K) z.toList (by simp [hi]) (j % K) (z[j % K]'(by omega)) (by simp [hz, hm])
    rw [show j / K * K + j % K = j by rw [Nat.mul_comm]; exact Nat.div_add_mod j K] at h1
    rw [h1]
    unfold madeCells
    simp [hj, hz, hm, getElem!_pos]
  · rw [List.getElem?_eq_none (by rw [Array.length_toList, size_madeCells]; omega), List.getElem?_eq_none (by rw [flat_len K _ hlen, List.length_replicate]; omega)]

section
variable {w : World} {base g n c : Nat} {E : TypeId} {pre post : List (List Value)}
theorem row2 {z0 z1 : Value} (v0 v1 : Value) (hpre : ∀ r ∈ pre, r.length = 2) (k : Nat) (hk : pre.length = k) (h : w.ownsRow base E 2 (.slice (some ⟨g, 0, none⟩) n c) n (pre ++ [[z0, z1]] ++ post).flatten) :
    ((w.setCell ⟨g, k * 2, none⟩ v0).setCell ⟨g, k * 2 + 1, none⟩ v1).ownsRow base E 2 (.slice (some ⟨g, 0, none⟩) n c) n (pre ++ [[v0, v1]] ++ post).flatten := by
  have hl : pre.flatten.length = k * 2 := by rw [flat_len 2 pre hpre, hk]
  have h1 := (World.ownsRow.stored (h := h) (k * 2) v0).1
  rw [flat3, show k * 2 = k * 2 + 0 from rfl, set_mid _ _ _ _ 0 hl (by simp)] at h1
  have h2 := (World.ownsRow.stored (h := h1) (k * 2 + 1) v1).1
  rw [set_mid _ _ _ _ 1 hl (by simp)] at h2
  rw [flat3]; exact h2
theorem row3 {z0 z1 z2 : Value} (v0 v1 v2 : Value) (hpre : ∀ r ∈ pre, r.length = 3) (k : Nat) (hk : pre.length = k) (h : w.ownsRow base E 3 (.slice (some ⟨g, 0, none⟩) n c) n (pre ++ [[z0, z1, z2]] ++ post).flatten) :
    (((w.setCell ⟨g, k * 3, none⟩ v0).setCell ⟨g, k * 3 + 1, none⟩ v1).setCell ⟨g, k * 3 + 2, none⟩ v2).ownsRow base E 3 (.slice (some ⟨g, 0, none⟩) n c) n (pre ++ [[v0, v1, v2]] ++ post).flatten := by
  have hl : pre.flatten.length = k * 3 := by rw [flat_len 3 pre hpre, hk]
  have h1 := (World.ownsRow.stored (h := h) (k * 3) v0).1
  rw [flat3, show k * 3 = k * 3 + 0 from rfl, set_mid _ _ _ _ 0 hl (by simp)] at h1
  have h2 := (World.ownsRow.stored (h := h1) (k * 3 + 1) v1).1
  rw [set_mid _ _ _ _ 1 hl (by simp)] at h2
  have h3 := (World.ownsRow.stored (h := h2) (k * 3 + 2) v2).1
  rw [set_mid _ _ _ _ 2 hl (by simp)] at h3
  rw [flat3]; exact h3
theorem row4 {z0 z1 z2 z3 : Value} (v0 v1 v2 v3 : Value) (hpre : ∀ r ∈ pre, r.length = 4) (k : Nat) (hk : pre.length = k) (h : w.ownsRow base E 4 (.slice (some ⟨g, 0, none⟩) n c) n (pre ++ [[z0, z1, z2, z3]] ++ post).flatten) :
    ((((w.setCell ⟨g, k * 4, none⟩ v0).setCell ⟨g, k * 4 + 1, none⟩ v1).setCell ⟨g, k * 4 + 2, none⟩ v2).setCell ⟨g, k * 4 + 3, none⟩ v3).ownsRow base E 4 (.slice (some ⟨g, 0, none⟩) n c) n (pre ++ [[v0, v1, v2, v3]] ++ post).flatten := by
  have hl : pre.flatten.length = k * 4 := by rw [flat_len 4 pre hpre, hk]
  have h1 := (World.ownsRow.stored (h := h) (k * 4) v0).1
  rw [flat3, show k * 4 = k * 4 + 0 from rfl, set_mid _ _ _ _ 0 hl (by simp)] at h1
  have h2 := (World.ownsRow.stored (h := h1) (k * 4 + 1) v1).1
  rw [set_mid _ _ _ _ 1 hl (by simp)] at h2
  have h3 := (World.ownsRow.stored (h := h2) (k * 4 + 2) v2).1
  rw [set_mid _ _ _ _ 2 hl (by simp)] at h3
  have h4 := (World.ownsRow.stored (h := h3) (k * 4 + 3) v3).1
  rw [set_mid _ _ _ _ 3 hl (by simp)] at h4
  rw [flat3]; exact h4
/-- a cell of an own row is there -/
theorem own_there {K : Nat} {xs : List Value} (h : w.ownsRow base E K (.slice (some ⟨g, 0, none⟩) n c) n xs) (j : Nat) (hj : j < n * K) : ∃ u, w.cell? ⟨g, j, none⟩ = some u := by
  rw [World.ownsRow.cellAt (h := h) j hj]
  exact ⟨_, List.getElem?_eq_getElem (by rw [h.1]; exact hj)⟩
theorem own_belowK {w' : World} {B K : Nat} {v : Value} {xs : List Value} (h : w.ownsRow base E K v n xs) (hB : w.heap.size ≤ B) (hb : Below B w w') : w'.ownsRow base E K v n xs := by
  refine ⟨h.1, ?_⟩
  rcases h.2 with h0 | ⟨g, cap, cur, hv, hbb, hg, rest⟩
  · exact .inl h0
  · have hlt : g < w.heap.size := (Array.getElem?_eq_some_iff.1 hg).1
    exact .inr ⟨g, cap, cur, hv, hbb, by rw [hb.block g (by omega)]; exact hg, rest⟩
end

set_option maxRecDepth 100000 in
set_option maxHeartbeats 800000 in
theorem toLink_any (nm : ByteArray) (id : Int) (w : World) :
    Calls Tryz.prog 59 #[.agg #[.string nm, .int .i64 id]] w fun e w' => e = .returned (.agg #[.string nm, .int .i64 id]) ∧ Below w.heap.size w w' := by
  go_enter Tryz.func59, Tryz.ntmps59
  go_wp2_with fail
  exact bodyPost_ret (v := .agg #[.string nm, .int .i64 id]) (by simp [results, Tryz.results59, go_sem]) rfl ⟨rfl, (((Below.refl _ _).alloc (Nat.le_refl _) _).alloc (by simp) _).alloc (by simp; omega) _⟩

set_option maxRecDepth 100000 in
set_option maxHeartbeats 800000 in
theorem toTurn_any (kind : Int) (nm to_ : ByteArray) (id : Int) (w : World) :
    Calls Tryz.prog 60 #[.agg #[.int .i64 kind, .string nm, .string to_, .int .i64 id]] w fun e w' => e = .returned (.agg #[.int .i64 kind, .string nm, .string to_, .int .i64 id]) ∧ Below w.heap.size w w' := by
  go_enter Tryz.func60, Tryz.ntmps60
  go_wp2_with fail
  exact bodyPost_ret (v := .agg #[.int .i64 kind, .string nm, .string to_, .int .i64 id]) (by simp [results, Tryz.results60, go_sem]) rfl ⟨rfl, (((Below.refl _ _).alloc (Nat.le_refl _) _).alloc (by simp) _).alloc (by simp; omega) _⟩

set_option maxRecDepth 100000 in
set_option maxHeartbeats 1600000 in
theorem toFile_any (id safe : Int) (A : Option Addr) (n c : Nat) (zs : List Int) (w : World) (hr : Rd w w.heap.size A zs) (hl : zs.length = n) (hn : n ≤ 1099511627776) :
    Calls Tryz.prog 58 #[.agg #[.int .i64 id, .slice A n c, .int .i64 safe]] w
      fun e w' => ∃ A' c', e = .returned (.agg #[.int .i64 id, .slice A' n c', .int .i64 safe]) ∧ Own w' w.heap.size A' n c' zs ∧ Below w.heap.size w w' := by
  have HR := Lib.hid hr
  have HL := Lib.hid hl
  clear hr hl
  have hb0 := Lib.hid ((((Below.refl w.heap.size w).alloc (Nat.le_refl _) (.cells #[.int .i64 id, .slice A n c, .int .i64 safe] 79)).alloc (by simp) (.cells #[.int .i64 0, .slice none 0 0, .int .i64 0] 58)).alloc (by simp; omega) (.cells #[.int .i64 id, .slice none 0 0, .int .i64 0] 58))
  go_enter Tryz.func58, Tryz.ntmps58
  go_wp2_with fail
  refine (toByteS_any A n c zs _ ((HR.out.below (Nat.le_refl _) hb0.out).more (by simp; omega)) HL.out (by omega)).mono ?_
  rintro e v1 ⟨A1, c1, rfl, ho1, hb1⟩
  have HO := Lib.hid ho1
  have HB1 := Lib.hid hb1
  obtain ⟨hc, hf⟩ := bcell hb1
  have hz : w.heap.size + 2 < v1.heap.size := by have := hb1.size; simp at this; omega
  clear ho1 hb1
  have s1 : w.heap.size < w.heap.size + 1 + 1 + 1 := by omega
  have s2 : w.heap.size + 1 < w.heap.size + 1 + 1 + 1 := by omega
  go_wp2_with fail
  refine bodyPost_ret (v := .agg #[.int .i64 id, .slice A1 n c1, .int .i64 safe]) (by simp [results, Tryz.results58, go_sem, hc]) rfl ⟨A1, c1, rfl, ?_, ?_⟩
  · have h0 := HO.out.more (base' := w.heap.size + 3) (by simp)
    have h1 := OpOk.own_set (OpOk.own_set (OpOk.own_set (OpOk.own_set (OpOk.own_set h0 (w.heap.size + 1 + 1) 1 (.slice A1 n c1) (by omega)) (w.heap.size + 1 + 1) 2 (.int .i64 safe) (by omega)) (w.heap.size + 1) 0 (.int .i64 id) (by omega)) (w.heap.size + 1) 1 (.slice A1 n c1) (by omega)) (w.heap.size + 1) 2 (.int .i64 safe) (by omega)
    exact h1.more (by omega)
  · have h0 := hb0.out.trans (HB1.out.mono (by simp; omega))
    exact ((((h0.setCell (by simp; omega) _).setCell (by simp; omega) _).setCell (by simp) _).setCell (by simp) _).setCell (by simp) _

/-! ### the slices -/
theorem linkInfo' : (Tryz.prog.info? 86).map (fun i => (i.zero, i.size, i.bytes)) = some (some (.agg #[.string ByteArray.empty, .int .i64 0]), 2, 24) := by kernel_rfl
theorem turnInfo : (Tryz.prog.info? 60).map (fun i => (i.zero, i.size, i.bytes)) = some (some (.agg #[.int .i64 0, .string ByteArray.empty, .string ByteArray.empty, .int .i64 0]), 4, 48) := by kernel_rfl
theorem fileInfo : (Tryz.prog.info? 58).map (fun i => (i.zero, i.size, i.bytes)) = some (some (.agg #[.int .i64 0, .slice none 0 0, .int .i64 0]), 3, 40) := by kernel_rfl
def zL : List Value := [.string ByteArray.empty, .int .i64 0]
def zT : List Value := [.int .i64 0, .string ByteArray.empty, .string ByteArray.empty, .int .i64 0]
def zF : List Value := [.int .i64 0, .slice none 0 0, .int .i64 0]
def partL (ks : List LinkD) (n k : Nat) : List Value := ((ks.take k).map linkR ++ List.replicate (n - k) zL).flatten
def partT (ts : List TurnD) (n k : Nat) : List Value := ((ts.take k).map turnR ++ List.replicate (n - k) zT).flatten
def partF (gs : List FileD) (n k : Nat) : List Value := (gs.map fileR ++ List.replicate (n - k) zF).flatten
theorem turn_len : ∀ (ks : List TurnD), ∀ r ∈ ks.map turnR, r.length = 4 := by
  intro ks r hr; simp at hr; obtain ⟨_, _, rfl⟩ := hr; rfl
theorem file_len : ∀ (ks : List FileD), ∀ r ∈ ks.map fileR, r.length = 3 := by
  intro ks r hr; simp at hr; obtain ⟨_, _, rfl⟩ := hr; rfl

set_option maxRecDepth 100000 in
set_option maxHeartbeats 1600000 in
theorem toLinkS_any (K : Option Addr) (n c : Nat) (ks : List LinkD) (w : World) (hr : RdL w w.heap.size K ks) (hl : ks.length = n) (hn : n ≤ 2097152) :
    Calls Tryz.prog 29 #[.slice K n c] w fun e w' => ∃ A' c', e = .returned (.slice A' n c') ∧ OwnL w' w.heap.size A' n c' ks ∧ Below w.heap.size w w' := by
  obtain ⟨i0, hi, hz0, hz1, hz2⟩ := info_parts linkInfo'
  have hm : n ≤ maxLen := by unfold maxLen; omega
  have HL := Lib.hid hl
  have HR := Lib.hid hr
  clear hl hr
  go_enter Tryz.func29, Tryz.ntmps29
  go_wp2_with (at_make; refine wpList_make_full _ rfl _ _ 33 rfl w.heap.size 86 i0 (.agg #[.string ByteArray.empty, .int .i64 0]) 2 Tryz.underlying33 hi hz0 hz1 _ _ _ _ n rfl rfl rfl rfl ?c1 hm (Nat.le_refl _) ?_)
  case c1 => rw [hz2]; omega
  intro w1 hown hgrow
  have hown' : w1.ownsRow w.heap.size 86 2 (.slice (some ⟨w.heap.size, 0, none⟩) n n) n (partL ks n 0) := by
    rw [made_flat _ 2 n rfl (by omega)] at hown
    exact hown
  have hb1 : Below w.heap.size w w1 := (Below.refl _ _).grown hgrow (Nat.le_refl _) (by simp)
  clear hown hgrow
  go_wp2_with fail
  go_loopw [4] (fun i wr => ∃ k : Nat, k ≤ n ∧ i = .int .i64 k ∧ wr.ownsRow w.heap.size 86 2 (.slice (some ⟨w.heap.size, 0, none⟩) n n) n (partL ks n k) ∧ Below w.heap.size w wr) (fun i _ => n - (intOf i).toNat)
  case atStart => exact ⟨0, Nat.zero_le _, rfl, hown', hb1⟩
  case round =>
    obtain ⟨k, hk, rfl, ho, hb⟩ := hrel
    clear hown' hb1
    have hz : w.heap.size ≤ wr.heap.size := hb.size
    by_cases hlt : k < n
    · have hlt' : k < ks.length := by rw [HL.out]; exact hlt
      obtain ⟨b, o, rfl, hB, hc0, hc1⟩ := (HR.out.below (Nat.le_refl _) hb).at_ hlt'
      have HB := Lib.hid hb
      have HPN := Lib.hid (show partL ks n (k + 1) = ((ks.take k).map linkR ++ [[Value.string ks[k].1, Value.int .i64 ks[k].2]] ++ List.replicate (n - (k + 1)) zL).flatten by
        unfold partL; rw [List.take_succ_eq_append_getElem hlt', List.map_append]; rfl)
      have HPO := Lib.hid (show partL ks n k = ((ks.take k).map linkR ++ [[Value.string ByteArray.empty, Value.int .i64 0]] ++ List.replicate (n - (k + 1)) zL).flatten by
        unfold partL; rw [rep_flat zL n k hlt, ← List.append_assoc]; rfl)
      have HKL := Lib.hid (show ((ks.take k).map linkR).length = k by rw [List.length_map, List.length_take]; omega)
      have HO := Lib.hid ho
      clear hb ho
      generalize ks[k].1 = x0 at *
      generalize ks[k].2 = x1 at *
      go_wp2_with fail
      refine (toLink_any x0 x1 _).mono ?_
      rintro e v ⟨rfl, hb1⟩
      have HOv := Lib.hid (own_belowK HO.out (Nat.le_refl _) hb1)
      have HBv := Lib.hid (HB.out.trans (hb1.mono hz))
      obtain ⟨u0, hu0⟩ := own_there HOv.out (k * 2) (by omega)
      obtain ⟨u1, hu1⟩ := own_there HOv.out (k * 2 + 1) (by omega)
      have hf0 := World.ownsRow.frozenAt (h := HOv.out) (k * 2)
      have hf1 := World.ownsRow.frozenAt (h := HOv.out) (k * 2 + 1)
      have HN := Lib.hid (show ((v.setCell ⟨w.heap.size, k * 2, none⟩ (.string x0)).setCell ⟨w.heap.size, k * 2 + 1, none⟩ (.int .i64 x1)).ownsRow w.heap.size 86 2 (.slice (some ⟨w.heap.size, 0, none⟩) n n) n (partL ks n (k + 1)) by
        rw [HPN.out]; have h := HOv.out; rw [HPO.out] at h; exact row2 _ _ (link_len _) k HKL.out h)
      clear hb1
      go_wp2_with fail
      exact ⟨⟨k + 1, by omega, by go_num, HN.out, (HBv.out.setCell (Nat.le_refl _) _).setCell (Nat.le_refl _) _⟩, by simp [intOf]; omega⟩
    · obtain rfl : n = k := by omega
      have e : partL ks n n = (ks.map linkR).flatten := by
        unfold partL; rw [List.take_of_length_le (by rw [HL.out]; exact Nat.le_refl _)]; simp
      rw [e] at ho
      go_wp2_with fail
      go_ret
      exact ⟨_, _, rfl, ho, hb⟩
def OwnT (w : World) (base : Nat) (A : Option Addr) (n c : Nat) (ks : List TurnD) : Prop := w.ownsRow base 60 4 (.slice A n c) n (ks.map turnR).flatten
theorem OwnT.rd {w : World} {base : Nat} {A : Option Addr} {n c : Nat} {ks : List TurnD} (h : OwnT w base A n c ks) : RdT w w.heap.size A ks := own_rdK (turn_len ks) (by omega) h

set_option maxRecDepth 100000 in
set_option maxHeartbeats 1600000 in
theorem toTurnS_any (K : Option Addr) (n c : Nat) (ks : List TurnD) (w : World) (hr : RdT w w.heap.size K ks) (hl : ks.length = n) (hn : n ≤ 2097152) :
    Calls Tryz.prog 30 #[.slice K n c] w fun e w' => ∃ A' c', e = .returned (.slice A' n c') ∧ OwnT w' w.heap.size A' n c' ks ∧ Below w.heap.size w w' := by
  obtain ⟨i0, hi, hz0, hz1, hz2⟩ := info_parts turnInfo
  have hm : n ≤ maxLen := by unfold maxLen; omega
  have HL := Lib.hid hl
  have HR := Lib.hid hr
  clear hl hr
  go_enter Tryz.func30, Tryz.ntmps30
  go_wp2_with (at_make; refine wpList_make_full _ rfl _ _ 34 rfl w.heap.size 60 i0 (.agg #[.int .i64 0, .string ByteArray.empty, .string ByteArray.empty, .int .i64 0]) 4 Tryz.underlying34 hi hz0 hz1 _ _ _ _ n rfl rfl rfl rfl ?c1 hm (Nat.le_refl _) ?_)
  case c1 => rw [hz2]; omega
  intro w1 hown hgrow
  have hown' : w1.ownsRow w.heap.size 60 4 (.slice (some ⟨w.heap.size, 0, none⟩) n n) n (partT ks n 0) := by
    rw [made_flat _ 4 n rfl (by omega)] at hown
    exact hown
  have hb1 : Below w.heap.size w w1 := (Below.refl _ _).grown hgrow (Nat.le_refl _) (by simp)
  clear hown hgrow
  go_wp2_with fail
  go_loopw [4] (fun i wr => ∃ k : Nat, k ≤ n ∧ i = .int .i64 k ∧ wr.ownsRow w.heap.size 60 4 (.slice (some ⟨w.heap.size, 0, none⟩) n n) n (partT ks n k) ∧ Below w.heap.size w wr) (fun i _ => n - (intOf i).toNat)
  case atStart => exact ⟨0, Nat.zero_le _, rfl, hown', hb1⟩
  case round =>
    obtain ⟨k, hk, rfl, ho, hb⟩ := hrel
    clear hown' hb1
    have hz : w.heap.size ≤ wr.heap.size := hb.size
    by_cases hlt : k < n
    · have hlt' : k < ks.length := by rw [HL.out]; exact hlt
      obtain ⟨b, o, rfl, hB, hc0, hc1, hc2, hc3⟩ := (HR.out.below (Nat.le_refl _) hb).at_ hlt'
      have HB := Lib.hid hb
      have HPN := Lib.hid (show partT ks n (k + 1) = ((ks.take k).map turnR ++ [[Value.int .i64 ks[k].kind, Value.string ks[k].name, Value.string ks[k].to_, Value.int .i64 ks[k].id]] ++ List.replicate (n - (k + 1)) zT).flatten by
        unfold partT; rw [List.take_succ_eq_append_getElem hlt', List.map_append]; rfl)
      have HPO := Lib.hid (show partT ks n k = ((ks.take k).map turnR ++ [[Value.int .i64 0, Value.string ByteArray.empty, Value.string ByteArray.empty, Value.int .i64 0]] ++ List.replicate (n - (k + 1)) zT).flatten by
        unfold partT; rw [rep_flat zT n k hlt, ← List.append_assoc]; rfl)
      have HKL := Lib.hid (show ((ks.take k).map turnR).length = k by rw [List.length_map, List.length_take]; omega)
      have HO := Lib.hid ho
      clear hb ho
      generalize ks[k].kind = x0 at *
      generalize ks[k].name = x1 at *
      generalize ks[k].to_ = x2 at *
      generalize ks[k].id = x3 at *
      go_wp2_with fail
      refine (toTurn_any x0 x1 x2 x3 _).mono ?_
      rintro e v ⟨rfl, hb1⟩
      have HOv := Lib.hid (own_belowK HO.out (Nat.le_refl _) hb1)
      have HBv := Lib.hid (HB.out.trans (hb1.mono hz))
      obtain ⟨u0, hu0⟩ := own_there HOv.out (k * 4) (by omega)
      obtain ⟨u1, hu1⟩ := own_there HOv.out (k * 4 + 1) (by omega)
      obtain ⟨u2, hu2⟩ := own_there HOv.out (k * 4 + 2) (by omega)
      obtain ⟨u3, hu3⟩ := own_there HOv.out (k * 4 + 3) (by omega)
      have hf0 := World.ownsRow.frozenAt (h := HOv.out) (k * 4)
      have hf1 := World.ownsRow.frozenAt (h := HOv.out) (k * 4 + 1)
      have hf2 := World.ownsRow.frozenAt (h := HOv.out) (k * 4 + 2)
      have hf3 := World.ownsRow.frozenAt (h := HOv.out) (k * 4 + 3)
      have HN := Lib.hid (show ((((v.setCell ⟨w.heap.size, k * 4, none⟩ (.int .i64 x0)).setCell ⟨w.heap.size, k * 4 + 1, none⟩ (.string x1)).setCell ⟨w.heap.size, k * 4 + 2, none⟩ (.string x2)).setCell ⟨w.heap.size, k * 4 + 3, none⟩ (.int .i64 x3)).ownsRow w.heap.size 60 4 (.slice (some ⟨w.heap.size, 0, none⟩) n n) n (partT ks n (k + 1)) by
        rw [HPN.out]; have h := HOv.out; rw [HPO.out] at h; exact row4 _ _ _ _ (turn_len _) k HKL.out h)
      clear hb1
      go_wp2_with fail
      exact ⟨⟨k + 1, by omega, by go_num, HN.out, (((HBv.out.setCell (Nat.le_refl _) _).setCell (Nat.le_refl _) _).setCell (Nat.le_refl _) _).setCell (Nat.le_refl _) _⟩, by simp [intOf]; omega⟩
    · obtain rfl : n = k := by omega
      have e : partT ks n n = (ks.map turnR).flatten := by
        unfold partT; rw [List.take_of_length_le (by rw [HL.out]; exact Nat.le_refl _)]; simp
      rw [e] at ho
      go_wp2_with fail
      go_ret
      exact ⟨_, _, rfl, ho, hb⟩
/-! ### files -/
def OwnF (w : World) (base : Nat) (A : Option Addr) (n c : Nat) (gs : List FileD) : Prop := w.ownsRow base 58 3 (.slice A n c) n (gs.map fileR).flatten
theorem OwnF.rd {w : World} {base : Nat} {A : Option Addr} {n c : Nat} {gs : List FileD} (h : OwnF w base A n c gs) : RdF w w.heap.size A gs := own_rdK (file_len gs) (by omega) h
theorem own_setK {w : World} {base K n : Nat} {E : TypeId} {v : Value} {xs : List Value} (h : w.ownsRow base E K v n xs) (b i : Nat) (x : Value) (hb : b < base) : (w.setCell ⟨b, i, none⟩ x).ownsRow base E K v n xs := by
  refine World.ownsRow.kept h (Go.Lib.grownBy_setCell w b i x) ?_
  rcases hv : v.ownBlock with _ | g
  · exact .inl rfl
  · refine .inr fun e => ?_
    have := (World.ownsRow.lt h g hv).1
    injection e with e; omega
theorem own_set7 {w : World} {base K n : Nat} {E : TypeId} {v : Value} {xs : List Value} {b c : Nat} (h : w.ownsRow base E K v n xs) (hb : b < base) (hc : c < base) (x0 x1 x2 x3 x4 x5 x6 : Value) :
    (((((((w.setCell ⟨b, 5, none⟩ x0).setCell ⟨c, 0, none⟩ x1).setCell ⟨c, 1, none⟩ x2).setCell ⟨c, 2, none⟩ x3).setCell ⟨c, 3, none⟩ x4).setCell ⟨c, 4, none⟩ x5).setCell ⟨c, 5, none⟩ x6).ownsRow base E K v n xs :=
  own_setK (own_setK (own_setK (own_setK (own_setK (own_setK (own_setK h b 5 x0 hb) c 0 x1 hc) c 1 x2 hc) c 2 x3 hc) c 3 x4 hc) c 4 x5 hc) c 5 x6 hc
theorem own_moreK {w : World} {base base' K n : Nat} {E : TypeId} {v : Value} {xs : List Value} (h : w.ownsRow base E K v n xs) (hB : base' ≤ base) : w.ownsRow base' E K v n xs := by
  refine ⟨h.1, ?_⟩
  rcases h.2 with h0 | ⟨g, cap, cur, hv, hbb, rest⟩
  · exact .inl h0
  · exact .inr ⟨g, cap, cur, hv, by omega, rest⟩
/-- two slices that share no block -/
def Sep (a b : FileD) : Prop := ∀ g, (Value.slice a.A a.n a.c).ownBlock = some g → (Value.slice b.A b.n b.c).ownBlock ≠ some g
/-- the bodies of files: each the call's own, no two on one block -/
def OwnBs (w : World) (base : Nat) (gs : List FileD) : Prop := (∀ f ∈ gs, Own w base f.A f.n f.c f.bytes) ∧ gs.Pairwise Sep
def keyF (f : FileD) : Int × Nat × Int × List Int := (f.id, f.n, f.safe, f.bytes)
theorem OwnBs.below {w w' : World} {base B : Nat} {gs : List FileD} (h : OwnBs w base gs) (hB : w.heap.size ≤ B) (hb : Below B w w') : OwnBs w' base gs := ⟨fun f hf => (h.1 f hf).below hB hb, h.2⟩
theorem OwnBs.set_ {w : World} {base : Nat} {gs : List FileD} (h : OwnBs w base gs) (b i : Nat) (v : Value) (hb : b < base) : OwnBs (w.setCell ⟨b, i, none⟩ v) base gs := ⟨fun f hf => OpOk.own_set (h.1 f hf) b i v hb, h.2⟩
theorem OwnBs.rdB {w : World} {base : Nat} {gs : List FileD} (h : OwnBs w base gs) : RdB w w.heap.size gs := fun f hf => ⟨(h.1 f hf).rd, (h.1 f hf).len⟩
theorem same_of_keys {fs gs : List FileD} (h : gs.map keyF = fs.map keyF) : SameF fs gs := by
  have hl : gs.length = fs.length := by have := congrArg List.length h; simpa using this
  refine ⟨hl, fun i h1 h2 => ?_⟩
  have := congrArg (fun l => l[i]?) h
  simp only [List.getElem?_map, List.getElem?_eq_getElem h1, List.getElem?_eq_getElem h2, Option.map_some, Option.some.injEq] at this
  unfold keyF at this
  simp only [Prod.mk.injEq] at this
  exact ⟨this.1, this.2.1, this.2.2.1, this.2.2.2⟩

set_option maxRecDepth 100000 in
set_option maxHeartbeats 3200000 in
theorem toFileS_any (F : Option Addr) (n c : Nat) (fs : List FileD) (w : World) (hr : RdF w w.heap.size F fs) (hl : fs.length = n) (hn : n ≤ 2097152) (hrb : RdB w w.heap.size fs) (hfn : ∀ f ∈ fs, f.n ≤ 1099511627776) :
    Calls Tryz.prog 28 #[.slice F n c] w fun e w' => ∃ A' c' gs, e = .returned (.slice A' n c') ∧ OwnF w' w.heap.size A' n c' gs ∧ gs.map keyF = fs.map keyF ∧ OwnBs w' w.heap.size gs ∧ Below w.heap.size w w' := by
  obtain ⟨i0, hi, hz0, hz1, hz2⟩ := info_parts fileInfo
  have hm : n ≤ maxLen := by unfold maxLen; omega
  have HL := Lib.hid hl
  have HR := Lib.hid hr
  have HRB := Lib.hid hrb
  have HFN := Lib.hid hfn
  clear hl hr hrb hfn
  go_enter Tryz.func28, Tryz.ntmps28
  go_wp2_with (at_make; refine wpList_make_full _ rfl _ _ 32 rfl w.heap.size 58 i0 (.agg #[.int .i64 0, .slice none 0 0, .int .i64 0]) 3 Tryz.underlying32 hi hz0 hz1 _ _ _ _ n rfl rfl rfl rfl ?c1 hm (Nat.le_refl _) ?_)
  case c1 => rw [hz2]; omega
  intro w1 hown hgrow
  have hown' : w1.ownsRow w.heap.size 58 3 (.slice (some ⟨w.heap.size, 0, none⟩) n n) n (partF [] n 0) := by
    rw [made_flat _ 3 n rfl (by omega)] at hown
    exact hown
  have hb1 : Below w.heap.size w w1 := (Below.refl _ _).grown hgrow (Nat.le_refl _) (by simp)
  have hz1' : w.heap.size < w1.heap.size := by
    rcases hown'.2 with ⟨h, _⟩ | ⟨g, cap, cur, h, _, hg, _⟩
    · cases h
    · injection h with h; injection h with h; injection h with h; subst h; exact (Array.getElem?_eq_some_iff.1 hg).1
  clear hown hgrow
  go_wp2_with fail
  go_loopw [4] (fun i wr => ∃ (k : Nat) (gs : List FileD), k ≤ n ∧ i = .int .i64 k ∧ wr.ownsRow w.heap.size 58 3 (.slice (some ⟨w.heap.size, 0, none⟩) n n) n (partF gs n k) ∧ Hid (gs.map keyF = (fs.take k).map keyF) ∧ OwnBs wr (w.heap.size + 1) gs ∧ Below w.heap.size w wr ∧ w.heap.size < wr.heap.size) (fun i _ => n - (intOf i).toNat)
  case atStart => exact ⟨0, [], Nat.zero_le _, rfl, hown', Lib.hid rfl, ⟨(fun f hf => by cases hf), List.Pairwise.nil⟩, hb1, hz1'⟩
  case round =>
    obtain ⟨k, gs, hk, rfl, ho, HK, hbs, hb, hzr⟩ := hrel
    clear hown' hb1 hz1'
    have hz : w.heap.size ≤ wr.heap.size := hb.size
    by_cases hlt : k < n
    · have hlt' : k < fs.length := by rw [HL.out]; exact hlt
      obtain ⟨b, o, rfl, hB, hc0, hc1, hc2⟩ := (HR.out.below (Nat.le_refl _) hb).at_ hlt'
      have HB := Lib.hid hb
      have HBS := Lib.hid hbs
      have hRb := HRB.out _ (List.getElem_mem hlt')
      have HRb := Lib.hid ((hRb.1.below (Nat.le_refl _) hb).more hz)
      have HRl := Lib.hid hRb.2
      have hRn := HFN.out _ (List.getElem_mem hlt')
      have HGL := Lib.hid (show (gs.map fileR).length = k by
        have := congrArg List.length HK.out
        rw [List.length_map, List.length_map, List.length_take] at this
        rw [List.length_map]; omega)
      have HPO := Lib.hid (show partF gs n k = (gs.map fileR ++ [[Value.int .i64 0, Value.slice none 0 0, Value.int .i64 0]] ++ List.replicate (n - (k + 1)) zF).flatten by
        unfold partF; rw [rep_flat zF n k hlt, ← List.append_assoc]; rfl)
      have HKN := Lib.hid (show (fs.take (k + 1)).map keyF = (fs.take k).map keyF ++ [(fs[k].id, fs[k].n, fs[k].safe, fs[k].bytes)] by
        rw [List.take_succ_eq_append_getElem hlt', List.map_append]; rfl)
      have HO := Lib.hid ho
      clear hb ho hbs hRb
      generalize fs[k].id = x0 at *
      generalize fs[k].A = x1 at *
      generalize fs[k].n = x2 at *
      generalize fs[k].c = x3 at *
      generalize fs[k].safe = x4 at *
      generalize fs[k].bytes = zs at *
      go_wp2_with fail
      refine (toFile_any x0 x4 x1 x2 x3 zs _ HRb.out HRl.out hRn).mono ?_
      rintro e v ⟨A2, c2, rfl, ho2, hb1⟩
      have HOv := Lib.hid (own_belowK HO.out (Nat.le_refl _) hb1)
      have HBv := Lib.hid (HB.out.trans (hb1.mono hz))
      have hzv : w.heap.size < v.heap.size := by have := hb1.size; omega
      have HBSv := Lib.hid (show OwnBs v (w.heap.size + 1) (gs ++ [⟨x0, A2, x2, c2, x4, zs⟩]) from ⟨fun f hf => by
        rcases List.mem_append.1 hf with hf | hf
        · exact (HBS.out.1 f hf).below (Nat.le_refl _) hb1
        · simp at hf; subst hf; exact ho2.more (by omega), List.pairwise_append.2 ⟨HBS.out.2, List.pairwise_singleton _ _, fun a ha b hb => by
          rw [List.mem_singleton] at hb; subst hb; exact (HBS.out.1 a ha).ne_ ho2 (Nat.le_refl _)⟩⟩)
      obtain ⟨u0, hu0⟩ := own_there HOv.out (k * 3) (by omega)
      obtain ⟨u1, hu1⟩ := own_there HOv.out (k * 3 + 1) (by omega)
      obtain ⟨u2, hu2⟩ := own_there HOv.out (k * 3 + 2) (by omega)
      have hf0 := World.ownsRow.frozenAt (h := HOv.out) (k * 3)
      have hf1 := World.ownsRow.frozenAt (h := HOv.out) (k * 3 + 1)
      have hf2 := World.ownsRow.frozenAt (h := HOv.out) (k * 3 + 2)
      have HN := Lib.hid (show (((v.setCell ⟨w.heap.size, k * 3, none⟩ (.int .i64 x0)).setCell ⟨w.heap.size, k * 3 + 1, none⟩ (.slice A2 x2 c2)).setCell ⟨w.heap.size, k * 3 + 2, none⟩ (.int .i64 x4)).ownsRow w.heap.size 58 3 (.slice (some ⟨w.heap.size, 0, none⟩) n n) n (partF (gs ++ [⟨x0, A2, x2, c2, x4, zs⟩]) n (k + 1)) by
        have h := HOv.out; rw [HPO.out] at h
        have h2 := row3 (.int .i64 x0) (.slice A2 x2 c2) (.int .i64 x4) (file_len _) k HGL.out h
        unfold partF; rw [List.map_append]; exact h2)
      have HK2 := Lib.hid (show (gs ++ [(⟨x0, A2, x2, c2, x4, zs⟩ : FileD)]).map keyF = (fs.take (k + 1)).map keyF by rw [List.map_append, HK.out, HKN.out]; rfl)
      clear hb1 ho2
      go_wp2_with fail
      exact ⟨⟨k + 1, gs ++ [⟨x0, A2, x2, c2, x4, zs⟩], by omega, by go_num, HN.out, HK2, ((HBSv.out.set_ _ _ _ (by omega)).set_ _ _ _ (by omega)).set_ _ _ _ (by omega), ((HBv.out.setCell (Nat.le_refl _) _).setCell (Nat.le_refl _) _).setCell (Nat.le_refl _) _, by simp; exact hzv⟩, by simp [intOf]; omega⟩
    · obtain rfl : n = k := by omega
      have e : fs.take n = fs := List.take_of_length_le (by rw [HL.out]; exact Nat.le_refl _)
      have hK := HK.out
      rw [e] at hK
      have HK2 := Lib.hid hK
      have e2 : partF gs n n = (gs.map fileR).flatten := by unfold partF; simp
      rw [e2] at ho
      have HRF := Lib.hid (show OwnF wr w.heap.size (some ⟨w.heap.size, 0, none⟩) n n gs from ho)
      have HRBs := Lib.hid (show OwnBs wr w.heap.size gs from ⟨fun f hf => (hbs.1 f hf).more (by omega), hbs.2⟩)
      have HB := Lib.hid hb
      clear ho hbs hb hK e e2
      go_wp2_with fail
      go_ret
      exact ⟨_, _, gs, rfl, HRF.out, HK2.out, HRBs.out, HB.out⟩

set_option maxRecDepth 100000 in
set_option maxHeartbeats 6400000 in
theorem toDisk_any (room fuse next : Int) (F : Option Addr) (nf cf : Nat) (K : Option Addr) (nk ck : Nat) (T : Option Addr) (nt ct : Nat) (fs : List FileD) (ks : List LinkD) (ts : List TurnD) (w : World)
    (hf : RdF w w.heap.size F fs) (hfl : fs.length = nf) (hfn : nf ≤ 2097152) (hrb : RdB w w.heap.size fs) (hfs : ∀ f ∈ fs, f.n ≤ 1099511627776)
    (hk : RdL w w.heap.size K ks) (hkl : ks.length = nk) (hkn : nk ≤ 2097152) (ht : RdT w w.heap.size T ts) (htl : ts.length = nt) (htn : nt ≤ 2097152) :
    Calls Tryz.prog 7 #[.agg #[.int .i64 room, .int .i64 fuse, .int .i64 next, .slice F nf cf, .slice K nk ck, .slice T nt ct]] w fun e w' =>
      ∃ F' cf' K' ck' T' ct' gs, e = .returned (.agg #[.int .i64 room, .int .i64 fuse, .int .i64 next, .slice F' nf cf', .slice K' nk ck', .slice T' nt ct']) ∧
        OwnF w' w.heap.size F' nf cf' gs ∧ gs.map keyF = fs.map keyF ∧ OwnBs w' w.heap.size gs ∧ OwnL w' w.heap.size K' nk ck' ks ∧ OwnT w' w.heap.size T' nt ct' ts ∧ Below w.heap.size w w' := by
  have hb0 := Lib.hid ((((Below.refl w.heap.size w).alloc (Nat.le_refl _) (.cells #[.int .i64 room, .int .i64 fuse, .int .i64 next, .slice F nf cf, .slice K nk ck, .slice T nt ct] 26)).alloc (by simp) (.cells #[.int .i64 0, .int .i64 0, .int .i64 0, .slice none 0 0, .slice none 0 0, .slice none 0 0] 36)).alloc (by simp; omega) (.cells #[.int .i64 room, .int .i64 fuse, .int .i64 next, .slice none 0 0, .slice none 0 0, .slice none 0 0] 36))
  have HF := Lib.hid (fun W (h : Below w.heap.size w W) => toFileS_any F nf cf fs W ((hf.below (Nat.le_refl _) h).more h.size) hfl hfn ((hrb.below (Nat.le_refl _) h).more h.size) hfs)
  have HK := Lib.hid (fun W (h : Below w.heap.size w W) => toLinkS_any K nk ck ks W ((hk.below (Nat.le_refl _) h).more h.size) hkl hkn)
  have HT := Lib.hid (fun W (h : Below w.heap.size w W) => toTurnS_any T nt ct ts W ((ht.below (Nat.le_refl _) h).more h.size) htl htn)
  clear hf hfl hrb hfs hk hkl ht htl
  go_enter Tryz.func7, Tryz.ntmps7
  go_wp2_with fail
  refine (HF.out _ hb0.out).mono ?_
  rintro e v1 ⟨F', cf', gs, rfl, hoF, hkey, hoB, hb1⟩
  obtain ⟨hc1, hf1⟩ := bcell hb1
  have hz1 : w.heap.size + 1 + 1 < v1.heap.size := by have := hb1.size; simp at this; omega
  have hz1a : w.heap.size < v1.heap.size := by omega
  have hz1b : w.heap.size + 1 < v1.heap.size := by omega
  have s1 : w.heap.size < w.heap.size + 1 + 1 + 1 := by omega
  have s2 : w.heap.size + 1 < w.heap.size + 1 + 1 + 1 := by omega
  have HOF1 := Lib.hid (own_setK (own_moreK hoF (base' := w.heap.size + 3) (by simp)) (w.heap.size + 1 + 1) 3 (.slice F' nf cf') (by omega))
  have HOB1 := Lib.hid (OwnBs.set_ (show OwnBs v1 (w.heap.size + 3) gs from ⟨fun f hf => (hoB.1 f hf).more (by simp), hoB.2⟩) (w.heap.size + 1 + 1) 3 (.slice F' nf cf') (by omega))
  have HKEY := Lib.hid hkey
  have HB1 := Lib.hid ((hb0.out.trans (hb1.mono (by simp; omega))).setCell (p := ⟨w.heap.size + 1 + 1, 3, none⟩) (by simp; omega) (.slice F' nf cf'))
  clear hoF hkey hoB hb1
  go_wp2_with fail
  refine (HK.out _ HB1.out).mono ?_
  rintro e v2 ⟨K', ck', rfl, hoL, hb2⟩
  obtain ⟨hc2, hf2⟩ := bcell hb2
  have hz2 : w.heap.size + 1 + 1 < v2.heap.size := by have := hb2.size; simp at this; omega
  have hz2a : w.heap.size < v2.heap.size := by omega
  have hz2b : w.heap.size + 1 < v2.heap.size := by omega
  have HOF2 := Lib.hid (own_setK (own_belowK HOF1.out (Nat.le_refl _) hb2) (w.heap.size + 1 + 1) 4 (.slice K' nk ck') (by omega))
  have HOB2 := Lib.hid (OwnBs.set_ (HOB1.out.below (Nat.le_refl _) hb2) (w.heap.size + 1 + 1) 4 (.slice K' nk ck') (by omega))
  have HOL2 := Lib.hid (own_setK (own_moreK hoL (base' := w.heap.size + 3) (by simp; omega)) (w.heap.size + 1 + 1) 4 (.slice K' nk ck') (by omega))
  have HB2 := Lib.hid ((HB1.out.trans (hb2.mono (by simp; omega))).setCell (p := ⟨w.heap.size + 1 + 1, 4, none⟩) (by simp; omega) (.slice K' nk ck'))
  clear hoL hb2
  go_wp2_with fail
  refine (HT.out _ HB2.out).mono ?_
  rintro e v3 ⟨T', ct', rfl, hoT, hb3⟩
  obtain ⟨hc3, hf3⟩ := bcell hb3
  have hz3 : w.heap.size + 1 + 1 < v3.heap.size := by have := hb3.size; simp at this; omega
  have hz3a : w.heap.size < v3.heap.size := by omega
  have hz3b : w.heap.size + 1 < v3.heap.size := by omega
  have HOF3 := Lib.hid (own_belowK HOF2.out (Nat.le_refl _) hb3)
  have HOB3 := Lib.hid (HOB2.out.below (Nat.le_refl _) hb3)
  have HOL3 := Lib.hid (own_belowK HOL2.out (Nat.le_refl _) hb3)
  have HOT3 := Lib.hid (own_moreK hoT (base' := w.heap.size + 3) (by simp; omega))
  have HB3 := Lib.hid (HB2.out.trans (hb3.mono (by simp; omega)))
  clear hoT hb3
  go_wp2_with fail
  refine bodyPost_ret (v := .agg #[.int .i64 room, .int .i64 fuse, .int .i64 next, .slice F' nf cf', .slice K' nk ck', .slice T' nt ct']) (by simp [results, Tryz.results7, go_sem, hc3, hc2, hc1, hz2b, hz1b, s2]) rfl ⟨F', cf', K', ck', T', ct', gs, rfl, ?_, HKEY.out, ?_, ?_, ?_, ?_⟩
  · exact own_moreK (own_set7 HOF3.out (by omega) (by omega) _ _ _ _ _ _ _) (by omega)
  · exact ⟨fun f hf => ((((((((HOB3.out.set_ (w.heap.size + 1 + 1) 5 (.slice T' nt ct') (by omega)).set_ (w.heap.size + 1) 0 (.int .i64 room) (by omega)).set_ (w.heap.size + 1) 1 (.int .i64 fuse) (by omega)).set_ (w.heap.size + 1) 2 (.int .i64 next) (by omega)).set_ (w.heap.size + 1) 3 (.slice F' nf cf') (by omega)).set_ (w.heap.size + 1) 4 (.slice K' nk ck') (by omega)).set_ (w.heap.size + 1) 5 (.slice T' nt ct') (by omega)).1 f hf).more (by omega), HOB3.out.2⟩
  · exact own_moreK (own_set7 HOL3.out (by omega) (by omega) _ _ _ _ _ _ _) (by omega)
  · exact own_moreK (own_set7 HOT3.out (by omega) (by omega) _ _ _ _ _ _ _) (by omega)
  · exact ((((((HB3.out.setCell (by simp; omega) _).setCell (by simp) _).setCell (by simp) _).setCell (by simp) _).setCell (by simp) _).setCell (by simp) _).setCell (by simp) _
end Go.Proofs.YtfkdfabbpebljaaGreat.DOk
