/- Contracts of marking a slice of strings and of finding the marks there; lengths at most 2^30. -/
import Derived.Test.YtcgcamhnebbalaaDoorStrs
import Derived.Deep.RegionWith
namespace Go.Proofs.YtcgcamhnebbalaaDoor.Strs
open Go.RowKit
set_option linter.unusedVariables false

def marks (n k : Nat) : List ByteArray := (List.range n).map fun i : Nat => mt (k + i)
def mpart (ss : List ByteArray) (n k i : Nat) : List ByteArray := (marks n k).take i ++ ss.drop i
theorem marks_len (n k : Nat) : (marks n k).length = n := by simp [marks]
theorem marks_at {n : Nat} (k : Nat) {i : Nat} (h : i < n) : at_ (marks n k) i = mt (k + i) := by simp [marks, at_, h]
theorem mpart_set {ss : List ByteArray} {n : Nat} (k : Nat) {i : Nat} (hl : ss.length = n) (h : i < n) : (mpart ss n k i).set i (mt (k + i)) = mpart ss n k (i + 1) := by
  have e : (marks n k)[i]'(by rw [marks_len]; exact h) = mt (k + i) := by simp [marks]
  unfold mpart
  rw [List.set_append_right _ _ (by simp only [List.length_take]; omega), show i - (List.take i (marks n k)).length = 0 from (by have := marks_len n k; simp only [List.length_take, this]; omega),
    List.drop_eq_getElem_cons (by omega), List.set_cons_zero, List.take_succ_eq_append_getElem (by rw [marks_len]; exact h), e, List.append_assoc]
  rfl
theorem mpart_end {ss : List ByteArray} {n : Nat} (k : Nat) (hl : ss.length = n) : mpart ss n k n = marks n k := by
  unfold mpart; rw [List.take_of_length_le (by rw [marks_len]; omega), List.drop_of_length_le (by omega), List.append_nil]

set_option maxRecDepth 100000 in
set_option maxHeartbeats 1600000 in
theorem mark_any (A : Option Addr) (n c base : Nat) (ss : List ByteArray) (k : Nat) (w : World) (ho : Own w base A n c ss) (hn : n ≤ 1073741824) (h0 : 1 ≤ k) (h1 : k ≤ 1073741824) :
    Calls Tryd.prog 20 #[.slice A n c, .int .i64 k] w fun e w' => e = .returned (.int .i64 ((k : Int) + n)) ∧ Own w' base A n c (marks n k) ∧ w.grownBy w' (Value.slice A n c).ownBlock := by
  have hl := Lib.hid ho.len
  go_enter Tryd.func20, Tryd.ntmps20
  go_wp2_with fail
  go_loopw [1, 5] (fun m i wr => ∃ t : Nat, t ≤ n ∧ i = .int .i64 t ∧ m = .int .i64 ((k : Int) + t) ∧ Own wr base A n c (mpart ss n k t) ∧ w.grownBy wr (Value.slice A n c).ownBlock) (fun _ i _ => n - (intOf i).toNat)
  case atStart => exact ⟨0, Nat.zero_le _, rfl, by go_num, by simpa [mpart] using ho, World.grownBy.refl _ _⟩
  case round =>
    obtain ⟨t, ht, rfl, rfl, ho, hg⟩ := hrel
    by_cases hlt : t < n
    · rw [show ((k : Int) + (t : Int)) = ((k + t : Nat) : Int) by omega]
      go_wp2_with fail
      refine (mark_text (k + t) _ (by omega) (by omega)).mono ?_
      rintro e w1 ⟨rfl, hb⟩
      have hgs := hg.size
      have ho1 := ho.below (Nat.le_refl _) hb
      have hg1 := grown_below hg hb hgs
      obtain ⟨g, rfl, hbg, hgl⟩ := ho1.head (by omega)
      obtain ⟨hc, hf⟩ := ho1.spot hlt
      have hs := ho1.stored t (mt (k + t))
      rw [mpart_set k hl.out hlt] at hs
      have HS := Lib.hid hs.1
      have HG := Lib.hid (grown_trans hg1 hs.2)
      clear hs hg ho ho1 hg1 hb
      generalize at_ (mpart ss n k t) t = z at *
      generalize mt (k + t) = y at *
      go_wp2_with fail
      exact ⟨⟨t + 1, by omega, by go_num, by go_num, HS.out, HG.out⟩, by simp [intOf]; omega⟩
    · obtain rfl : n = t := by omega
      rw [mpart_end k hl.out] at ho
      go_wp2_with fail
      go_ret
      exact ⟨ret_int rfl, ho, hg⟩

theorem bcell {W w1 : World} {B : Nat} (hb : Below B W w1) : (∀ b o, b < B → w1.cell? ⟨b, o, none⟩ = W.cell? ⟨b, o, none⟩) :=
  fun b o h => hb.cell (p := ⟨b, o, none⟩) h
set_option maxRecDepth 100000 in
set_option maxHeartbeats 3200000 in
theorem held_any (A : Option Addr) (n c : Nat) (k : Nat) (w : World) (hr : Rd w w.heap.size A (marks n k)) (hn : n ≤ 1073741824) (h0 : 1 ≤ k) (h1 : k ≤ 1073741824) :
    Calls Tryd.prog 21 #[.slice A n c, .int .i64 k] w fun e w' => e = .returned (.int .i64 ((k : Int) + n)) ∧ Below w.heap.size w w' := by
  go_enter Tryd.func21, Tryd.ntmps21
  go_wp2_with fail
  go_loopw [1, 5] (fun m i wr => ∃ t : Nat, t ≤ n ∧ i = .int .i64 t ∧ m = .int .i64 ((k : Int) + t) ∧ Below w.heap.size w wr) (fun _ i _ => n - (intOf i).toNat)
  case atStart => exact ⟨0, Nat.zero_le _, rfl, by go_num, Below.refl _ _⟩
  case round =>
    obtain ⟨t, ht, rfl, rfl, hb⟩ := hrel
    by_cases hlt : t < n
    · obtain ⟨b, o, rfl, hB, hc0⟩ := hr.at_ (k := t) (by rw [marks_len]; exact hlt)
      rw [marks_at k hlt] at hc0
      have hc := (hb.cell (p := ⟨b, o + t, none⟩) hB).trans hc0
      have hbs := hb.size
      have hB2 : b < wr.heap.size := by omega
      have HM := Lib.hid (fun W => mark_text (k + t) W (by omega) (by omega))
      have HB := Lib.hid hb
      rw [show ((k : Int) + (t : Int)) = ((k + t : Nat) : Int) by omega]
      have ht0 : (0 : Int) ≤ (t : Int) := by omega
      have ht1 : (t : Int) < (n : Int) := by omega
      generalize mt (k + t) = y at *
      clear hc0 hr hb
      go_wp2_with fail
      go_region_with ((go_at_call 32; refine (HM.out _).mono ?_; rintro e w' ⟨rfl, hb⟩; have hcc : w'.cell? ⟨b, o + t, none⟩ = some (.string y) := (hb.cell (p := ⟨b, o + t, none⟩) hB2).trans hc))
      all_goals
        have hbb := HB.out.trans ((((Below.refl wr.heap.size wr).drew.trans (show Below wr.heap.size wr.drew _ from hb))).mono hbs)
        clear hb hcc hc
        go_wp2_with fail
        exact ⟨⟨t + 1, by omega, by go_num, by go_num, hbb⟩, by simp [intOf]; omega⟩
    · obtain rfl : n = t := by omega
      go_wp2_with fail
      go_ret
      exact ⟨ret_int rfl, hb⟩
end Go.Proofs.YtcgcamhnebbalaaDoor.Strs
