/- Contracts of the reading of a generation's name, in the model and in the program. -/
import Derived.Test.YteiojpglhmikoaaDoorGenPlain
namespace Go.Proofs.YteiojpglhmikoaaDoor.Num
open Go.RowKit Go.Shelf
set_option linter.unusedVariables false

/-! ### the program: CutPrefix, genBehind, GenOf -/
def cutT (s p : ByteArray) : ByteArray := if Lib.hasPrefix s.data.toList p.data.toList = true then s.extract p.size s.size else s
theorem prefix_le {s p : ByteArray} (h : Lib.hasPrefix s.data.toList p.data.toList = true) : p.size ≤ s.size := by
  have := congrArg List.length (pre_iff.1 h)
  have hp' : p.data.toList.length = p.size := by simp
  have hs' : s.data.toList.length = s.size := by simp
  rw [List.length_append] at this; omega
theorem extract_list (s : ByteArray) (k : Nat) : (s.extract k s.size).data.toList = rst s k := by
  unfold rst
  rw [ByteArray.data_extract]
  simp
  rw [List.take_of_length_le (by simp)]
theorem cut_lite (s p : ByteArray) (w : World) (hs : s.size ≤ 1099511627776) (hp : p.size ≤ 16) :
    Calls Tryd.prog 53 #[.string s, .string p] w fun e w' => e = .returned (.tuple #[.string (cutT s p), .bool (Lib.hasPrefix s.data.toList p.data.toList)]) ∧ w = w' := by
  have hc := Lib.hid (Tryd.stringslite_HasPrefix s p)
  have hle := Lib.hid (prefix_le (s := s) (p := p))
  unfold cutT
  cases hb : Lib.hasPrefix s.data.toList p.data.toList
  · have HB := Lib.hid hb
    clear hb
    go_enter Tryd.func53, Tryd.ntmps53
    go_wp2_with fail
    refine (hc.out _).mono ?_
    rw [HB.out]
    rintro e w' ⟨rfl, rfl⟩
    go_wp2_with fail
    go_ret2
    exact ⟨rfl, rfl⟩
  · have HB := Lib.hid hb
    have hl := hle.out hb
    have hli : (p.size : Int) ≤ (s.size : Int) := by omega
    clear hb
    go_enter Tryd.func53, Tryd.ntmps53
    go_wp2_with fail
    refine (hc.out _).mono ?_
    rw [HB.out]
    rintro e w' ⟨rfl, rfl⟩
    go_wp2_with fail
    go_ret2
    exact ⟨rfl, rfl⟩
theorem cut_any (s p : ByteArray) (w : World) (hs : s.size ≤ 1099511627776) (hp : p.size ≤ 16) :
    Calls Tryd.prog 44 #[.string s, .string p] w fun e w' => e = .returned (.tuple #[.string (cutT s p), .bool (Lib.hasPrefix s.data.toList p.data.toList)]) ∧ w = w' := by
  have hc := Lib.hid (fun W => cut_lite s p W hs hp)
  generalize cutT s p = T at *
  generalize Lib.hasPrefix s.data.toList p.data.toList = B at *
  go_enter Tryd.func44, Tryd.ntmps44
  go_wp2_with fail
  refine (hc.out _).mono ?_
  rintro e w' ⟨rfl, rfl⟩
  go_wp2_with fail
  go_ret2
  exact ⟨rfl, rfl⟩

set_option maxRecDepth 100000 in
theorem genBehind_any (p s : ByteArray) (hp : p.size ≤ 16) (hs : s.size ≤ 1048576) (w : World) (he : ErrVars w) (htab : Lib.TabIs Tryd.prog w "internal/strconv.uint64pow10" .u64 Lib.pow10Tab) :
    Calls Tryd.prog 28 #[.string p, .string s] w fun e w' => e = .returned (.tuple #[.int .i64 (gbV p s), .bool (gb p s)]) ∧ Below w.heap.size w w' := by
  have HC := Lib.hid (fun W => cut_any s p W (by omega) hp)
  have HT := Lib.hid htab
  have HE := Lib.hid he
  clear htab he
  unfold gbV
  cases hb : Lib.hasPrefix s.data.toList p.data.toList
  · have e1 : gb p s = false := by unfold gb; rw [hb]; rfl
    have e2 : cutT s p = s := by unfold cutT; rw [hb]; rfl
    have HN := Lib.hid (fun W => impl_TextNum s hs W)
    rw [hb, e2] at HC
    rw [e1]
    clear hb e1 e2
    generalize tnV s.data.toList = V at *
    generalize tnOk s.data.toList = B at *
    go_enter Tryd.func28, Tryd.ntmps28
    go_wp2_with fail
    refine (HC.out _).mono ?_
    rintro e w' ⟨rfl, rfl⟩
    go_wp2_with fail
    refine (HN.out _ HE.out HT.out).mono ?_
    rintro e w1 ⟨rfl, hb1⟩
    go_wp2_with fail
    go_ret2
    exact ⟨rfl, hb1⟩
  · have e2 : cutT s p = s.extract p.size s.size := by unfold cutT; rw [if_pos hb]
    have hsz : (s.extract p.size s.size).size ≤ 1048576 := by rw [ByteArray.size_extract]; omega
    have HN := Lib.hid (fun W => impl_TextNum (s.extract p.size s.size) hsz W)
    rw [extract_list] at HN
    rw [hb, e2] at HC
    have e1 : gb p s = decide (tnOk (rst s p.size) = true ∧ 1 ≤ tnV (rst s p.size) ∧ tnV (rst s p.size) ≤ 1000000000) := by unfold gb; rw [hb]; rfl
    have hno := tnV_no (l := rst s p.size)
    rw [e1]
    clear hb e1 e2
    generalize tnV (rst s p.size) = V at *
    generalize tnOk (rst s p.size) = B at *
    generalize s.extract p.size s.size = T at *
    cases B
    · rw [if_neg (by simp), decide_eq_false (by simp)]
      have HNO := Lib.hid hno
      clear hno
      go_enter Tryd.func28, Tryd.ntmps28
      go_wp2_with fail
      refine (HC.out _).mono ?_
      rintro e w' ⟨rfl, rfl⟩
      go_wp2_with fail
      refine (HN.out _ HE.out HT.out).mono ?_
      rintro e w1 ⟨rfl, hb1⟩
      go_wp2_with fail
      go_ret2
      exact ⟨rfl, hb1⟩
    · clear hno
      by_cases hr : 1 ≤ V ∧ V ≤ 1000000000
      · rw [if_pos (decide_eq_true ⟨rfl, hr⟩), decide_eq_true ⟨rfl, hr⟩]
        obtain ⟨h1, h2⟩ := hr
        go_enter Tryd.func28, Tryd.ntmps28
        go_wp2_with fail
        refine (HC.out _).mono ?_
        rintro e w' ⟨rfl, rfl⟩
        go_wp2_with fail
        refine (HN.out _ HE.out HT.out).mono ?_
        rintro e w1 ⟨rfl, hb1⟩
        go_wp2_with fail
        refine (isGenN_yes _ _ h1 h2).mono ?_
        rintro e w' ⟨rfl, rfl⟩
        go_wp2_with fail
        go_ret2
        exact ⟨rfl, hb1⟩
      · rw [if_neg (by rw [decide_eq_false (fun h => hr h.2)]; simp), decide_eq_false (fun h => hr h.2)]
        have HRR := Lib.hid (show V < 1 ∨ 1000000000 < V by omega)
        clear hr
        go_enter Tryd.func28, Tryd.ntmps28
        go_wp2_with fail
        refine (HC.out _).mono ?_
        rintro e w' ⟨rfl, rfl⟩
        go_wp2_with fail
        refine (HN.out _ HE.out HT.out).mono ?_
        rintro e w1 ⟨rfl, hb1⟩
        go_wp2_with fail
        refine (isGenN_no _ _ HRR.out).mono ?_
        rintro e w' ⟨rfl, rfl⟩
        go_wp2_with fail
        go_ret2
        exact ⟨rfl, hb1⟩

set_option maxRecDepth 100000 in
theorem impl_GenOf_any (s : ByteArray) (hs : s.size ≤ 1048576) (w : World) (he : ErrVars w) (htab : Lib.TabIs Tryd.prog w "internal/strconv.uint64pow10" .u64 Lib.pow10Tab) :
    Calls Tryd.prog 9 #[.string s] w fun e w' => e = .returned (.tuple #[.int .i64 (goV s), .bool (goOk s)]) ∧ Below w.heap.size w w' := by
  have HS := Lib.hid (genBehind_any snapP s (by decide) hs)
  have HL := Lib.hid (genBehind_any logP s (by decide) hs)
  have HT := Lib.hid htab
  have HE := Lib.hid he
  clear htab he
  cases hb : gb snapP s
  · obtain ⟨e1, e2⟩ := go_snap_no hb
    rw [e1, e2]
    rw [hb] at HS
    clear hb e1 e2
    generalize gbV snapP s = V at *
    generalize gbV logP s = V2 at *
    generalize gb logP s = B2 at *
    go_enter Tryd.func9, Tryd.ntmps9
    go_wp2_with fail
    refine (HS.out _ HE.out HT.out).mono ?_
    rintro e w1 ⟨rfl, hb1⟩
    have HE1 := Lib.hid (HE.out.below hb1)
    have HT1 := Lib.hid (var_below hb1 HT.out)
    have hb1s := hb1.size
    go_wp2_with fail
    refine (HL.out _ HE1.out HT1.out).mono ?_
    rintro e w2 ⟨rfl, hb2⟩
    have hb3 := hb1.trans (hb2.mono hb1s)
    go_wp2_with fail
    go_ret2
    exact ⟨rfl, hb3⟩
  · obtain ⟨e1, e2⟩ := go_yes_snap hb
    rw [e1, e2]
    rw [hb] at HS
    clear hb e1 e2
    generalize gbV snapP s = V at *
    go_enter Tryd.func9, Tryd.ntmps9
    go_wp2_with fail
    refine (HS.out _ HE.out HT.out).mono ?_
    rintro e w1 ⟨rfl, hb1⟩
    go_wp2_with fail
    go_ret2
    exact ⟨rfl, hb1⟩

/-! ### the model -/
end Go.Proofs.YteiojpglhmikoaaDoor.Num

