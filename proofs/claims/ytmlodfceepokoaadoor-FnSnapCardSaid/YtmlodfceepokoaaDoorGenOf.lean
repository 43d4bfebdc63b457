/- Contracts of the reading of a generation's name, in the model and in the program. -/
import Derived.Test.YtmlodfceepokoaaDoorGenPlain
namespace Go.Proofs.YtmlodfceepokoaaDoor.Num
open Go.RowKit Go.Shelf
set_option linter.unusedVariables false

/-! ### the program: CutPrefix, genBehind, GenOf -/
def cutT (s p : ByteArray) : ByteArray := if Lib.hasPrefix s.data.toList p.data.toList = true then s.extract p.size s.size else s
theorem prefix_le {s p : ByteArray} (h : Lib.hasPrefix s.data.toList p.data.toList = true) : p.size ≤ s.size := by
  have := congrArg List.length (pre_iff.1 h)
  have hp' : p.data.toList.length = p.size := by simp
  have hs' : s.data.toList.length = s.size := by simp
  rw [List.length_append] at this; omega
theorem extract_list (s : ByteArray) (k : Nat) : (s.extract k s.size).data.toList = rst s k := by
  unfold rst
  rw [ByteArray.data_extract]
  simp
  rw [List.take_of_length_le (by simp)]
theorem cut_lite (s p : ByteArray) (w : World) (hs : s.size ≤ 1099511627776) (hp : p.size ≤ 16) :
    Calls Tryd.prog 59 #[.string s, .string p] w fun e w' => e = .returned (.tuple #[.string (cutT s p), .bool (Lib.hasPrefix s.data.toList p.data.toList)]) ∧ w = w' := by
  have hc := Lib.hid (Tryd.stringslite_HasPrefix s p)
  have hle := Lib.hid (prefix_le (s := s) (p := p))
  unfold cutT
  cases hb : Lib.hasPrefix s.data.toList p.data.toList
  · have HB := Lib.hid hb
    clear hb
    go_enter Tryd.func59, Tryd.ntmps59
    go_wp2_with fail
    refine (hc.out _).mono ?_
    rw [HB.out]
    rintro e w' ⟨rfl, rfl⟩
    go_wp2_with fail
    go_ret2
    exact ⟨rfl, rfl⟩
  · have HB := Lib.hid hb
    have hl := hle.out hb
    have hli : (p.size : Int) ≤ (s.size : Int) := by omega
    clear hb
    go_enter Tryd.func59, Tryd.ntmps59
    go_wp2_with fail
    refine (hc.out _).mono ?_
    rw [HB.out]
    rintro e w' ⟨rfl, rfl⟩
    go_wp2_with fail
    go_ret2
    exact ⟨rfl, rfl⟩
theorem cut_any (s p : ByteArray) (w : World) (hs : s.size ≤ 1099511627776) (hp : p.size ≤ 16) :
    Calls Tryd.prog 47 #[.string s, .string p] w fun e w' => e = .returned (.tuple #[.string (cutT s p), .bool (Lib.hasPrefix s.data.toList p.data.toList)]) ∧ w = w' := by
  have hc := Lib.hid (fun W => cut_lite s p W hs hp)
  generalize cutT s p = T at *
  generalize Lib.hasPrefix s.data.toList p.data.toList = B at *
  go_enter Tryd.func47, Tryd.ntmps47
  go_wp2_with fail
  refine (hc.out _).mono ?_
  rintro e w' ⟨rfl, rfl⟩
  go_wp2_with fail
  go_ret2
  exact ⟨rfl, rfl⟩

set_option maxRecDepth 100000 in
theorem genBehind_any (p s : ByteArray) (hp : p.size ≤ 16) (hs : s.size ≤ 1048576) (w : World) (he : ErrVars w) (htab : Lib.TabIs Tryd.prog w "internal/strconv.uint64pow10" .u64 Lib.pow10Tab) :
    Calls Tryd.prog 33 #[.string p, .string s] w fun e w' => e = .returned (.tuple #[.int .i64 (gbV p s), .bool (gb p s)]) ∧ Below w.heap.size w w' := by
  have HC := Lib.hid (fun W => cut_any s p W (by omega) hp)
  have HT := Lib.hid htab
  have HE := Lib.hid he
  clear htab he
  unfold gbV
  cases hb : Lib.hasPrefix s.data.toList p.data.toList
  · have e1 : gb p s = false := by unfold gb; rw [hb]; rfl
    have e2 : cutT s p = s := by unfold cutT; rw [hb]; rfl
    have HN := Lib.hid (fun W => impl_TextNum s hs W)
    rw [hb, e2] at HC
    rw [e1]
    clear hb e1 e2
    generalize tnV s.data.toList = V at *
    generalize tnOk s.data.toList = B at *
    go_enter Tryd.func33, Tryd.ntmps33
    go_wp2_with fail
    refine (HC.out _).mono ?_
    rintro e w' ⟨rfl, rfl⟩
    go_wp2_with fail
    refine (HN.out _ HE.out HT.out).mono ?_
    rintro e w1 ⟨rfl, hb1⟩
    go_wp2_with fail
    go_ret2
    exact ⟨rfl, hb1⟩
  · have e2 : cutT s p = s.extract p.size s.size := by unfold cutT; rw [if_pos hb]
    have hsz : (s.extract p.size s.size).size ≤ 1048576 := by rw [ByteArray.size_extract]; omega
    have HN := Lib.hid (fun W => impl_TextNum (s.extract p.size s.size) hsz W)
    rw [extract_list] at HN
    rw [hb, e2] at HC
    have e1 : gb p s = decide (tnOk (rst s p.size) = true ∧ 1 ≤ tnV (rst s p.size) ∧ tnV (rst s p.size) ≤ 1000000000) := by unfold gb; rw [hb]; rfl
    have hno := tnV_no (l := rst s p.size)
    rw [e1]
    clear hb e1 e2
    generalize tnV (rst s p.size) = V at *
    generalize tnOk (rst s p.size) = B at *
    generalize s.extract p.size s.size = T at *
    cases B
    · rw [if_neg (by simp), decide_eq_false (by simp)]
      have HNO := Lib.hid hno
      clear hno
      go_enter Tryd.func33, Tryd.ntmps33
      go_wp2_with fail
      refine (HC.out _).mono ?_
      rintro e w' ⟨rfl, rfl⟩
      go_wp2_with fail
      refine (HN.out _ HE.out HT.out).mono ?_
      rintro e w1 ⟨rfl, hb1⟩
      go_wp2_with fail
      go_ret2
      exact ⟨rfl, hb1⟩
    · clear hno
      by_cases hr : 1 ≤ V ∧ V ≤ 1000000000
      · rw [if_pos (decide_eq_true ⟨rfl, hr⟩), decide_eq_true ⟨rfl, hr⟩]
        obtain ⟨h1, h2⟩ := hr
        go_enter Tryd.func33, Tryd.ntmps33
        go_wp2_with fail
        refine (HC.out _).mono ?_
        rintro e w' ⟨rfl, rfl⟩
        go_wp2_with fail
        refine (HN.out _ HE.out HT.out).mono ?_
        rintro e w1 ⟨rfl, hb1⟩
        go_wp2_with fail
        refine (isGenN_yes _ _ h1 h2).mono ?_
        rintro e w' ⟨rfl, rfl⟩
        go_wp2_with fail
        go_ret2
        exact ⟨rfl, hb1⟩
      · rw [if_neg (by rw [decide_eq_false (fun h => hr h.2)]; simp), decide_eq_false (fun h => hr h.2)]
        have HRR := Lib.hid (show V < 1 ∨ 1000000000 < V by omega)
        clear hr
        go_enter Tryd.func33, Tryd.ntmps33
        go_wp2_with fail
        refine (HC.out _).mono ?_
        rintro e w' ⟨rfl, rfl⟩
        go_wp2_with fail
        refine (HN.out _ HE.out HT.out).mono ?_
        rintro e w1 ⟨rfl, hb1⟩
        go_wp2_with fail
        refine (isGenN_no _ _ HRR.out).mono ?_
        rintro e w' ⟨rfl, rfl⟩
        go_wp2_with fail
        go_ret2
        exact ⟨rfl, hb1⟩

set_option maxRecDepth 100000 in
theorem impl_GenOf_any (s : ByteArray) (hs : s.size ≤ 1048576) (w : World) (he : ErrVars w) (htab : Lib.TabIs Tryd.prog w "internal/strconv.uint64pow10" .u64 Lib.pow10Tab) :
    Calls Tryd.prog 12 #[.string s] w fun e w' => e = .returned (.tuple #[.int .i64 (goV s), .bool (goOk s)]) ∧ Below w.heap.size w w' := by
  have HS := Lib.hid (genBehind_any snapP s (by decide) hs)
  have HL := Lib.hid (genBehind_any logP s (by decide) hs)
  have HT := Lib.hid htab
  have HE := Lib.hid he
  clear htab he
  cases hb : gb snapP s
  · obtain ⟨e1, e2⟩ := go_snap_no hb
    rw [e1, e2]
    rw [hb] at HS
    clear hb e1 e2
    generalize gbV snapP s = V at *
    generalize gbV logP s = V2 at *
    generalize gb logP s = B2 at *
    go_enter Tryd.func12, Tryd.ntmps12
    go_wp2_with fail
    refine (HS.out _ HE.out HT.out).mono ?_
    rintro e w1 ⟨rfl, hb1⟩
    have HE1 := Lib.hid (HE.out.below hb1)
    have HT1 := Lib.hid (var_below hb1 HT.out)
    have hb1s := hb1.size
    go_wp2_with fail
    refine (HL.out _ HE1.out HT1.out).mono ?_
    rintro e w2 ⟨rfl, hb2⟩
    have hb3 := hb1.trans (hb2.mono hb1s)
    go_wp2_with fail
    go_ret2
    exact ⟨rfl, hb3⟩
  · obtain ⟨e1, e2⟩ := go_yes_snap hb
    rw [e1, e2]
    rw [hb] at HS
    clear hb e1 e2
    generalize gbV snapP s = V at *
    go_enter Tryd.func12, Tryd.ntmps12
    go_wp2_with fail
    refine (HS.out _ HE.out HT.out).mono ?_
    rintro e w1 ⟨rfl, hb1⟩
    go_wp2_with fail
    go_ret2
    exact ⟨rfl, hb1⟩

/-! ### the model -/
set_option maxRecDepth 100000 in
set_option maxHeartbeats 1600000 in
theorem spec_GenOf_any (s : ByteArray) (hs : s.size ≤ 1048576) (w : World) :
    Calls Tryd.prog 22 #[.string s] w fun e w' => e = .returned (.tuple #[.int .i64 (goV s), .bool (goOk s)]) ∧ Below w.heap.size w w' := by
  have HHIT := Lib.hid (fun (k : Nat) (h0 : 0 < s.size) (h : hit s k) => hit_go h0 h)
  have HEND := Lib.hid (fun h : NoHit s s.size => noHit_go h)
  generalize goOk s = GB at *
  generalize goV s = GV at *
  go_enter Tryd.func22, Tryd.ntmps22
  go_wp2_with fail
  go_loopw [4] (fun i wr => ∃ k : Nat, k ≤ s.size ∧ i = .int .i64 k ∧ NoHit s k ∧ Below w.heap.size w wr) (fun i _ => s.size - (intOf i).toNat)
  case atStart => exact ⟨0, Nat.zero_le _, rfl, noHit_zero s, Below.refl _ _⟩
  case round =>
    obtain ⟨k, hk, rfl, hno, hb⟩ := hrel
    have HNO := Lib.hid hno
    have hbs := hb.size
    clear hno
    by_cases hlt : k < s.size
    · by_cases hdot : s[k] = 46
      · have HD := Lib.hid hdot
        have hd : ((s[k].toNat : Int) == 46) = true := by rw [hdot]; rfl
        have hsz : (s.extract (k + 1) s.size).size ≤ 1048576 := by rw [ByteArray.size_extract]; omega
        have HN := Lib.hid (fun W => spec_TextNum (s.extract (k + 1) s.size) W hsz)
        rw [extract_list] at HN
        have HG := Lib.hid (fun h : hit s k => HHIT.out k (by omega) h)
        have HS := Lib.hid (fun h : ¬ hit s k => HNO.out.succ fun _ _ => h)
        unfold hit at HG HS
        have hsum : IntKind.i64.wrap ((k : Int) + 1) = (k : Int) + 1 := IntWalk.i64_in _ (by omega)
        have h1 : 0 ≤ (k : Int) + 1 := by omega
        have h2 : ((k : Int) + 1).toNat = k + 1 := by omega
        have h3 : (k : Int) + 1 ≤ (s.size : Int) := by omega
        generalize tnOk (rst s (k + 1)) = B at *
        generalize tnV (rst s (k + 1)) = V at *
        have HSN := Lib.hid (spec_SnapName_any V)
        have HLN := Lib.hid (spec_LogName_any V)
        generalize nm snapP V = T1 at *
        generalize nm logP V = T2 at *
        clear hdot hsz
        by_cases hv : 0 < V
        · by_cases q1 : T1 = s
          · obtain ⟨f1, f2⟩ := str_eq q1
            have hgo := HG.out ⟨hv, .inl q1⟩
            obtain ⟨rfl, rfl⟩ := hgo
            clear q1
            go_wp2_with fail
            refine (HN.out _).mono ?_
            rintro e w1 ⟨rfl, hb1⟩
            have hb1s := hb1.size
            go_wp2_with fail
            refine (HSN.out _).mono ?_
            rintro e w2 ⟨rfl, hb2⟩
            have hb3 := hb.trans ((hb1.mono hbs).trans (hb2.mono (by omega)))
            go_wp2_with fail
            go_ret2
            exact ⟨rfl, hb3⟩
          · obtain ⟨f1, f2⟩ := str_ne q1
            by_cases q2 : T2 = s
            · obtain ⟨f3, f4⟩ := str_eq q2
              have hgo := HG.out ⟨hv, .inr q2⟩
              obtain ⟨rfl, rfl⟩ := hgo
              clear q1 q2
              go_wp2_with fail
              refine (HN.out _).mono ?_
              rintro e w1 ⟨rfl, hb1⟩
              have hb1s := hb1.size
              go_wp2_with fail
              refine (HSN.out _).mono ?_
              rintro e w2 ⟨rfl, hb2⟩
              have hb2s := hb2.size
              go_wp2_with fail
              refine (HLN.out _).mono ?_
              rintro e w3 ⟨rfl, hb4⟩
              have hb3 := hb.trans ((hb1.mono hbs).trans ((hb2.mono (by omega)).trans (hb4.mono (by omega))))
              go_wp2_with fail
              go_ret2
              exact ⟨rfl, hb3⟩
            · obtain ⟨f3, f4⟩ := str_ne q2
              have HSS := Lib.hid (HS.out fun h => h.2.elim q1 q2)
              clear q1 q2
              go_wp2_with fail
              refine (HN.out _).mono ?_
              rintro e w1 ⟨rfl, hb1⟩
              have hb1s := hb1.size
              go_wp2_with fail
              refine (HSN.out _).mono ?_
              rintro e w2 ⟨rfl, hb2⟩
              have hb2s := hb2.size
              go_wp2_with fail
              refine (HLN.out _).mono ?_
              rintro e w3 ⟨rfl, hb4⟩
              have hb3 := hb.trans ((hb1.mono hbs).trans ((hb2.mono (by omega)).trans (hb4.mono (by omega))))
              go_wp2_with fail
              exact ⟨⟨k + 1, by omega, by go_num, HSS.out, hb3⟩, by simp [intOf]; omega⟩
        · have hv' : V ≤ 0 := by omega
          have HSS := Lib.hid (HS.out fun h => hv h.1)
          clear hv
          go_wp2_with fail
          refine (HN.out _).mono ?_
          rintro e w1 ⟨rfl, hb1⟩
          have hb3 := hb.trans (hb1.mono hbs)
          go_wp2_with fail
          exact ⟨⟨k + 1, by omega, by go_num, HSS.out, hb3⟩, by simp [intOf]; omega⟩
      · have HSS := Lib.hid (HNO.out.succ fun _ h => absurd h hdot)
        have hd : ((s[k].toNat : Int) == 46) = false := by
          rw [beq_eq_false_iff_ne]
          intro e
          exact hdot (UInt8.toNat_inj.1 (by have : s[k].toNat = 46 := by omega
                                            rw [this]; rfl))
        clear hdot
        go_wp2_with fail
        exact ⟨⟨k + 1, by omega, by go_num, HSS.out, hb⟩, by simp [intOf]; omega⟩
    · obtain rfl : k = s.size := by omega
      obtain ⟨rfl, rfl⟩ := HEND.out HNO.out
      clear hlt
      go_wp2_with fail
      go_ret2
      exact ⟨rfl, hb⟩
end Go.Proofs.YtmlodfceepokoaaDoor.Num
