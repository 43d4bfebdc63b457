/- Which screens are valid, in the program: its helpers. -/
import Derived.Test.YtkhihppoimgjcaaScOkW
import Derived.Test.YtkhihppoimgjcaaGrAtB
import Derived.Test.YtkhihppoimgjcaaScNewB
namespace Go.Proofs.Ytkhihppoimgjcaa.Sc
open Go.RowKit Go.Proofs.Ytkhihppoimgjcaa.Bytes Go.Proofs.Ytkhihppoimgjcaa.Rows_ Go.Proofs.Ytkhihppoimgjcaa.RowK Go.Proofs.Ytkhihppoimgjcaa.Gr Go.Proofs.Ytkhihppoimgjcaa.DOk Go.Proofs.Ytkhihppoimgjcaa.Opq Go.Proofs.Ytkhihppoimgjcaa.Attr
set_option linter.unusedVariables false
def hasS (gw gh w h : Int) : Bool := decide (gw = w ∧ gh = h)
theorem hasS_t {gw gh w h : Int} (h1 : gw = w) (h2 : gh = h) : hasS gw gh w h = true := decide_eq_true ⟨h1, h2⟩
theorem hasS_f {gw gh w h : Int} (h1 : ¬ (gw = w ∧ gh = h)) : hasS gw gh w h = false := decide_eq_false h1
set_option maxRecDepth 100000 in
set_option maxHeartbeats 1600000 in
theorem hasSize_any (gw gh : Int) (A : Option Addr) (n c : Nat) (x y : Int) (w : World) :
    Calls Try.prog 98 #[.agg #[.int .i64 gw, .int .i64 gh, .slice A n c], .int .i64 x, .int .i64 y] w fun e w' => e = .returned (.bool (hasS gw gh x y)) ∧ Below w.heap.size w w' := by
  have hb0 := Lib.hid ((Below.refl w.heap.size w).alloc (Nat.le_refl _) (.cells #[.int .i64 gw, .int .i64 gh, .slice A n c] 34))
  by_cases h1 : gw = x
  · by_cases h2 : gh = y
    · have HF := Lib.hid (hasS_t h1 h2).symm
      subst h1
      subst h2
      go_enter Try.func98, Try.ntmps98
      go_wp2_with fail
      go_ret
      exact ⟨Attr.rt_bool HF.out, hb0.out⟩
    · have HF := Lib.hid (hasS_f (fun h => h2 h.2 : ¬ (gw = x ∧ gh = y))).symm
      subst h1
      go_enter Try.func98, Try.ntmps98
      go_wp2_with fail
      go_ret
      exact ⟨Attr.rt_bool (by rw [← HF.out]; exact beq_false_of_ne h2), hb0.out⟩
  · have HF := Lib.hid (hasS_f (fun h => h1 h.1 : ¬ (gw = x ∧ gh = y))).symm
    go_enter Try.func98, Try.ntmps98
    go_wp2_with fail
    go_ret
    exact ⟨Attr.rt_bool HF.out, hb0.out⟩
theorem back_no {rs : List SlC} {k : Nat} (hlf : k < rs.length) (h : okRow rs[k].cs = false) : rs.all (fun r => okRow r.cs) = false := by
  cases hq : rs.all (fun r => okRow r.cs)
  · rfl
  · have := (List.all_eq_true.1 hq) _ (List.getElem_mem hlf); simp [h] at this
theorem back_next {rs : List SlC} {k : Nat} (hlf : k < rs.length) (ha : (rs.take k).all (fun r => okRow r.cs) = true) (h : okRow rs[k].cs = true) : (rs.take (k + 1)).all (fun r => okRow r.cs) = true := by
  rw [List.take_succ_eq_append_getElem hlf, List.all_append, ha]; simp [h]
def regB (top bot h : Int) : Bool := decide (0 ≤ top ∧ bot < h ∧ top ≤ bot ∧ (top = bot → h = 1))
theorem regB_t {t b h : Int} (h1 : 0 ≤ t ∧ b < h ∧ t ≤ b ∧ (t = b → h = 1)) : regB t b h = true := decide_eq_true h1
theorem regB_f {t b h : Int} (h1 : ¬ (0 ≤ t ∧ b < h ∧ t ≤ b ∧ (t = b → h = 1))) : regB t b h = false := decide_eq_false h1
set_option maxRecDepth 100000 in
set_option maxHeartbeats 1600000 in
theorem isRegion_any (t b h : Int) (w : World) :
    Calls Try.prog 78 #[.int .i64 t, .int .i64 b, .int .i64 h] w fun e w' => e = .returned (.bool (regB t b h)) ∧ w = w' := by
  by_cases h1 : 0 ≤ t
  · by_cases h2 : b < h
    · by_cases h3 : t < b
      · have HF := Lib.hid (regB_t (t := t) (b := b) (h := h) (by omega)).symm
        go_enter Try.func78, Try.ntmps78
        go_wp2_with fail
        go_ret
        exact ⟨Attr.rt_bool HF.out, rfl⟩
      · by_cases h4 : t = b
        · subst h4
          by_cases h5 : h = 1
          · have HF := Lib.hid (regB_t (t := t) (b := t) (h := h) (by omega)).symm
            subst h5
            go_enter Try.func78, Try.ntmps78
            go_wp2_with fail
            go_ret
            exact ⟨Attr.rt_bool HF.out, rfl⟩
          · have HF := Lib.hid (regB_f (t := t) (b := t) (h := h) (by omega)).symm
            go_enter Try.func78, Try.ntmps78
            go_wp2_with fail
            go_ret
            exact ⟨Attr.rt_bool (by rw [← HF.out]; exact beq_false_of_ne h5), rfl⟩
        · have HF := Lib.hid (regB_f (t := t) (b := b) (h := h) (by omega)).symm
          go_enter Try.func78, Try.ntmps78
          go_wp2_with fail
          go_ret
          exact ⟨Attr.rt_bool HF.out, rfl⟩
    · have HF := Lib.hid (regB_f (t := t) (b := b) (h := h) (by omega)).symm
      go_enter Try.func78, Try.ntmps78
      go_wp2_with fail
      go_ret
      exact ⟨Attr.rt_bool HF.out, rfl⟩
  · have HF := Lib.hid (regB_f (t := t) (b := b) (h := h) (by omega)).symm
    go_enter Try.func78, Try.ntmps78
    go_wp2_with fail
    go_ret
    exact ⟨Attr.rt_bool HF.out, rfl⟩
set_option maxRecDepth 100000 in
set_option maxHeartbeats 1600000 in
theorem areTabs_any (A : Option Addr) (n c : Nat) (zs : List Int) (x : Int) (w : World) (hr : RdI w w.heap.size A zs) (hl : zs.length = n) (hn : n ≤ 1099511627776) :
    Calls Try.prog 79 #[.slice A n c, .int .i64 x] w fun e w' => e = .returned (.bool (okT (-1) x zs)) ∧ w = w' := by
  have HR := Lib.hid hr
  have HL := Lib.hid hl
  clear hr hl
  go_enter Try.func79, Try.ntmps79
  go_wp2_with fail
  go_loopw [5, 10] (fun la i wr => ∃ k : Nat, k ≤ n ∧ la = .int .i64 (lastOf (-1) (zs.take k)) ∧ i = .int .i64 k ∧ okT (-1) x (zs.take k) = true ∧ w = wr) (fun _ i _ => n - (intOf i).toNat)
  case atStart => exact ⟨0, Nat.zero_le _, rfl, rfl, by simp [okT], rfl⟩
  case round =>
    obtain ⟨k, hk, rfl, rfl, ha, rfl⟩ := hrel
    have HA := Lib.hid ha
    clear ha
    by_cases hlt : k < n
    · have hlf : k < zs.length := by rw [HL.out]; exact hlt
      obtain ⟨b, o, rfl, hB, hc⟩ := HR.out.at_ hlf
      have HNO := Lib.hid (fun h => okT_no (w := x) hlf h)
      have HNX := Lib.hid (fun h1 h2 => okT_next (w := x) hlf HA.out h1 h2)
      have HLA := Lib.hid (last_succ hlf)
      generalize zs[k] = z at *
      generalize hla : lastOf (-1) (zs.take k) = la at *
      clear hla
      by_cases h1 : la < z
      · by_cases h2 : z < x
        · have N := Lib.hid (HNX.out h1 h2)
          clear HNO HNX
          go_wp2_with fail
          exact ⟨⟨k + 1, by omega, by rw [HLA.out], by go_num, N.out, trivial⟩, by simp [intOf]; omega⟩
        · have N := Lib.hid (HNO.out (fun h => h2 h.2))
          clear HNO HNX
          go_wp2_with fail
          go_ret
          exact ⟨Attr.rt_bool N.out.symm, rfl⟩
      · have N := Lib.hid (HNO.out (fun h => h1 h.1))
        clear HNO HNX
        go_wp2_with fail
        go_ret
        exact ⟨Attr.rt_bool N.out.symm, rfl⟩
    · obtain rfl : n = k := by omega
      have HF := Lib.hid (show okT (-1) x zs = true by have := HA.out; rwa [← HL.out, List.take_length] at this)
      go_wp2_with fail
      go_ret
      exact ⟨Attr.rt_bool HF.out.symm, rfl⟩
set_option maxRecDepth 100000 in
set_option maxHeartbeats 1600000 in
theorem isBack_any (A : Option Addr) (n c : Nat) (rs : List SlC) (x : Int) (w : World) (hr : RdR w w.heap.size A rs) (hc : RdCs w w.heap.size rs) (hl : rs.length = n) (hn : n ≤ 1099511627776) (hcn : ∀ r ∈ rs, r.cs.length ≤ 1099511627776) :
    Calls Try.prog 81 #[.slice A n c, .int .i64 x] w fun e w' => e = .returned (.bool (rs.all (fun r => okRow r.cs) && decide ((n : Int) ≤ x))) ∧ Below w.heap.size w w' := by
  have HR := Lib.hid hr
  have HC := Lib.hid hc
  have HCN := Lib.hid hcn
  have HL := Lib.hid hl
  clear hr hl hc hcn
  go_enter Try.func81, Try.ntmps81
  go_wp2_with fail
  go_loopw [9] (fun i wr => ∃ k : Nat, k ≤ n ∧ i = .int .i64 k ∧ (rs.take k).all (fun r => okRow r.cs) = true ∧ Below w.heap.size w wr) (fun i _ => n - (intOf i).toNat)
  case atStart => exact ⟨0, Nat.zero_le _, rfl, by simp, Below.refl _ _⟩
  case round =>
    obtain ⟨k, hk, rfl, ha, hb⟩ := hrel
    have HA := Lib.hid ha
    have HB := Lib.hid hb
    have hz : w.heap.size ≤ wr.heap.size := hb.size
    clear ha hb
    by_cases hlt : k < n
    · have hlf : k < rs.length := by rw [HL.out]; exact hlt
      obtain ⟨b, o, rfl, hB, hc⟩ := (HR.out.below (Nat.le_refl _) HB.out).at_ hlf
      have HRD := Lib.hid ((HC.out _ (List.getElem_mem hlf)).below (Nat.le_refl _) HB.out)
      have hrl := HCN.out _ (List.getElem_mem hlf)
      have HNO := Lib.hid (fun h => back_no hlf h)
      have HNX := Lib.hid (fun h => back_next hlf HA.out h)
      generalize rs[k].A = x1 at *
      generalize rs[k].c = x3 at *
      generalize rs[k].cs = zs at *
      obtain ⟨x2, hx2⟩ : ∃ x, x = zs.length := ⟨_, rfl⟩
      rw [← hx2] at hc hrl
      have HX2 := Lib.hid hx2
      clear hx2
      by_cases h1 : 1 ≤ x2
      · by_cases h2 : x2 ≤ 120
        · have HAR := Lib.hid (fun W (h : Below wr.heap.size wr W) => areCells_any x1 x2 x3 zs W ((HRD.out.more hz).below (Nat.le_refl _) h |>.more h.size) HX2.out.symm (by omega))
          cases hq : zs.all okC
          · have N := Lib.hid (HNO.out (by unfold okRow; rw [hq, Bool.and_false]))
            have HQ := Lib.hid hq
            clear HNO HNX hq
            go_wp2_with fail
            refine (HAR.out _ ?_).mono ?_
            · exact ((Below.refl wr.heap.size wr).alloc (Nat.le_refl _) _)
            rintro e v1 ⟨rfl, hb1⟩
            rw [HQ.out]
            have HB1 := Lib.hid (HB.out.trans (((Below.refl wr.heap.size wr).alloc (Nat.le_refl _) _ |>.trans (hb1.mono (by simp))).mono hz))
            clear hb1
            go_wp2_with fail
            go_ret
            exact ⟨Attr.rt_bool (by rw [N.out]; rfl), HB1.out⟩
          · have N := Lib.hid (HNX.out (by unfold okRow; rw [hq, ← HX2.out, Bool.and_true]; exact decide_eq_true ⟨h1, h2⟩))
            have HQ := Lib.hid hq
            clear HNO HNX hq
            go_wp2_with fail
            refine (HAR.out _ ?_).mono ?_
            · exact ((Below.refl wr.heap.size wr).alloc (Nat.le_refl _) _)
            rintro e v1 ⟨rfl, hb1⟩
            rw [HQ.out]
            have HB1 := Lib.hid (HB.out.trans (((Below.refl wr.heap.size wr).alloc (Nat.le_refl _) _ |>.trans (hb1.mono (by simp))).mono hz))
            clear hb1
            go_wp2_with fail
            exact ⟨⟨k + 1, by omega, by go_num, N.out, HB1.out⟩, by simp [intOf]; omega⟩
        · have N := Lib.hid (HNO.out (by unfold okRow; rw [← HX2.out, decide_eq_false (fun h => h2 h.2), Bool.false_and]))
          clear HNO HNX
          go_wp2_with fail
          go_ret
          exact ⟨Attr.rt_bool (by rw [N.out]; rfl), HB.out.alloc hz _⟩
      · have N := Lib.hid (HNO.out (by unfold okRow; rw [← HX2.out, decide_eq_false (fun h => h1 h.1), Bool.false_and]))
        clear HNO HNX
        go_wp2_with fail
        go_ret
        exact ⟨Attr.rt_bool (by rw [N.out]; rfl), HB.out.alloc hz _⟩
    · obtain rfl : n = k := by omega
      have HF := Lib.hid (show rs.all (fun r => okRow r.cs) = true by have := HA.out; rwa [← HL.out, List.take_length] at this)
      go_wp2_with fail
      go_ret
      exact ⟨Attr.rt_bool (by rw [HF.out, Bool.true_and]), HB.out⟩
end Go.Proofs.Ytkhihppoimgjcaa.Sc
