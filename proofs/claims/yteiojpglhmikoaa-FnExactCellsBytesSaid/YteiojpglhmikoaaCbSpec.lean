/- CellsBytes in the model: it answers as the program, at every list of cells. -/
import Derived.Test.YteiojpglhmikoaaCbImpl2
import Derived.Test.YteiojpglhmikoaaPutVar
import Derived.Deep.Cut
import Derived.Deep.CutRange
import Derived.Deep.DeepCutAuto
import Derived.Test.YteiojpglhmikoaaGrB
namespace Go.Proofs.Yteiojpglhmikoaa.Cb
open Go.RowKit Go.Proofs.Yteiojpglhmikoaa.Bytes Go.Proofs.Yteiojpglhmikoaa.Rows_ Go.Proofs.Yteiojpglhmikoaa.RowK Go.Proofs.Yteiojpglhmikoaa.Var Go.Proofs.Yteiojpglhmikoaa.Gr Go.Proofs.Yteiojpglhmikoaa.Attr
set_option linter.unusedVariables false
theorem take_all {cs : List CellD} {k : Nat} (h : k < cs.length) (ha : (cs.take k).all okC = true) (ho : okC cs[k] = true) : (cs.take (k + 1)).all okC = true := all_next h ha ho
/-- a number encoded behind bytes of the call's own -/
theorem putG (A : Option Addr) (n c base : Nat) (zs : List Int) (m : Nat) (z : Int) (hz : z = (m : Int)) (V : World) (ho : Own V base A n c zs) (hbase : base ≤ V.heap.size) (hn : n ≤ 1099511627776) (hm : m ≤ 4294967295) :
    Calls Try.prog 52 #[.slice A n c, .int .i64 z] V fun e w' => ∃ A' n' c', e = .returned (.tuple #[.slice A' n' c', .bool true]) ∧ Own w' base A' n' c' (zs ++ vEnc m) ∧ Below V.heap.size V w' := by
  subst hz
  refine (spec_PutVar_yes A n c zs m V (own_none ho) ho.rd ho.len hn hm).mono ?_
  rintro e w' ⟨A', n', c', rfl, h1, h2⟩
  exact ⟨A', n', c', rfl, h1.more hbase, h2⟩
/-- the model's slice of bytes and count behind k cells -/
def SbIn (w : World) (cs : List CellD) (k m : Nat) (A2 : Option Addr) (n2 c2 : Nat) (pre : List Int) (wr : World) : Prop := (cs.take k).all okC = true ∧ m ≤ k ∧ Own wr w.heap.size A2 n2 c2 pre ∧ n2 ≤ 15 * k ∧ pre ++ encN m (cs.drop k) = encR cs ∧ Below w.heap.size w wr
set_option maxRecDepth 100000 in
set_option maxHeartbeats 3200000 in
theorem spec_CellsBytes_any (A : Option Addr) (n c : Nat) (cs : List CellD) (w : World) (hr : RdC w w.heap.size A cs) (hl : cs.length = n) (hn : n ≤ 1099511627776) :
    Calls Try.prog 29 #[.slice A n c] w fun e w' => ∃ A' c', e = .returned (.tuple #[.slice A' (cbO cs).length c', .bool (cbB cs)]) ∧ Own w' w.heap.size A' (cbO cs).length c' (cbO cs) ∧ Below w.heap.size w w' := by
  rcases Nat.lt_or_ge 4000 n with h4 | h4
  · have hb : cbB cs = false := by unfold cbB; rw [decide_eq_false (by omega)]; rfl
    have ho : cbO cs = [] := by unfold cbO; rw [if_neg (by rw [hb]; decide)]
    rw [ho, hb]
    clear hb ho
    go_enter Try.func29, Try.ntmps29
    go_wp2_with fail
    go_ret2
    exact ⟨none, 0, rfl, own_nil _ _, Below.refl _ _⟩
  have HNO := Lib.hid (fun (h : cs.all okC = false) => show cbB cs = false ∧ cbO cs = [] from by
    have hb : cbB cs = false := by unfold cbB; rw [h, Bool.and_false]
    exact ⟨hb, by unfold cbO; rw [if_neg (by rw [hb]; decide)]⟩)
  have HYES := Lib.hid (fun (h : cs.all okC = true) => show cbB cs = true ∧ cbO cs = encR cs from by
    have hb : cbB cs = true := by unfold cbB; rw [decide_eq_true (by omega), h]; rfl
    exact ⟨hb, by unfold cbO; rw [if_pos hb]⟩)
  obtain ⟨B0, hB0⟩ : ∃ b, b = cbB cs := ⟨_, rfl⟩
  obtain ⟨O0, hO0⟩ : ∃ b, b = cbO cs := ⟨_, rfl⟩
  rw [← hB0, ← hO0] at HNO HYES ⊢
  clear hB0 hO0
  have hb0 : Below w.heap.size w (w.alloc (.cells #[] 5)) := (Below.refl w.heap.size w).alloc (Nat.le_refl _) (.cells #[] 5)
  have H0 := Lib.hid (show SbIn w cs 0 0 (some ⟨w.heap.size, 0, none⟩) 0 0 [] (w.alloc (.cells #[] 5)) from ⟨by simp, by omega, World.ownsRow_lit w #[] 0 (Nat.le_refl _) (by decide) rfl, by omega, by rw [List.drop_zero, encN_zero]; rfl, hb0⟩)
  have HR := Lib.hid hr
  have HL := Lib.hid hl
  clear hr hl hb0
  go_enter Try.func29, Try.ntmps29
  go_wp2_with fail
  go_loopw [4, 5, 14] (fun x z i wr => ∃ (k m : Nat) (A2 : Option Addr) (n2 c2 : Nat) (pre : List Int), x = .slice A2 n2 c2 ∧ z = .int .i64 (m : Int) ∧ i = .int .i64 (k : Int) ∧ k ≤ n ∧ SbIn w cs k m A2 n2 c2 pre wr) (fun _ _ i _ => n - (intOf i).toNat)
  case atStart => exact ⟨0, 0, _, 0, 0, [], rfl, rfl, rfl, Nat.zero_le _, H0.out⟩
  case round =>
    obtain ⟨k, m, A2, n2, c2, pre, rfl, rfl, rfl, hk, ha, hm, ho2, hn2, hp, hb⟩ := hrel
    clear H0
    have hz := hb.size
    have HA := Lib.hid ha
    have HO := Lib.hid ho2
    have HP := Lib.hid hp
    have HB := Lib.hid hb
    have HNN := Lib.hid (own_none ho2)
    clear ha ho2 hp
    by_cases hlt : k < n
    · have hlf : k < cs.length := by rw [HL.out]; exact hlt
      obtain ⟨b, o, hA, hBB, p0', p1', p2', p3', p4', p5'⟩ := HR.out.at_ hlf
      subst hA
      have hcc := (Rows_.bcell hb).1
      have p0 := (hcc _ _ hBB).trans p0'; have p1 := (hcc _ _ hBB).trans p1'; have p2 := (hcc _ _ hBB).trans p2'; have p3 := (hcc _ _ hBB).trans p3'; have p4 := (hcc _ _ hBB).trans p4'; have p5 := (hcc _ _ hBB).trans p5'
      clear p0' p1' p2' p3' p4' p5' hcc hb
      have hbw : b < wr.heap.size := by omega
      have HAN := Lib.hid (fun (h : okC cs[k] = false) => show cs.all okC = false from all_no hlf h)
      have HAY := Lib.hid (fun (h : okC cs[k] = true) => take_all hlf HA.out h)
      have HDR := Lib.hid (List.drop_eq_getElem_cons hlf)
      have HOC := Lib.hid (show okC cs[k] = (Rune.showB cs[k].r && okA cs[k].fg cs[k].bg) from rfl)
      have HNB := Lib.hid (fun (h : okC cs[k] = true) => numC_bd h)
      have HEL := Lib.hid (fun (kk : Nat) (hkk : kk ≤ 4294967295) (h : okC cs[k] = true) => encC_len hkk h)
      obtain ⟨xc, hxc⟩ : ∃ xc, xc = cs[k] := ⟨_, rfl⟩
      rw [← hxc] at p0 p1 p2 p3 p4 p5 HAN HAY HDR HOC HNB HEL
      have HXC := Lib.hid hxc
      clear hxc
      obtain ⟨xr, xfg, xbg, xb, xu, xt⟩ := xc
      dsimp only at p0 p1 p2 p3 p4 p5 HOC
      have HA0 := Lib.hid (Below.alloc HB.out hz (.cells #[.int .i64 xr, .int .i64 xfg, .int .i64 xbg, .bool xb, .bool xu, .bool xt] 86))
      obtain ⟨q, hq⟩ : ∃ q, q = okC ⟨xr, xfg, xbg, xb, xu, xt⟩ := ⟨_, rfl⟩
      rw [← hq] at HAN HAY HOC HNB HEL
      have HCK := Lib.hid (fun V => show Calls Try.prog 58 #[.agg #[.int .i64 xr, .int .i64 xfg, .int .i64 xbg, .bool xb, .bool xu, .bool xt]] V (fun e w' => e = .returned (.bool q) ∧ Below V.heap.size V w') from by rw [HOC.out]; exact spec_CellOk_any _ _ _ _ _ _ V)
      have HQ := Lib.hid hq
      clear hq HOC
      cases q
      · obtain ⟨rfl, rfl⟩ := HNO.out (HAN.out (by trivial))
        go_wp2_with fail
        refine (HCK.out _).mono ?_
        rintro e v1 ⟨rfl, hx1⟩
        have HX1 := Lib.hid (HA0.out.trans (hx1.mono (by simp; omega)))
        clear hx1
        go_wp2_with fail
        go_ret2
        exact ⟨none, 0, rfl, own_nil _ _, HX1.out⟩
      · have hy := HNB.out (by trivial)
        obtain ⟨g1, g2, g3, g4, g5⟩ := hy
        obtain ⟨R, hR⟩ : ∃ R : Nat, xr = (R : Int) := ⟨xr.toNat, by have : 0 ≤ xr := g2; omega⟩
        obtain ⟨N, hN⟩ : ∃ N : Nat, anV xfg xbg xb xu xt = (N : Int) := ⟨(anV xfg xbg xb xu xt).toNat, by have : 0 ≤ anV xfg xbg xb xu xt := g3; omega⟩
        have eN : numC ⟨xr, xfg, xbg, xb, xu, xt⟩ = N := by unfold numC; show (anV xfg xbg xb xu xt).toNat = N; rw [hN]; rfl
        have hNb : N < 648 := by rw [← eN]; exact g5
        have hRb : R ≤ 1114111 := by have : xr.toNat ≤ 1114111 := g1; rw [hR] at this; simpa using this
        have HENC := Lib.hid (show encC (m + 1) ⟨xr, xfg, xbg, xb, xu, xt⟩ = vEnc (m + 1) ++ (vEnc R ++ vEnc N) from by
          unfold encC; rw [eN]; show vEnc (m + 1) ++ (vEnc xr.toNat ++ vEnc N) = _; rw [hR, Int.toNat_natCast])
        have HEN := Lib.hid (HEL.out (m + 1) (by omega) (by trivial))
        have HAY2 := Lib.hid (HAY.out (by trivial))
        have HATN := Lib.hid (fun V => show Calls Try.prog 59 #[.agg #[.int .i64 xfg, .int .i64 xbg, .bool xb, .bool xu, .bool xt]] V (fun e w' => e = .returned (.int .i64 (N : Int)) ∧ Below V.heap.size V w') from hN ▸ spec_AttrNum_any xfg xbg xb xu xt V)
        subst hR
        clear g1 g2 g3 g4 g5 hN eN HNB HEL HAY HAN
        -- the next cell
        have HNX := Lib.hid (fun (h : k + 1 < cs.length) => show beqC cs[k + 1] ⟨(R : Int), xfg, xbg, xb, xu, xt⟩ = decide (cs[k + 1].r = (R : Int) ∧ cs[k + 1].fg = xfg ∧ cs[k + 1].bg = xbg ∧ cs[k + 1].b = xb ∧ cs[k + 1].u = xu ∧ cs[k + 1].t = xt) from rfl)
        have HD2 := Lib.hid (fun (h : k + 1 < cs.length) => List.drop_eq_getElem_cons h)
        have HLP := Lib.hid HO.out.len
        have hw1 : IntKind.i64.wrap ((k : Int) + 1) = (k : Int) + 1 := IntWalk.i64_in _ (by omega)
        have hw2 : IntKind.i64.wrap ((m : Int) + 1) = (m : Int) + 1 := IntWalk.i64_in _ (by omega)
        have HRB0 := Lib.hid (Opq.RowB.new wr #[.int .i64 (R : Int), .int .i64 xfg, .int .i64 xbg, .bool xb, .bool xu, .bool xt] 86)
        by_cases hk1 : k + 1 < n
        · have hlf1 : k + 1 < cs.length := by rw [HL.out]; exact hk1
          obtain ⟨b9, o9, hA9, _, q0', q1', q2', q3', q4', q5'⟩ := HR.out.at_ hlf1
          injection hA9 with hA9; injection hA9 with e1 e2; subst e1 e2
          have HNXT := Lib.hid (HNX.out hlf1)
          have HDRT := Lib.hid (HD2.out hlf1)
          obtain ⟨yc, hyc⟩ : ∃ yc, yc = cs[k + 1] := ⟨_, rfl⟩
          rw [← hyc] at q0' q1' q2' q3' q4' q5' HNXT HDRT
          clear hyc HNX HD2
          obtain ⟨yr, yfg, ybg, yb, yu, yt⟩ := yc
          dsimp only at q0' q1' q2' q3' q4' q5' HNXT
          obtain ⟨be, hbe⟩ : ∃ be, be = beqC ⟨yr, yfg, ybg, yb, yu, yt⟩ ⟨(R : Int), xfg, xbg, xb, xu, xt⟩ := ⟨_, rfl⟩
          rw [← hbe] at HNXT
          have HBE := Lib.hid hbe
          clear hbe
          have hge : ∀ (p q : Operand) (v : World), (eqGuard .eql 86 p q (.agg #[.int .i64 yr, .int .i64 yfg, .int .i64 ybg, .bool yb, .bool yu, .bool yt]) (.agg #[.int .i64 (R : Int), .int .i64 xfg, .int .i64 xbg, .bool xb, .bool xu, .bool xt])).run Try.prog v = .ok () v := fun p q v => guardE p q _ _ v
          have heq : ∀ (v : World), (binOp .eql 86 (.agg #[.int .i64 yr, .int .i64 yfg, .int .i64 ybg, .bool yb, .bool yu, .bool yt]) (.agg #[.int .i64 (R : Int), .int .i64 xfg, .int .i64 xbg, .bool xb, .bool xu, .bool xt])).run Try.prog v = .ok (.bool be) v := fun v => by rw [HNXT.out]; exact eqlC _ _ _ _ _ _ _ _ _ _ _ _ v
          have hd1 : decide ((k : Int) + 1 < (n : Int)) = true := decide_eq_true (by omega)
          have hti : ((k : Int) + 1).toNat = k + 1 := by omega
          have HQC := Lib.hid (show w.cell? ⟨b, o + (k + 1) * 6, none⟩ = some (.int .i64 yr) ∧ w.cell? ⟨b, o + (k + 1) * 6 + 1, none⟩ = some (.int .i64 yfg) ∧ w.cell? ⟨b, o + (k + 1) * 6 + 2, none⟩ = some (.int .i64 ybg) ∧ w.cell? ⟨b, o + (k + 1) * 6 + 3, none⟩ = some (.bool yb) ∧ w.cell? ⟨b, o + (k + 1) * 6 + 4, none⟩ = some (.bool yu) ∧ w.cell? ⟨b, o + (k + 1) * 6 + 5, none⟩ = some (.bool yt) from ⟨q0', q1', q2', q3', q4', q5'⟩)
          clear q0' q1' q2' q3' q4' q5' HNXT hlf1
          cases be
          all_goals
            go_wp2_with fail
            refine (HCK.out _).mono ?_
            rintro e v1 ⟨rfl, hx1⟩
            have HX1 := Lib.hid (HA0.out.trans (hx1.mono (by simp; omega)))
            have HR1 := Lib.hid (HRB0.out.below hx1 (by simp))
            have HO1 := Lib.hid ((HO.out.below (Nat.le_refl _) ((Below.refl wr.heap.size wr).alloc (Nat.le_refl _) (.cells #[.int .i64 (R : Int), .int .i64 xfg, .int .i64 xbg, .bool xb, .bool xu, .bool xt] 86))).below (Nat.le_refl _) hx1)
            have hcc := (Rows_.bcell HX1.out).1
            obtain ⟨q0', q1', q2', q3', q4', q5'⟩ := HQC.out
            have q0 := (hcc _ _ hBB).trans q0'; have q1 := (hcc _ _ hBB).trans q1'; have q2 := (hcc _ _ hBB).trans q2'; have q3 := (hcc _ _ hBB).trans q3'; have q4 := (hcc _ _ hBB).trans q4'; have q5 := (hcc _ _ hBB).trans q5'
            have hbv : b < v1.heap.size := by have := HX1.out.size; omega
            clear q0' q1' q2' q3' q4' q5' hcc hx1 p0 p1 p2 p3 p4 p5
            have v1b0 : v1.cell? ⟨wr.heap.size, 0, none⟩ = some (.int .i64 (R : Int)) := HR1.out.cell 0
            have v1b1 : v1.cell? ⟨wr.heap.size, 1, none⟩ = some (.int .i64 xfg) := HR1.out.cell 1
            have v1b2 : v1.cell? ⟨wr.heap.size, 2, none⟩ = some (.int .i64 xbg) := HR1.out.cell 2
            have v1b3 : v1.cell? ⟨wr.heap.size, 3, none⟩ = some (.bool xb) := HR1.out.cell 3
            have v1b4 : v1.cell? ⟨wr.heap.size, 4, none⟩ = some (.bool xu) := HR1.out.cell 4
            have v1b5 : v1.cell? ⟨wr.heap.size, 5, none⟩ = some (.bool xt) := HR1.out.cell 5
            go_upto_region 11 with fail
            go_quiet (fail)
            obtain ⟨v2, hv2⟩ : ∃ v2, v2 = v1.drewN nq := ⟨_, rfl⟩
            rw [← hv2]
            have HX2 := Lib.hid (show Below w.heap.size w v2 from by rw [hv2]; exact below_drewN HX1.out nq)
            have HR2 := Lib.hid (show Opq.RowB v2 wr.heap.size #[.int .i64 (R : Int), .int .i64 xfg, .int .i64 xbg, .bool xb, .bool xu, .bool xt] from by rw [hv2]; exact HR1.out)
            have HO2 := Lib.hid (show Own v2 w.heap.size A2 n2 c2 pre from by rw [hv2]; exact HO1.out)
            clear hv2 q0 q1 q2 q3 q4 q5 hge heq HX1 HR1 HO1
            clear v1b0 v1b1 v1b2 v1b3 v1b4 v1b5
          · have HRC := Lib.hid (show runC ⟨(R : Int), xfg, xbg, xb, xu, xt⟩ (cs.drop (k + 1)) = 0 by rw [HDRT.out, runC, if_neg (by rw [← HBE.out]; decide)])
            have v2b0 : v2.cell? ⟨wr.heap.size, 0, none⟩ = some (.int .i64 (R : Int)) := HR2.out.cell 0
            have v2b1 : v2.cell? ⟨wr.heap.size, 1, none⟩ = some (.int .i64 xfg) := HR2.out.cell 1
            have v2b2 : v2.cell? ⟨wr.heap.size, 2, none⟩ = some (.int .i64 xbg) := HR2.out.cell 2
            have v2b3 : v2.cell? ⟨wr.heap.size, 3, none⟩ = some (.bool xb) := HR2.out.cell 3
            have v2b4 : v2.cell? ⟨wr.heap.size, 4, none⟩ = some (.bool xu) := HR2.out.cell 4
            have v2b5 : v2.cell? ⟨wr.heap.size, 5, none⟩ = some (.bool xt) := HR2.out.cell 5
            have hzq : w.heap.size ≤ v2.heap.size := HX2.out.size
            go_wp2_with fail
            refine (putG A2 n2 c2 w.heap.size pre (m + 1) _ (by omega) _ HO2.out hzq (by omega) (by omega)).mono ?_
            rintro e v3 ⟨A3, n3, c3, rfl, ho3, hx3⟩
            have HO3 := Lib.hid ho3
            have hz3 : w.heap.size ≤ v3.heap.size := by have := hx3.size; omega
            have HX3 := Lib.hid (HX2.out.trans (hx3.mono hzq))
            have HR3 := Lib.hid (HR2.out.below hx3 HR2.out.lt)
            have hn3 : n3 ≤ 15 * k + 5 := by { have h := ho3.len; have h2 := HLP.out; rw [List.length_append] at h; have := vEnc_len5 (n := m + 1) (by omega); omega }
            clear ho3 hx3
            have v3b0 : v3.cell? ⟨wr.heap.size, 0, none⟩ = some (.int .i64 (R : Int)) := HR3.out.cell 0
            have v3b1 : v3.cell? ⟨wr.heap.size, 1, none⟩ = some (.int .i64 xfg) := HR3.out.cell 1
            have v3b2 : v3.cell? ⟨wr.heap.size, 2, none⟩ = some (.int .i64 xbg) := HR3.out.cell 2
            have v3b3 : v3.cell? ⟨wr.heap.size, 3, none⟩ = some (.bool xb) := HR3.out.cell 3
            have v3b4 : v3.cell? ⟨wr.heap.size, 4, none⟩ = some (.bool xu) := HR3.out.cell 4
            have v3b5 : v3.cell? ⟨wr.heap.size, 5, none⟩ = some (.bool xt) := HR3.out.cell 5
            go_wp2_with fail
            refine (putG A3 n3 c3 w.heap.size _ R _ rfl _ HO3.out hz3 (by omega) (by omega)).mono ?_
            rintro e v4 ⟨A4, n4, c4, rfl, ho4, hx4⟩
            have HO4 := Lib.hid ho4
            have hz4 : w.heap.size ≤ v4.heap.size := by have := hx4.size; omega
            have HX4 := Lib.hid (HX3.out.trans (hx4.mono hz3))
            have HR4 := Lib.hid (HR3.out.below hx4 HR3.out.lt)
            have hn4 : n4 ≤ 15 * k + 10 := by { have h := ho4.len; have h3 := HO3.out.len; rw [List.length_append] at h; have := vEnc_len5 (n := R) (by omega); omega }
            clear ho4 hx4
            clear v3b0 v3b1 v3b2 v3b3 v3b4 v3b5
            have v4b0 : v4.cell? ⟨wr.heap.size, 0, none⟩ = some (.int .i64 (R : Int)) := HR4.out.cell 0
            have v4b1 : v4.cell? ⟨wr.heap.size, 1, none⟩ = some (.int .i64 xfg) := HR4.out.cell 1
            have v4b2 : v4.cell? ⟨wr.heap.size, 2, none⟩ = some (.int .i64 xbg) := HR4.out.cell 2
            have v4b3 : v4.cell? ⟨wr.heap.size, 3, none⟩ = some (.bool xb) := HR4.out.cell 3
            have v4b4 : v4.cell? ⟨wr.heap.size, 4, none⟩ = some (.bool xu) := HR4.out.cell 4
            have v4b5 : v4.cell? ⟨wr.heap.size, 5, none⟩ = some (.bool xt) := HR4.out.cell 5
            go_wp2_with fail
            refine (HATN.out _).mono ?_
            rintro e v5 ⟨rfl, hx5⟩
            have HO5 := Lib.hid (HO4.out.below (Nat.le_refl _) hx5)
            have hz5 : w.heap.size ≤ v5.heap.size := by have := hx5.size; omega
            have HX5 := Lib.hid (HX4.out.trans (hx5.mono hz4))
            clear hx5
            clear v4b0 v4b1 v4b2 v4b3 v4b4 v4b5
            go_wp2_with fail
            refine (putG A4 n4 c4 w.heap.size _ N _ rfl _ HO5.out hz5 (by omega) (by omega)).mono ?_
            rintro e v6 ⟨A6, n6, c6, rfl, ho6, hx6⟩
            have HO6 := Lib.hid ho6
            have HX6 := Lib.hid (HX5.out.trans (hx6.mono hz5))
            have hn6 : n6 ≤ 15 * (k + 1) := by { have h := ho6.len; have h3 := HO4.out.len; rw [List.length_append] at h; have := vEnc_len5 (n := N) (by omega); omega }
            clear ho6 hx6
            have HFIN := Lib.hid (show SbIn w cs (k + 1) 0 A6 n6 c6 (((pre ++ vEnc (m + 1)) ++ vEnc R) ++ vEnc N) v6 from ⟨HAY2.out, by omega, HO6.out, hn6, by {
              have h := HP.out
              rw [HDR.out, encN_new HRC.out, HENC.out] at h
              rw [encN_zero, ← h]; simp only [List.append_assoc] }, HX6.out⟩)
            go_wp2_with fail
            exact ⟨⟨k + 1, 0, A6, n6, c6, _, rfl, rfl, by go_num, by omega, HFIN.out⟩, by simp [intOf]; omega⟩
          · have HFIN := Lib.hid (show SbIn w cs (k + 1) (m + 1) A2 n2 c2 pre v2 from ⟨HAY2.out, by omega, HO2.out, by omega, by {
              have h := HP.out
              rw [HDR.out, HDRT.out, encN_same HBE.out.symm, ← HDRT.out] at h
              exact h }, HX2.out⟩)
            go_wp2_with fail
            exact ⟨⟨k + 1, m + 1, A2, n2, c2, _, rfl, by go_num, by go_num, by omega, HFIN.out⟩, by simp [intOf]; omega⟩
        · have hd1 : decide ((k : Int) + 1 < (n : Int)) = false := decide_eq_false (by omega)
          have HRC := Lib.hid (show runC ⟨(R : Int), xfg, xbg, xb, xu, xt⟩ (cs.drop (k + 1)) = 0 by rw [List.drop_of_length_le (by rw [HL.out]; omega)]; rfl)
          clear HNX HD2
          go_wp2_with fail
          refine (HCK.out _).mono ?_
          rintro e v1 ⟨rfl, hx1⟩
          have HX1 := Lib.hid (HA0.out.trans (hx1.mono (by simp; omega)))
          have HR1 := Lib.hid (HRB0.out.below hx1 (by simp))
          have HO1 := Lib.hid ((HO.out.below (Nat.le_refl _) ((Below.refl wr.heap.size wr).alloc (Nat.le_refl _) (.cells #[.int .i64 (R : Int), .int .i64 xfg, .int .i64 xbg, .bool xb, .bool xu, .bool xt] 86))).below (Nat.le_refl _) hx1)
          clear hx1 p0 p1 p2 p3 p4 p5
          have v1b0 : v1.cell? ⟨wr.heap.size, 0, none⟩ = some (.int .i64 (R : Int)) := HR1.out.cell 0
          have v1b1 : v1.cell? ⟨wr.heap.size, 1, none⟩ = some (.int .i64 xfg) := HR1.out.cell 1
          have v1b2 : v1.cell? ⟨wr.heap.size, 2, none⟩ = some (.int .i64 xbg) := HR1.out.cell 2
          have v1b3 : v1.cell? ⟨wr.heap.size, 3, none⟩ = some (.bool xb) := HR1.out.cell 3
          have v1b4 : v1.cell? ⟨wr.heap.size, 4, none⟩ = some (.bool xu) := HR1.out.cell 4
          have v1b5 : v1.cell? ⟨wr.heap.size, 5, none⟩ = some (.bool xt) := HR1.out.cell 5
          go_upto_region 11 with fail
          go_quiet (fail)
          obtain ⟨v2, hv2⟩ : ∃ v2, v2 = v1.drewN nq := ⟨_, rfl⟩
          rw [← hv2]
          have HX2 := Lib.hid (show Below w.heap.size w v2 from by rw [hv2]; exact below_drewN HX1.out nq)
          have HR2 := Lib.hid (show Opq.RowB v2 wr.heap.size #[.int .i64 (R : Int), .int .i64 xfg, .int .i64 xbg, .bool xb, .bool xu, .bool xt] from by rw [hv2]; exact HR1.out)
          have HO2 := Lib.hid (show Own v2 w.heap.size A2 n2 c2 pre from by rw [hv2]; exact HO1.out)
          clear hv2 HX1 HR1 HO1 hd1
          clear v1b0 v1b1 v1b2 v1b3 v1b4 v1b5
          have v2b0 : v2.cell? ⟨wr.heap.size, 0, none⟩ = some (.int .i64 (R : Int)) := HR2.out.cell 0
          have v2b1 : v2.cell? ⟨wr.heap.size, 1, none⟩ = some (.int .i64 xfg) := HR2.out.cell 1
          have v2b2 : v2.cell? ⟨wr.heap.size, 2, none⟩ = some (.int .i64 xbg) := HR2.out.cell 2
          have v2b3 : v2.cell? ⟨wr.heap.size, 3, none⟩ = some (.bool xb) := HR2.out.cell 3
          have v2b4 : v2.cell? ⟨wr.heap.size, 4, none⟩ = some (.bool xu) := HR2.out.cell 4
          have v2b5 : v2.cell? ⟨wr.heap.size, 5, none⟩ = some (.bool xt) := HR2.out.cell 5
          have hzq : w.heap.size ≤ v2.heap.size := HX2.out.size
          go_wp2_with fail
          refine (putG A2 n2 c2 w.heap.size pre (m + 1) _ (by omega) _ HO2.out hzq (by omega) (by omega)).mono ?_
          rintro e v3 ⟨A3, n3, c3, rfl, ho3, hx3⟩
          have HO3 := Lib.hid ho3
          have hz3 : w.heap.size ≤ v3.heap.size := by have := hx3.size; omega
          have HX3 := Lib.hid (HX2.out.trans (hx3.mono hzq))
          have HR3 := Lib.hid (HR2.out.below hx3 HR2.out.lt)
          have hn3 : n3 ≤ 15 * k + 5 := by { have h := ho3.len; have h2 := HLP.out; rw [List.length_append] at h; have := vEnc_len5 (n := m + 1) (by omega); omega }
          clear ho3 hx3
          have v3b0 : v3.cell? ⟨wr.heap.size, 0, none⟩ = some (.int .i64 (R : Int)) := HR3.out.cell 0
          have v3b1 : v3.cell? ⟨wr.heap.size, 1, none⟩ = some (.int .i64 xfg) := HR3.out.cell 1
          have v3b2 : v3.cell? ⟨wr.heap.size, 2, none⟩ = some (.int .i64 xbg) := HR3.out.cell 2
          have v3b3 : v3.cell? ⟨wr.heap.size, 3, none⟩ = some (.bool xb) := HR3.out.cell 3
          have v3b4 : v3.cell? ⟨wr.heap.size, 4, none⟩ = some (.bool xu) := HR3.out.cell 4
          have v3b5 : v3.cell? ⟨wr.heap.size, 5, none⟩ = some (.bool xt) := HR3.out.cell 5
          go_wp2_with fail
          refine (putG A3 n3 c3 w.heap.size _ R _ rfl _ HO3.out hz3 (by omega) (by omega)).mono ?_
          rintro e v4 ⟨A4, n4, c4, rfl, ho4, hx4⟩
          have HO4 := Lib.hid ho4
          have hz4 : w.heap.size ≤ v4.heap.size := by have := hx4.size; omega
          have HX4 := Lib.hid (HX3.out.trans (hx4.mono hz3))
          have HR4 := Lib.hid (HR3.out.below hx4 HR3.out.lt)
          have hn4 : n4 ≤ 15 * k + 10 := by { have h := ho4.len; have h3 := HO3.out.len; rw [List.length_append] at h; have := vEnc_len5 (n := R) (by omega); omega }
          clear ho4 hx4
          clear v3b0 v3b1 v3b2 v3b3 v3b4 v3b5
          have v4b0 : v4.cell? ⟨wr.heap.size, 0, none⟩ = some (.int .i64 (R : Int)) := HR4.out.cell 0
          have v4b1 : v4.cell? ⟨wr.heap.size, 1, none⟩ = some (.int .i64 xfg) := HR4.out.cell 1
          have v4b2 : v4.cell? ⟨wr.heap.size, 2, none⟩ = some (.int .i64 xbg) := HR4.out.cell 2
          have v4b3 : v4.cell? ⟨wr.heap.size, 3, none⟩ = some (.bool xb) := HR4.out.cell 3
          have v4b4 : v4.cell? ⟨wr.heap.size, 4, none⟩ = some (.bool xu) := HR4.out.cell 4
          have v4b5 : v4.cell? ⟨wr.heap.size, 5, none⟩ = some (.bool xt) := HR4.out.cell 5
          go_wp2_with fail
          refine (HATN.out _).mono ?_
          rintro e v5 ⟨rfl, hx5⟩
          have HO5 := Lib.hid (HO4.out.below (Nat.le_refl _) hx5)
          have hz5 : w.heap.size ≤ v5.heap.size := by have := hx5.size; omega
          have HX5 := Lib.hid (HX4.out.trans (hx5.mono hz4))
          clear hx5
          clear v4b0 v4b1 v4b2 v4b3 v4b4 v4b5
          go_wp2_with fail
          refine (putG A4 n4 c4 w.heap.size _ N _ rfl _ HO5.out hz5 (by omega) (by omega)).mono ?_
          rintro e v6 ⟨A6, n6, c6, rfl, ho6, hx6⟩
          have HO6 := Lib.hid ho6
          have HX6 := Lib.hid (HX5.out.trans (hx6.mono hz5))
          have hn6 : n6 ≤ 15 * (k + 1) := by { have h := ho6.len; have h3 := HO4.out.len; rw [List.length_append] at h; have := vEnc_len5 (n := N) (by omega); omega }
          clear ho6 hx6
          have HFIN := Lib.hid (show SbIn w cs (k + 1) 0 A6 n6 c6 (((pre ++ vEnc (m + 1)) ++ vEnc R) ++ vEnc N) v6 from ⟨HAY2.out, by omega, HO6.out, hn6, by {
            have h := HP.out
            rw [HDR.out, encN_new HRC.out, HENC.out] at h
            rw [encN_zero, ← h]; simp only [List.append_assoc] }, HX6.out⟩)
          go_wp2_with fail
          exact ⟨⟨k + 1, 0, A6, n6, c6, _, rfl, rfl, by go_num, by omega, HFIN.out⟩, by simp [intOf]; omega⟩
    · obtain rfl : n = k := by omega
      have hall : cs.all okC = true := by have h := HA.out; rw [List.take_of_length_le (by rw [HL.out]; omega)] at h; exact h
      obtain ⟨rfl, ho1⟩ := HYES.out hall
      have hpe : pre = encR cs := by
        have h := HP.out
        rw [List.drop_of_length_le (by rw [HL.out]; omega)] at h
        rw [← h]; show pre = pre ++ []; rw [List.append_nil]
      rw [← hpe] at ho1
      subst ho1
      have HLE := Lib.hid HO.out.len
      clear hpe hall
      go_wp2_with fail
      go_ret2
      exact ⟨A2, c2, by rw [HLE.out]; rfl, by rw [HLE.out]; exact HO.out, HB.out⟩
end Go.Proofs.Yteiojpglhmikoaa.Cb

