/- FnJournal: the walk of the law from the contracts of the program and of the draws; at every input, no condition. -/
import Derived.Test.YteiojpglhmikoaaJourMath
import Derived.Test.YteiojpglhmikoaaJourBytes
import Derived.Test.YteiojpglhmikoaaDrawLoads
import Derived.Test.YteiojpglhmikoaaConv
import Derived.Test.YteiojpglhmikoaaLoadEq
import Derived.Deep.Cut
import Derived.Deep.CutRange
import Derived.Deep.DeepCutAuto
namespace Go.Proofs.Yteiojpglhmikoaa.fnJournal
open Go.RowKit Go.Proofs.Yteiojpglhmikoaa.Bytes Go.Proofs.Yteiojpglhmikoaa.Var Go.Proofs.Yteiojpglhmikoaa.Frame Go.Proofs.Yteiojpglhmikoaa.Loads Go.Proofs.Yteiojpglhmikoaa.Draw
set_option linter.unusedVariables false
theorem own : ownKnob Try.prog.godebug = none := by kernel_rfl

/-- what is known of the world before the loop, carried on to later ones -/
structure Kn (w : World) (B : Nat) (Al : Option Addr) (gl : List LoadD) (Aa : Option Addr) (ga : List LoadD) (Ab : Option Addr) (bs : List Int) : Prop where
  l : RdLo w B Al gl
  lb : ∀ g ∈ gl, Rd w B g.A g.bytes ∧ g.bytes.length = g.n ∧ (g.A = none → g.n = 0 ∧ g.c = 0)
  a : RdLo w B Aa ga
  ab : ∀ g ∈ ga, Rd w B g.A g.bytes ∧ g.bytes.length = g.n ∧ (g.A = none → g.n = 0 ∧ g.c = 0)
  b : Rd w B Ab bs
theorem Kn.to {w w' : World} {B : Nat} {Al Aa Ab : Option Addr} {gl ga : List LoadD} {bs : List Int} (h : Kn w B Al gl Aa ga Ab bs) (hb : Below B w w') : Kn w' B Al gl Aa ga Ab bs :=
  ⟨h.l.below (Nat.le_refl _) hb, fun g hg => ⟨(h.lb g hg).1.below (Nat.le_refl _) hb, (h.lb g hg).2⟩, h.a.below (Nat.le_refl _) hb, fun g hg => ⟨(h.ab g hg).1.below (Nat.le_refl _) hb, (h.ab g hg).2⟩, h.b.below (Nat.le_refl _) hb⟩
theorem rd_take {w : World} {B : Nat} {A : Option Addr} {zs : List Int} (h : Rd w B A zs) (k : Nat) : Rd w B A (zs.take k) := by
  intro hn
  rw [List.length_take] at hn
  obtain ⟨b, o, e, hlt, hc⟩ := h (by omega)
  refine ⟨b, o, e, hlt, fun i hi => ?_⟩
  rw [List.length_take] at hi
  rw [hc i (by omega)]
  simp [List.getD, show i < k by omega]
theorem ext_drewN (w : World) (j : Nat) : ∀ p u, w.cell? p = some u → (w.drewN j).cell? p = some u := fun p u h => h

set_option maxRecDepth 100000 in
set_option maxHeartbeats 8000000 in
theorem walk (a0 : Option Addr) (len0 cap0 : Nat) (z0 : List Int) (w : World) (w0 : IsRow .u8 w a0 len0 cap0 z0) :
    Calls Try.prog 3 #[.slice a0 len0 cap0] w fun e w' => e = .returned (.bool true) ∧ Below w.heap.size w w' := by
  obtain ⟨HR, hl, hA, hrng⟩ := w0.open_
  clear w0
  generalize z0.take len0 = zs at *
  by_cases hbig : len0 ≤ 1048576
  · have HL := Lib.hid hl
    clear hl hA
    go_enter Try.func3, Try.ntmps3
    go_wp2_with fail
    refine (makeLoads_any a0 len0 cap0 zs _ HR hrng HL.out (by omega)).mono ?_
    rintro e v1 ⟨s, A1, m, c1, gl, rfl, hs1, hs2, hm6, hol, hobl, hgl, hb1⟩
    have hml := hol.len
    obtain ⟨ls, hls⟩ : ∃ ls, ls = gl.map (·.bytes) := ⟨_, rfl⟩
    have hlsl : ls.length = m := by rw [hls, List.length_map]; exact hml
    have hat : ∀ (i : Nat) (h : i < gl.length) (h' : i < ls.length), ls[i] = gl[i].bytes := by intro i h h'; subst hls; simp
    have hl9 : ∀ d ∈ ls, Byt d ∧ d.length ≤ 9 := by
      intro d hd
      rw [hls] at hd
      obtain ⟨g, hg, rfl⟩ := List.mem_map.1 hd
      have h1 := (hobl.1 g hg).len
      have h2 := hgl g hg
      exact ⟨h2.1, by omega⟩
    have hK : jrK s ls = true := jrK_of ls s hs1 (by omega) fun d hd => by have := (hl9 d hd).2; omega
    have hB := jrB_len9 ls s fun d hd => (hl9 d hd).2
    have hDat : Datas ls := fun d hd => (hl9 d hd).1
    have hByt := jrB_byt ls s hDat
    have hO : jrO s ls = jrB s ls := by unfold jrO; rw [if_pos hK]
    have hall := read_all ls s hK hDat
    have HK := Lib.hid hK
    have HDat := Lib.hid hDat
    have HByt := Lib.hid hByt
    have HAll := Lib.hid hall
    have HGL := Lib.hid hgl
    have HOL := Lib.hid hol
    have HOBL := Lib.hid hobl
    have HLS := Lib.hid hls
    have HLSL := Lib.hid hlsl
    have HAT := Lib.hid hat
    have HL9 := Lib.hid hl9
    have HML := Lib.hid hml
    have hBm : (jrB s ls).length ≤ 150 := by omega
    clear hall hDat hByt hK hgl hol hobl hls hlsl hat hl9 hml hB
    have hsz1 := hb1.size
    have HB1 := Lib.hid hb1
    have hRdl := HOBL.out.rdB (fun g hg => (HGL.out g hg).1)
    have HJB := Lib.hid (impl_JournalBytes_any A1 m c1 gl ls s v1 HOL.out.rd HML.out (by omega) hRdl (fun g hg => own_none (HOBL.out.1 g hg)) (fun g hg => by have := (HGL.out g hg).2; omega) HLS.out.symm ⟨by omega, by omega⟩)
    rw [hO, HK.out] at HJB
    clear hO hRdl hb1
    go_wp2_with fail
    refine HJB.out.mono ?_
    rintro e v2 ⟨A2, n2, c2, rfl, hob, hx2⟩
    have hl2 := hob.len
    have hcap2 := hob.cap
    have hA2 := own_none hob
    have HB2 := Lib.hid (HB1.out.trans (hx2.mono hsz1))
    have hsz2 := HB2.out.size
    have HOL2 := Lib.hid (HOL.out.below (Nat.le_refl _) hx2)
    have HOBL2 := Lib.hid (HOBL.out.below (Nat.le_refl _) hx2)
    have HOB2 := Lib.hid hob
    have hn2 : n2 ≤ 150 := by omega
    have HL2 := Lib.hid hl2
    have HA2 := Lib.hid hA2
    clear hob hx2 hl2 hA2
    go_wp2_with fail
    refine (impl_JournalRead_any A2 n2 c2 (jrB s ls) s _ HOB2.out.rd HByt.out HL2.out (by omega) hcap2 (by omega) (by omega)).mono ?_
    rintro e v3 ⟨A3, n3, c3, ga, rfl, hoa, hoba, hba, hx3⟩
    rw [HAll.out.1] at hba
    rw [HAll.out.2]
    have hl3 : ga.length = m := by rw [← List.length_map (·.bytes), hba]; exact HLSL.out
    have hn3 : n3 = m := by rw [← hoa.len]; exact hl3
    obtain rfl : n3 = m := hn3
    have HL3 := Lib.hid hl3
    have HBA := Lib.hid hba
    have HB3 := Lib.hid (HB2.out.trans (hx3.mono hsz2))
    have hsz3 := HB3.out.size
    have HOL3 := Lib.hid (HOL2.out.below (Nat.le_refl _) hx3)
    have HOBL3 := Lib.hid (HOBL2.out.below (Nat.le_refl _) hx3)
    have HOB3 := Lib.hid (HOB2.out.below (Nat.le_refl _) hx3)
    have HOA3 := Lib.hid hoa
    have HOBA3 := Lib.hid hoba
    clear hoa hoba hba hx3 hl3
    have q1 : ((((jrB s ls).length : Nat) : Int) != (n2 : Int)) = false := by rw [HL2.out]; simp
    have q2 : ((n3 : Int) != (n3 : Int)) = false := by simp
    go_wp2_with fail
    have HRc := Lib.hid ((HR.below (Nat.le_refl _) HB3.out).more hsz3)
    refine (makeNum_any a0 len0 cap0 zs ((n2 : Int) + 1) _ HRc.out hrng HL.out (by omega) (by omega) (by omega)).mono ?_
    rintro e v4 ⟨x, rfl, hx0, hx1, hx4⟩
    obtain ⟨k, rfl⟩ := Int.eq_ofNat_of_zero_le hx0
    have hkn : k ≤ n2 := by omega
    have HB4 := Lib.hid (HB3.out.trans (hx4.mono hsz3))
    have hsz4 := HB4.out.size
    have HOL4 := Lib.hid (HOL3.out.below (Nat.le_refl _) hx4)
    have HOBL4 := Lib.hid (HOBL3.out.below (Nat.le_refl _) hx4)
    have HOB4 := Lib.hid (HOB3.out.below (Nat.le_refl _) hx4)
    have HOA4 := Lib.hid (HOA3.out.below (Nat.le_refl _) hx4)
    have HOBA4 := Lib.hid (HOBA3.out.below (Nat.le_refl _) hx4)
    clear hx4 hx0 hx1 q1 q2
    have HCut := Lib.hid (read_cut ls s k HK.out HDat.out)
    have htl := tc_le ls s k
    rw [HLSL.out] at htl
    have HTL := Lib.hid (tc_len ls s k HK.out)
    have HTS := Lib.hid (tc_some ls s k)
    have HTI := Lib.hid (tc_iff ls s k)
    have hkl : ((jrB s ls).take k).length = k := by rw [List.length_take, HL2.out]; omega
    have HKL := Lib.hid hkl
    have hRk := rd_take HOB4.out.rd k
    have HRK := Lib.hid hRk
    have HBK := Lib.hid (byt_take HByt.out k)
    clear hkl hRk
    have hkc : k ≤ c2 := by omega
    have hAk : A2 = none → k = 0 := fun h => by have := (HA2.out h).1; omega
    have HAK := Lib.hid hAk
    clear hAk
    have HJR := Lib.hid (impl_JournalRead_any A2 k c2 ((jrB s ls).take k) s v4 HRK.out HBK.out HKL.out (by omega) hkc (by omega) (by omega))
    generalize htc : tc s ls k = t at *
    clear htc
    go_wp2_with fail
    refine HJR.out.mono ?_
    rintro e v5 ⟨A5, n5, c5, gt, rfl, hot, hobt, hbt, hx5⟩
    rw [HCut.out.1] at hbt
    rw [HCut.out.2]
    have hlt5 : gt.length = t := by rw [← List.length_map (·.bytes), hbt, List.length_take, HLSL.out]; omega
    have hn5 : n5 = t := by rw [← hot.len]; exact hlt5
    obtain rfl : n5 = t := hn5
    have HB5 := Lib.hid (HB4.out.trans (hx5.mono hsz4))
    have hsz5 := HB5.out.size
    have HOL5 := Lib.hid (HOL4.out.below (Nat.le_refl _) hx5)
    have HOBL5 := Lib.hid (HOBL4.out.below (Nat.le_refl _) hx5)
    have HOB5 := Lib.hid (HOB4.out.below (Nat.le_refl _) hx5)
    have HOA5 := Lib.hid (HOA4.out.below (Nat.le_refl _) hx5)
    have HOBA5 := Lib.hid (HOBA4.out.below (Nat.le_refl _) hx5)
    have HKn := Lib.hid (show Kn v5 v5.heap.size A1 gl A3 ga A2 (jrB s ls) from ⟨HOL5.out.rd, fun g hg => ⟨(HOBL5.out.1 g hg).rd, (HOBL5.out.1 g hg).len, own_none (HOBL5.out.1 g hg)⟩, HOA5.out.rd, fun g hg => ⟨(HOBA5.out.1 g hg).rd, (HOBA5.out.1 g hg).len, own_none (HOBA5.out.1 g hg)⟩, HOB5.out.rd⟩)
    clear hot hobt hbt hx5 hlt5
    have r1 : ((jrB s (ls.take n5)).length : Int) ≤ (k : Int) := by have := HTL.out.2; omega
    obtain ⟨E, hE⟩ : ∃ E, E = (jrB s (ls.take n5)).length := ⟨_, rfl⟩
    rw [← hE] at r1 ⊢
    have HE := Lib.hid hE
    clear hE
    have r2 : n5 ≤ n3 := htl
    go_upto_region 10 with fail
    go_cut [95] (fun s wx => s = .bool false ∧ v5 = wx)
    case first =>
      have hdA : decide (k < E) = false := decide_eq_false (by omega)
      have hdB : decide (n3 < n5) = false := decide_eq_false (by omega)
      by_cases hkb : k < n2
      · by_cases hm0 : n3 = 0
        · have r3 : ((n5 : Int) == (n3 : Int)) = true := by simp; omega
          have r4 : decide (0 < n3) = false := decide_eq_false (by omega)
          have HM0 := Lib.hid hm0
          clear hm0
          go_wp2_with fail
          go_meet
          case rel => exact ⟨rfl, rfl⟩
        · have hlt := HTS.out (by rw [HLSL.out]; omega) (by rw [HL2.out]; exact hkb)
          rw [HLSL.out] at hlt
          have r3 : ((n5 : Int) == (n3 : Int)) = false := by simp; omega
          go_wp2_with fail
          go_meet
          case rel => exact ⟨rfl, rfl⟩
      · go_wp2_with fail
        go_meet
        case rel => exact ⟨rfl, rfl⟩
    case rest =>
    obtain ⟨rfl, rfl⟩ := hcut
    go_wp2_with fail
    go_loopw [12, 98] (fun p j wr => ∃ (i pos : Nat), i ≤ n3 ∧ j = .int .i64 i ∧ p = .int .i64 pos ∧ Hid (pos = (jrB s (ls.take i)).length) ∧ Below v5.heap.size v5 wr) (fun _ j _ => n3 - (intOf j).toNat)
    case atStart => exact ⟨0, 0, Nat.zero_le _, rfl, rfl, Lib.hid (by simp [jrB]), Below.refl _ _⟩
    case round =>
      obtain ⟨i, pos, hin, rfl, rfl, HP, hb⟩ := hrel
      have hz := hb.size
      by_cases hlt : i < n3
      · have h1 : i < gl.length := by rw [HML.out]; exact hlt
        have h2 : i < ga.length := by rw [HL3.out]; exact hlt
        have h3 : i < ls.length := by rw [HLSL.out]; exact hlt
        obtain ⟨x1, x2, x3, ds, hgx⟩ : ∃ x1 x2 x3 ds, gl[i] = ⟨x1, x2, x3, ds⟩ := ⟨_, _, _, _, rfl⟩
        obtain ⟨y1, y2, y3, es, hgy⟩ : ∃ x1 x2 x3 ds, ga[i] = ⟨x1, x2, x3, ds⟩ := ⟨_, _, _, _, rfl⟩
        have hds : ls[i] = ds := by rw [HAT.out i h1 h3, hgx]
        have hes : es = ds := by
          have e1 : (ga.map (·.bytes))[i]'(by rw [List.length_map]; exact h2) = ls[i] := by simp only [HBA.out]
          rw [List.getElem_map, hgy] at e1
          rw [← hds, ← e1]
        subst hes
        have hdl := HL9.out es (by rw [← hds]; exact List.getElem_mem h3)
        have KN := HKn.out.to hb
        have hxb := KN.lb gl[i] (List.getElem_mem h1)
        have hyb := KN.ab ga[i] (List.getElem_mem h2)
        obtain ⟨b, o, eA1, hB, hc0⟩ := KN.l.at_ h1
        obtain ⟨b', o', eA3, hB', hd0⟩ := KN.a.at_ h2
        rw [hgx] at hc0 hxb
        rw [hgy] at hd0 hyb
        simp only at hc0 hd0 hxb hyb
        have hx29 : x2 ≤ 9 := by have := hxb.2.1; have := hdl.2; omega
        have hfk := frK_at ls s i h3 HK.out
        rw [hds] at hfk
        have hnx := jrB_next ls s i h3
        rw [hds] at hnx
        have hnl := congrArg List.length hnx
        rw [List.length_append] at hnl
        have htle := jrB_take_le ls s (i + 1)
        rw [hnl, ← HP.out, HL2.out] at htle
        have hfp := frO_pos hfk
        have hti := HTI.out i h3
        rw [hnl, ← HP.out] at hti
        have hal : Below wr.heap.size wr (wr.alloc (.cells #[.slice x1 x2 x3] 32)) := (Below.refl _ _).alloc (Nat.le_refl _) _
        have HXR := Lib.hid ((hxb.1.more hz).below (Nat.le_refl _) hal |>.more hal.size)
        have HXL := Lib.hid hxb.2.1
        have HXA := Lib.hid hxb.2.2
        have HYR := Lib.hid hyb.1
        have HYL := Lib.hid hyb.2.1
        have HYA := Lib.hid hyb.2.2
        have HDS := Lib.hid hds
        have HFK := Lib.hid hfk
        have HNL := Lib.hid hnl
        have HTI2 := Lib.hid hti
        have HALB := Lib.hid hal
        have HB := Lib.hid hb
        have HKN := Lib.hid KN
        have hvar : (wr.alloc (.cells #[.slice x1 x2 x3] 32)).cell? ⟨wr.heap.size, 0, none⟩ = some (.slice x1 x2 x3) := by simp
        have HVAR := Lib.hid hvar
        have HXRG := Lib.hid hdl.1
        subst eA1 eA3
        have HGY := Lib.hid hgy
        have HFP := Lib.hid hfp
        clear hgx hgy hds hdl KN hxb hyb hfk hnx hnl hti hal hb hvar
        go_wp2_with fail
        refine (impl_FrameBytes_any x1 x2 x3 es (s + i) _ HXA.out HXR.out HXRG.out HXL.out (by omega)).mono ?_
        rintro e v6 ⟨A6, n6, c6, he, ho6, hx6⟩
        rw [HFK.out] at he
        subst he
        have hl6 := ho6.len
        have hn6 : 1 ≤ n6 := by have := HFP.out; omega
        have hb6 : Below wr.heap.size wr v6 := HALB.out.trans (hx6.mono HALB.out.size)
        have HKN6 := Lib.hid (HKN.out.to (hb6.mono hz))
        have hd6 : v6.cell? ⟨b', o' + i, none⟩ = some (.slice y1 y2 y3) := by
          obtain ⟨b2, o2, e2, hB2, hd6⟩ := HKN6.out.a.at_ (i := i) (by rw [HL3.out]; exact hlt)
          injection e2 with e2
          injection e2 with e3 e4
          subst e3 e4
          rw [HGY.out] at hd6
          exact hd6
        have hv6 : v6.cell? ⟨wr.heap.size, 0, none⟩ = some (.slice x1 x2 x3) := by
          rw [hx6.cell (by simp)]; exact HVAR.out
        have hcv1 : ∀ nq, (convert 22 9 (.slice y1 y2 y3)).run Try.prog (v6.drewN nq) = .ok (.string (strOfNums es)) (v6.drewN nq) := fun nq => conv_any (HYR.out.below (Nat.le_refl _) (hb6.mono hz)) HYL.out HYA.out _ (ext_drewN v6 nq)
        have hcv2 : ∀ nq, (convert 22 9 (.slice x1 x2 x3)).run Try.prog (v6.drewN nq) = .ok (.string (strOfNums es)) (v6.drewN nq) := fun nq => conv_any (HXR.out.below (Nat.le_refl _) hx6) HXL.out HXA.out _ (ext_drewN v6 nq)
        obtain ⟨st1, st2⟩ := str_eq (xs := es) (ys := es) rfl
        have hsum : IntKind.i64.wrap ((pos : Int) + (n6 : Int)) = (pos : Int) + (n6 : Int) := IntWalk.i64_in _ (by omega)
        have HB6 := Lib.hid (HB.out.trans (hb6.mono hz))
        have hPos : 1 ≤ pos + n6 := by omega
        have hPn : pos + n6 ≤ n2 := by rw [hl6] at htle; exact htle
        have HNL6 := Lib.hid (show pos + n6 = (jrB s (ls.take (i + 1))).length by rw [HNL.out, ← HP.out, hl6])
        have hti6 : pos + n6 ≤ k ↔ i < n5 := by have := HTI2.out; rw [hl6] at this; exact this
        have hzs6 := HB6.out.size
        have HL6 := Lib.hid hl6
        clear hl6 hb6 ho6 hx6
        go_upto_region 17 with fail
        go_cut [138] (fun s wx => s = .bool false ∧ ∃ j, wx = v6.drewN j)
        case first =>
          by_cases hle : pos + n6 ≤ k
          · have hi5 := hti6.1 hle
            have hd1 : decide ((pos : Int) + (n6 : Int) ≤ (k : Int)) = true := decide_eq_true (by omega)
            have hd2 : decide (i < n5) = true := decide_eq_true hi5
            have hd3 : decide ((i : Int) < (n5 : Int)) = true := decide_eq_true (by omega)
            clear hti6
            go_quiet (fail)
            go_wp2_with fail
            go_meet
            case rel => exact ⟨rfl, _, rfl⟩
          · have hi5 : ¬ i < n5 := fun h => hle (hti6.2 h)
            have hd1 : decide ((pos : Int) + (n6 : Int) ≤ (k : Int)) = false := decide_eq_false (by omega)
            have hd2 : decide (i < n5) = false := decide_eq_false hi5
            have hd3 : decide ((i : Int) < (n5 : Int)) = false := decide_eq_false (by omega)
            clear hti6
            go_quiet (fail)
            go_wp2_with fail
            go_meet
            case rel => exact ⟨rfl, _, rfl⟩
        case rest =>
        obtain ⟨rfl, nq, rfl⟩ := hcut
        clear hti6
        obtain ⟨v7, hv7⟩ : ∃ v, v = v6.drewN nq := ⟨_, rfl⟩
        rw [← hv7]
        have hvc : v7.cell? ⟨wr.heap.size, 0, none⟩ = some (.slice x1 x2 x3) := by rw [hv7]; exact hv6
        have HB7 := Lib.hid (show Below v5.heap.size v5 v7 by rw [hv7]; exact below_drewN HB6.out _)
        have hzs7 := HB7.out.size
        clear hv7 hcv1 hcv2 hv6 hd6 st1 st2
        by_cases hx0 : 0 < x2
        · have hown7 : Own (v7.alloc (.cells #[] 5)) v7.heap.size (some ⟨v7.heap.size, 0, none⟩) 0 0 [] := World.ownsRow_lit v7 #[] 0 (Nat.le_refl _) (by decide) rfl
          have hbl7 : Below v7.heap.size v7 (v7.alloc (.cells #[] 5)) := (Below.refl _ _).alloc (Nat.le_refl _) _
          have hr7 := (HKn.out.to HB7.out).b.below hzs7 hbl7
          have HBL7 := Lib.hid hbl7
          clear hbl7
          go_wp2_with (at_builtin; refine append_src rfl _ _ rfl rfl rfl hown7 hr7 HA2.out HL2.out (by omega) (by omega) (by simp) ?_)
          intro A8 c8 v8 ho8 hx8
          have HB8 := Lib.hid (HBL7.out.trans hx8)
          clear hx8 hown7 hr7
          obtain ⟨g, rfl, hg1, hg2⟩ := ho8.head (by omega)
          obtain ⟨p', hp'⟩ : ∃ p', pos + n6 = p' + 1 := ⟨pos + n6 - 1, by omega⟩
          obtain ⟨hc8, hf8⟩ := ho8.spot (k := p') (by omega)
          have hzr := (show Rng (jrB s ls) from HByt.out).at_ p'
          obtain ⟨zz, hzz⟩ : ∃ z, z = (jrB s ls).getD p' 0 := ⟨_, rfl⟩
          rw [← hzz] at hc8 hzr
          have hx1' := xor1 zz hzr.1 hzr.2
          have HX1 := Lib.hid hx1'
          have HZZ := Lib.hid hzz
          have HO8 := Lib.hid (ho8.stored p' (bits .xor .u8 zz 1)).1
          have hcap8 := ho8.cap
          have hpe : (pos : Int) + (n6 : Int) = (p' : Int) + 1 := by omega
          have hp2 : p' < n2 := by omega
          have HPE := Lib.hid hp'
          have hdl0 : 0 < (ls[i]'h3).length := by rw [HDS.out, HXL.out]; exact hx0
          have HBent := Lib.hid (read_bent ls s i h3 HK.out HDat.out (bits .xor .u8 zz 1) ⟨hx1'.1, hx1'.2.1⟩ hdl0 (by rw [← HNL6.out, hp', Nat.add_sub_cancel, ← hzz]; exact hx1'.2.2))
          have HBent2 := Lib.hid (show (jrB s (ls.take (i + 1))).length - 1 = p' by rw [← HNL6.out, hp', Nat.add_sub_cancel])
          have HB9 := Lib.hid (HB8.out.setCell (p := ⟨g, p', none⟩) hg1 (.int .u8 (bits .xor .u8 zz 1)))
          rw [hpe]
          clear ho8 hzz hx1' hpe hp' hdl0 hzr
          have HRG9 := Lib.hid (show Rng ((jrB s ls).set p' (bits .xor .u8 zz 1)) from fun z hz => by
            rcases List.mem_or_eq_of_mem_set hz with h | h
            · exact HByt.out z h
            · rw [h]; exact ⟨HX1.out.1, HX1.out.2.1⟩)
          have HL9' := Lib.hid (show ((jrB s ls).set p' (bits .xor .u8 zz 1)).length = n2 by rw [List.length_set]; exact HL2.out)
          go_wp2_with fail
          refine (impl_JournalRead_any (some ⟨g, 0, none⟩) n2 c8 ((jrB s ls).set p' (bits .xor .u8 zz 1)) s _ HO8.out.rd HRG9.out HL9'.out (by omega) hcap8 (by omega) (by omega)).mono ?_
          rintro e v10 ⟨A10, n10, c10, gf, rfl, hof, hobf, hbf, hx10⟩
          have hbl : gf.map (·.bytes) = ls.take i := by rw [hbf]; have := HBent.out; rw [HBent2.out] at this; exact this
          have hn10 : n10 = i := by
            have e1 := hof.len
            have e2 := congrArg List.length hbl
            rw [List.length_map, List.length_take, HLSL.out] at e2
            omega
          have hne : ((n10 : Int) != (i : Int)) = false := by rw [hn10]; simp
          have HB10 := Lib.hid (HB7.out.trans ((HB9.out.trans (hx10.mono HB9.out.size)).mono hzs7))
          have HPP := Lib.hid (show p' + 1 = (jrB s (ls.take (i + 1))).length by rw [← HPE.out]; exact HNL6.out)
          clear hof hobf hbf hx10 hbl hn10
          go_wp2_with fail
          exact ⟨⟨i + 1, p' + 1, by omega, by go_num, by go_num, Lib.hid HPP.out, HB10.out⟩, by simp [intOf]; omega⟩
        · go_wp2_with fail
          exact ⟨⟨i + 1, pos + n6, by omega, by go_num, by go_num, Lib.hid HNL6.out, HB7.out⟩, by simp [intOf]; omega⟩
      · obtain rfl : n3 = i := by omega
        have HB := Lib.hid (HB5.out.trans (hb.mono hsz5))
        clear hb
        go_wp2_with fail
        go_ret
        exact ⟨rfl, HB.out⟩
  · have hbig' : 1048576 < len0 := by omega
    go_enter Try.func3, Try.ntmps3
    go_wp2_with fail
    go_ret
    exact ⟨rfl, Below.refl _ _⟩
end Go.Proofs.Yteiojpglhmikoaa.fnJournal

