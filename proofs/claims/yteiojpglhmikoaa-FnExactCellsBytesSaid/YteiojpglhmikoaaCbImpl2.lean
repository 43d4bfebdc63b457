/- CellsBytes in the program: at every list of cells the runs' bytes, or nothing where a cell is none or the list is too long. -/
import Derived.Test.YteiojpglhmikoaaCbRun
import Derived.Test.YteiojpglhmikoaaGrOk
namespace Go.Proofs.Yteiojpglhmikoaa.Cb
open Go.RowKit Go.Proofs.Yteiojpglhmikoaa.Bytes Go.Proofs.Yteiojpglhmikoaa.Rows_ Go.Proofs.Yteiojpglhmikoaa.RowK Go.Proofs.Yteiojpglhmikoaa.Var Go.Proofs.Yteiojpglhmikoaa.Gr Go.Proofs.Yteiojpglhmikoaa.Attr
set_option linter.unusedVariables false
def cbB (cs : List CellD) : Bool := decide (cs.length ≤ 4000) && cs.all okC
def cbO (cs : List CellD) : List Int := if cbB cs = true then encR cs else []
theorem cbO_len (cs : List CellD) {n : Nat} (hl : cs.length = n) (hn : n ≤ 1048576) : (cbO cs).length ≤ 16777216 := by
  unfold cbO
  split
  · rename_i h
    unfold cbB at h
    rw [Bool.and_eq_true] at h
    have h1 := of_decide_eq_true h.1
    have := encR_len 4000 cs h1 (by omega) h.2
    omega
  · simp
theorem rdC_drop {w : World} {B q o : Nat} {cs : List CellD} (h : RdC w B (some ⟨q, o, none⟩) cs) (lo : Nat) : RdC w B (some ⟨q, o + lo * 6, none⟩) (cs.drop lo) := by
  intro hp
  have hl : (cs.drop lo).length = cs.length - lo := List.length_drop
  rw [List.length_map, hl] at hp
  obtain ⟨b', o', e, hlt, hc⟩ := h (by rw [List.length_map]; omega)
  injection e with e; injection e with e1 e2; subst e1 e2
  refine ⟨q, o + lo * 6, rfl, hlt, fun i r hr j v hv => ?_⟩
  have h2 : (cs.map cellR)[lo + i]? = some r := by
    rw [List.getElem?_map] at hr ⊢
    rw [List.getElem?_drop] at hr; exact hr
  have := hc (lo + i) r h2 j v hv
  rw [show o + (lo + i) * 6 + j = o + lo * 6 + i * 6 + j by omega] at this
  exact this
theorem own_capC {w : World} {base n c : Nat} {A : Option Addr} {cs : List CellD} (h : OwnC w base A n c cs) : n ≤ c := by
  rcases h.2 with ⟨hv, h0⟩ | ⟨g, cap, cur, hv, _, _, hnc, _⟩
  · injection hv with e1 e2 e3; omega
  · injection hv with e1 e2 e3; omega
theorem rdC_nil (w : World) (B : Nat) (A : Option Addr) : RdC w B A [] := fun h => by simp at h
def lenV : Value → Nat
  | .slice _ n _ => n
  | _ => 0
def CbIn (w : World) (cs ls : List CellD) (A1 : Option Addr) (d c1 : Nat) (A2 : Option Addr) (n2 c2 : Nat) (pre : List Int) (wr : World) : Prop := ls.length = d ∧ d ≤ 4000 ∧ (A1 ≠ none → d ≤ c1) ∧ RdC w w.heap.size A1 ls ∧ ls.all okC = true ∧ Own wr w.heap.size A2 n2 c2 pre ∧ n2 ≤ 60000 ∧ pre ++ encR ls = encR cs ∧ Below w.heap.size w wr
set_option maxRecDepth 100000 in
set_option maxHeartbeats 3200000 in
theorem impl_CellsBytes_any (A : Option Addr) (n c : Nat) (cs : List CellD) (w : World) (hr : RdC w w.heap.size A cs) (hl : cs.length = n) (hn : n ≤ 1099511627776) (hc : A ≠ none → n ≤ c) :
    Calls Try.prog 31 #[.slice A n c] w fun e w' => ∃ A' c', e = .returned (.tuple #[.slice A' (cbO cs).length c', .bool (cbB cs)]) ∧ Own w' w.heap.size A' (cbO cs).length c' (cbO cs) ∧ Below w.heap.size w w' := by
  rcases Nat.lt_or_ge 4000 n with h4 | h4
  · have hb : cbB cs = false := by unfold cbB; rw [decide_eq_false (by omega)]; rfl
    have ho : cbO cs = [] := by unfold cbO; rw [if_neg (by rw [hb]; decide)]
    rw [ho, hb]
    clear hb ho
    go_enter Try.func31, Try.ntmps31
    go_wp2_with fail
    go_ret2
    exact ⟨none, 0, rfl, own_nil _ _, Below.refl _ _⟩
  have HAC := Lib.hid (areCells_any A n c cs w hr hl hn)
  cases ha : cs.all okC
  · have hb : cbB cs = false := by unfold cbB; rw [ha, Bool.and_false]
    have ho : cbO cs = [] := by unfold cbO; rw [if_neg (by rw [hb]; decide)]
    rw [ho, hb]
    rw [ha] at HAC
    clear hb ho ha hr hl
    go_enter Try.func31, Try.ntmps31
    go_wp2_with fail
    refine HAC.out.mono ?_
    rintro e v1 ⟨rfl, hb1⟩
    have HB1 := Lib.hid hb1
    clear hb1
    go_wp2_with fail
    go_ret2
    exact ⟨none, 0, rfl, own_nil _ _, HB1.out⟩
  · have hb : cbB cs = true := by unfold cbB; rw [decide_eq_true (by omega), ha]; rfl
    have ho : cbO cs = encR cs := by unfold cbO; rw [if_pos hb]
    rw [ho, hb]
    rw [ha] at HAC
    have HLEN := Lib.hid (fun (pre : List Int) (ls : List CellD) (h : pre ++ encR ls = encR cs) => show pre.length ≤ 60000 from by
      have h1 := encR_len 4000 cs (by omega) (by omega) ha
      have h2 := congrArg List.length h
      rw [List.length_append] at h2; omega)
    have H0 := Lib.hid (fun v (hb : Below w.heap.size w v) => show CbIn w cs cs A n c none 0 0 [] v from ⟨hl, h4, hc, hr, ha, own_nil _ _, by omega, by simp, hb⟩)
    clear hb ho ha hr hl hc
    go_enter Try.func31, Try.ntmps31
    go_wp2_with fail
    refine HAC.out.mono ?_
    rintro e v1 ⟨rfl, hb1⟩
    have HB1 := Lib.hid hb1
    clear hb1
    go_wp2_with fail
    go_loopw [0, 4] (fun x y wr => ∃ (ls : List CellD) (A1 : Option Addr) (d c1 : Nat) (A2 : Option Addr) (n2 c2 : Nat) (pre : List Int), x = .slice A1 d c1 ∧ y = .slice A2 n2 c2 ∧ CbIn w cs ls A1 d c1 A2 n2 c2 pre wr) (fun x _ _ => lenV x)
    case atStart => exact ⟨cs, A, n, c, none, 0, 0, [], rfl, rfl, H0.out _ HB1.out⟩
    case round =>
      obtain ⟨ls, A1, d, c1, A2, n2, c2, pre, rfl, rfl, hl, hd, hc, hr, ha, ho2, hn2, hp, hb⟩ := hrel
      clear H0
      have hz := hb.size
      cases ls with
      | nil =>
        obtain rfl : d = 0 := by simpa using hl.symm
        have HP := Lib.hid (show pre = encR cs by rw [← hp, encR_nil, List.append_nil])
        have HO := Lib.hid ho2
        have HB := Lib.hid hb
        clear hl hr ha ho2 hp hb HB1 HAC
        go_wp2_with fail
        go_ret2
        have h := HO.out.len
        refine ⟨A2, c2, ?_, ?_, HB.out⟩
        · rw [← HP.out, h]; rfl
        · rw [← HP.out, h]; exact HO.out
      | cons x rest =>
        have hdp : 0 < d := by rw [← hl]; simp
        obtain ⟨b, o, hA, hBB, p0, p1, p2, p3, p4, p5⟩ := hr.at_ (i := 0) (by simp)
        subst hA
        have hdc : d ≤ c1 := hc (by simp)
        have hcc := (Rows_.bcell hb).1
        obtain ⟨sz, hsz⟩ : ∃ sz, sz = runC x (x :: rest) := ⟨_, rfl⟩
        have hsz1 : sz = runC x rest + 1 := by rw [hsz, runC, if_pos (beqC_refl x)]
        have hszd : sz ≤ d := by rw [← hl, hsz]; exact runC_le x _
        rw [List.all_cons, Bool.and_eq_true] at ha
        have HFR := Lib.hid (firstRun_any (some ⟨b, o, none⟩) d c1 x rest wr ((hr.below (Nat.le_refl _) hb).more hz) hl (by omega))
        rw [← hsz] at HFR
        have HAR := Lib.hid (fun v (h : Below wr.heap.size wr v) => appendRun_any A2 n2 c2 w.heap.size pre x.r x.fg x.bg x.b x.u x.t sz v (ho2.below (Nat.le_refl _) h) (by have := h.size; omega) (by omega) (by omega) ha.1)
        have HRD := Lib.hid hr
        have HP2 := Lib.hid (show (pre ++ encC sz x) ++ encR ((x :: rest).drop sz) = encR cs by rw [← hp, encR_cons, hsz1, List.drop_succ_cons, List.append_assoc])
        have HAL := Lib.hid (show ((x :: rest).drop sz).all okC = true by
          rw [hsz1, List.drop_succ_cons, List.all_eq_true]
          exact fun y hy => List.all_eq_true.1 ha.2 y (List.mem_of_mem_drop hy))
        have HL2 := Lib.hid (show ((x :: rest).drop sz).length = d - sz by rw [List.length_drop, hl])
        have HB := Lib.hid hb
        have hO2 := ho2.len
        have HLN := Lib.hid hO2
        simp only [List.getElem_cons_zero, Nat.zero_mul, Nat.add_zero] at p0 p1 p2 p3 p4 p5
        have hbw : b < wr.heap.size := by omega
        have q0 := (hcc _ _ hBB).trans p0; have q1 := (hcc _ _ hBB).trans p1; have q2 := (hcc _ _ hBB).trans p2; have q3 := (hcc _ _ hBB).trans p3; have q4 := (hcc _ _ hBB).trans p4; have q5 := (hcc _ _ hBB).trans p5
        have hsp : 0 < sz := by omega
        have HBK := Lib.hid (fun g (h : (Value.slice A2 n2 c2).ownBlock = some g) => (ho2.blk g h).1)
        clear p0 p1 p2 p3 p4 p5 hsz hsz1 hp hl hr ha ho2 hb hc HB1 HAC hcc hO2
        obtain ⟨xr, xfg, xbg, xb, xu, xt⟩ := x
        dsimp only at q0 q1 q2 q3 q4 q5 HAR
        go_wp2_with fail
        refine HFR.out.mono ?_
        rintro e v2 ⟨rfl, hb2⟩
        have hcc := (Rows_.bcell hb2).1
        have r0 := (hcc _ _ hbw).trans q0; have r1 := (hcc _ _ hbw).trans q1; have r2 := (hcc _ _ hbw).trans q2; have r3 := (hcc _ _ hbw).trans q3; have r4 := (hcc _ _ hbw).trans q4; have r5 := (hcc _ _ hbw).trans q5
        have HB2 := Lib.hid hb2
        have hz2 := hb2.size
        clear hcc hb2 q0 q1 q2 q3 q4 q5 HFR
        go_wp2_with fail
        refine (HAR.out v2 HB2.out).mono ?_
        rintro e v3 ⟨A3, n3, c3, rfl, ho3, hg3⟩
        have HO3 := Lib.hid ho3
        have HP3 := Lib.hid (show n3 ≤ 60000 by have h1 := ho3.len; have h2 := HLEN.out _ _ HP2.out; omega)
        have HB3 := Lib.hid (show Below w.heap.size w v3 from (HB.out.trans (HB2.out.mono hz)).trans (hg3.below (by omega) HBK.out))
        clear ho3 hg3 r0 r1 r2 r3 r4 r5 HAR HLEN HB2 HBK
        by_cases hcs : c1 = sz
        · subst hcs
          obtain rfl : c1 = d := by omega
          go_wp2_with fail
          refine ⟨⟨_, _, _, _, _, _, _, _, rfl, rfl, HL2.out.trans (Nat.sub_self _), by omega, fun _ => by omega, ?_, HAL.out, HO3.out, HP3.out, HP2.out, HB3.out⟩, by simp [lenV]; omega⟩
          have e : ((⟨xr, xfg, xbg, xb, xu, xt⟩ : CellD) :: rest).drop c1 = [] := List.drop_of_length_le (by have := HL2.out; rw [List.length_drop] at this; omega)
          rw [e]; exact rdC_nil _ _ _
        · go_wp2_with fail
          exact ⟨⟨_, _, _, _, _, _, _, _, rfl, rfl, HL2.out, by omega, fun _ => by omega, rdC_drop HRD.out sz, HAL.out, HO3.out, HP3.out, HP2.out, HB3.out⟩, by simp [lenV]; omega⟩
end Go.Proofs.Yteiojpglhmikoaa.Cb

