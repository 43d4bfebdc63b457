/- CellsRead in the program: the whole function. -/
import Derived.Test.YtbifbeahakchjaaCrImpl
namespace Go.Proofs.Ytbifbeahakchjaa.Cb
open Go.RowKit Go.Proofs.Ytbifbeahakchjaa.Bytes Go.Proofs.Ytbifbeahakchjaa.Rows_ Go.Proofs.Ytbifbeahakchjaa.RowK Go.Proofs.Ytbifbeahakchjaa.Var Go.Proofs.Ytbifbeahakchjaa.Gr Go.Proofs.Ytbifbeahakchjaa.Attr Go.Proofs.Ytbifbeahakchjaa.Rune
set_option linter.unusedVariables false
def crB (zs : List Int) (a N : Int) : Bool := (crV zs a N).isSome
def crO (zs : List Int) (a N : Int) : List CellD := match crV zs a N with | some q => expand q.1 | none => []
def crE (zs : List Int) (a N : Int) : Int := match crV zs a N with | some q => q.2 | none => 0
theorem cr_none {zs : List Int} {a N : Int} (h : crV zs a N = none) : crB zs a N = false ∧ crO zs a N = [] ∧ crE zs a N = 0 := by unfold crB crO crE; rw [h]; exact ⟨rfl, rfl, rfl⟩
theorem cr_some {zs : List Int} {a N : Int} {q : List (Nat × CellD) × Int} (h : crV zs a N = some q) : crB zs a N = true ∧ crO zs a N = expand q.1 ∧ crE zs a N = q.2 := by unfold crB crO crE; rw [h]; exact ⟨rfl, rfl, rfl⟩
theorem rs_len (zs : List Int) : ∀ (f : Nat) (p : Int) (n : Nat) (R : List (Nat × CellD)) (e : Int), rs zs f p n = some (R, e) → (expand R).length = n
  | 0, p, 0, R, e, h => by rw [rs_zero] at h; injection h with h; injection h with h1 h2; subst h1; rfl
  | f + 1, p, 0, R, e, h => by rw [rs_zero] at h; injection h with h; injection h with h1 h2; subst h1; rfl
  | 0, p, n + 1, R, e, h => by simp [rs] at h
  | f + 1, p, n + 1, R, e, h => by
    rw [rs] at h
    by_cases h1 : (hOk zs p && decide (1 ≤ cK zs p ∧ cK zs p ≤ (n : Int) + 1)) = true
    · rw [if_pos h1] at h
      rw [Bool.and_eq_true] at h1
      have h2 := of_decide_eq_true h1.2
      cases hr : rs zs f (cY zs p) (n + 1 - (cK zs p).toNat) with
      | none => rw [hr] at h; simp at h
      | some q =>
        rw [hr] at h
        simp only [Option.map_some] at h
        injection h with h; injection h with h3 h4
        subst h3 h4
        rw [expand_cons, List.length_append, List.length_replicate, rs_len zs f _ _ q.1 q.2 hr]; omega
    · rw [if_neg h1] at h; cases h
theorem crO_len (zs : List Int) {n : Nat} (hl : zs.length = n) (hn : n ≤ 1048576) (a N : Int) : (crO zs a N).length ≤ 1048576 := by
  unfold crO
  cases h : crV zs a N with
  | none => simp
  | some q =>
    unfold crV at h
    by_cases hc : 0 ≤ a ∧ a ≤ zs.length ∧ 0 ≤ N ∧ N ≤ 4000
    · rw [if_pos hc, rd_rs] at h
      cases hr : rs zs N.toNat a N.toNat with
      | none => rw [hr] at h; cases h
      | some q2 =>
        rw [hr] at h
        have h2 : (if goodR none q2.1 = true then some q2 else none) = some q := h
        by_cases hg : goodR none q2.1 = true
        · rw [if_pos hg] at h2
          injection h2 with h2
          subst h2
          have := rs_len zs _ _ _ q2.1 q2.2 hr
          show (expand q2.1).length ≤ _
          omega
        · rw [if_neg hg] at h2; cases h2
    · rw [if_neg hc] at h; cases h
theorem own_shA {w : World} {base n c : Nat} {A : Option Addr} {zs : List Int} (h : Own w base A n c zs) : (A = none ∧ n = 0 ∧ c = 0) ∨ ∃ g, A = some ⟨g, 0, none⟩ := by
  rcases h.2 with ⟨hv, h0⟩ | ⟨g, cap, cur, hv, _⟩
  · injection hv with e1 e2 e3; exact .inl ⟨e1, e2, e3⟩
  · injection hv with e1 e2 e3; exact .inr ⟨g, e1⟩
/-- what an answer of CellsRead is -/
def CrA (zs : List Int) (a N : Int) (w : World) (e : Ending) (w' : World) : Prop := ∃ A' c', e = .returned (.tuple #[.slice A' (crO zs a N).length c', .int .i64 (crE zs a N), .bool (crB zs a N)]) ∧ OwnC w' w.heap.size A' (crO zs a N).length c' (crO zs a N) ∧ Below w.heap.size w w'
theorem crA_no {zs : List Int} {a N : Int} {w w' : World} (h : crV zs a N = none) (hb : Below w.heap.size w w') : CrA zs a N w (.returned (.tuple #[.slice none 0 0, .int .i64 0, .bool false])) w' := by
  obtain ⟨h1, h2, h3⟩ := cr_none h
  unfold CrA
  rw [h1, h2, h3]
  exact ⟨none, 0, rfl, ownC_nil _ _, hb⟩
theorem crA_yes {zs : List Int} {a N p : Int} {R : List (Nat × CellD)} {w w' : World} {A : Option Addr} {m c : Nat} (h : crV zs a N = some (R, p)) (hl : (expand R).length = m) (ho : OwnC w' w.heap.size A m c (expand R)) (hb : Below w.heap.size w w') : CrA zs a N w (.returned (.tuple #[.slice A m c, .int .i64 p, .bool true])) w' := by
  obtain ⟨h1, h2, h3⟩ := cr_some h
  unfold CrA
  rw [h1, h2, h3]
  subst hl
  exact ⟨A, c, rfl, ho, hb⟩
def lenW : Value → Nat
  | .slice _ n _ => n
  | _ => 0
/-- the inner loop: j cells of the run stand behind the others, and the cell's box is as it was -/
def RunIn (w : World) (cs : List CellD) (z : CellD) (g j m3 c3 : Nat) (A3 : Option Addr) (w3 : World) : Prop := OwnC w3 w.heap.size A3 m3 c3 (cs ++ List.replicate j z) ∧ Opq.RowB w3 g #[.int .i64 z.r, .int .i64 z.fg, .int .i64 z.bg, .bool z.b, .bool z.u, .bool z.t] ∧ (Value.slice A3 m3 c3).ownBlock ≠ some g ∧ w.heap.size ≤ w3.heap.size ∧ Below w.heap.size w w3
def CrIn (zs : List Int) (a N : Int) (M : Nat) (w : World) (R : List (Nat × CellD)) (pp : Int) (f rem m c2 : Nat) (A2 : Option Addr) (wr : World) : Prop := (expand R).length = m ∧ m + rem = M ∧ rem ≤ f ∧ OwnC wr w.heap.size A2 m c2 (expand R) ∧ crV zs a N = (rd zs f (expand R).getLast? pp rem).map (fun q => (R ++ q.1, q.2)) ∧ Below w.heap.size w wr
set_option maxRecDepth 100000 in
set_option maxHeartbeats 3200000 in
theorem impl_CellsRead_any (A : Option Addr) (n c : Nat) (zs : List Int) (a N : Int) (w : World) (hr : Rd w w.heap.size A zs) (hg : Rng zs) (hl : zs.length = n) (hn : n ≤ 1099511627776) :
    Calls Try.prog 22 #[.slice A n c, .int .i64 a, .int .i64 N] w (CrA zs a N w) := by
  have HNO := Lib.hid (fun (h : ¬ (0 ≤ a ∧ a ≤ (n : Int) ∧ 0 ≤ N ∧ N ≤ 4000)) => show crV zs a N = none by unfold crV; rw [if_neg (by rw [hl]; exact h)])
  have NO := Lib.hid (fun (h : ¬ (0 ≤ a ∧ a ≤ (n : Int) ∧ 0 ≤ N ∧ N ≤ 4000)) => crA_no (w := w) (w' := w) (HNO.out h) (Below.refl _ _))
  by_cases h1 : a < 0
  · have NOW := Lib.hid (NO.out (by omega))
    clear NO HNO
    go_enter Try.func22, Try.ntmps22
    go_wp2_with fail
    go_ret3
    exact NOW.out
  by_cases h2 : (n : Int) < a
  · have NOW := Lib.hid (NO.out (by omega))
    clear NO HNO
    go_enter Try.func22, Try.ntmps22
    go_wp2_with fail
    go_ret3
    exact NOW.out
  by_cases h3 : N < 0
  · have NOW := Lib.hid (NO.out (by omega))
    clear NO HNO
    go_enter Try.func22, Try.ntmps22
    go_wp2_with fail
    go_ret3
    exact NOW.out
  by_cases h4 : 4000 < N
  · have NOW := Lib.hid (NO.out (by omega))
    clear NO HNO
    go_enter Try.func22, Try.ntmps22
    go_wp2_with fail
    go_ret3
    exact NOW.out
  obtain ⟨M, hM⟩ : ∃ M : Nat, N = (M : Int) := ⟨N.toNat, by omega⟩
  have hM4 : M ≤ 4000 := by omega
  have H0 := Lib.hid (show CrIn zs a N M w [] a M M 0 0 none w from ⟨rfl, by omega, Nat.le_refl _, ownC_nil _ _, by
    unfold crV; rw [if_pos ⟨by omega, by rw [hl]; omega, by omega, by omega⟩, hM, Int.toNat_natCast]
    show _ = (rd zs M none a M).map (fun q => ([] ++ q.1, q.2))
    cases rd zs M none a M <;> rfl, Below.refl _ _⟩)
  have HRD := Lib.hid (fun V (h : Below w.heap.size w V) => show Rd V V.heap.size A zs from (hr.below (Nat.le_refl _) h).more h.size)
  have HG := Lib.hid hg
  have HL := Lib.hid hl
  subst hM
  clear hr hg hl HNO NO
  go_enter Try.func22, Try.ntmps22
  go_wp2_with fail
  go_loopw [1, 9] (fun x y wr => ∃ (R : List (Nat × CellD)) (pp : Int) (f rem m c2 : Nat) (A2 : Option Addr), x = .int .i64 pp ∧ y = .slice A2 m c2 ∧ CrIn zs a (M : Int) M w R pp f rem m c2 A2 wr) (fun _ y _ => M - lenW y)
  case atStart => exact ⟨[], a, M, M, 0, 0, none, rfl, rfl, H0.out⟩
  case round =>
    obtain ⟨R, pp, f, rem, m, c2, A2, rfl, rfl, hle, hmr, hf, ho2, hcr, hb⟩ := hrel
    clear H0
    have hz := hb.size
    have HB := Lib.hid hb
    have HO := Lib.hid ho2
    have HLE := Lib.hid hle
    have HCR := Lib.hid hcr
    clear hb ho2 hle hcr
    by_cases hlt : m < M
    · obtain ⟨r, hrm⟩ : ∃ r, rem = r + 1 := ⟨rem - 1, by omega⟩
      obtain ⟨f', hff⟩ : ∃ f', f = f' + 1 := ⟨f - 1, by omega⟩
      subst hrm hff
      have HRR := Lib.hid (readRun_any A n c zs pp wr (HRD.out wr HB.out) HG.out HL.out hn)
      have HST := Lib.hid (fun (h : runOk zs pp = false ∨ (r : Int) + 1 < cK zs pp ∨ newC (expand R).getLast? (cC zs pp) = false) => show crV zs a (M : Int) = none by rw [HCR.out, rd_stop h]; rfl)
      have HGO := Lib.hid (fun (h : runOk zs pp = true) (hk : cK zs pp ≤ (r : Int) + 1) (hn : newC (expand R).getLast? (cC zs pp) = true) => show crV zs a (M : Int) = ((rd zs f' (some (cC zs pp)) (cY zs pp) (r + 1 - (cK zs pp).toNat)).map fun q => (((cK zs pp).toNat, cC zs pp) :: q.1, q.2)).map (fun q => (R ++ q.1, q.2)) by rw [HCR.out, rd_step h hk hn])
      unfold RunP at HRR
      cases hrk : runOk zs pp
      · have HN := Lib.hid (HST.out (.inl hrk))
        rw [hrk, if_neg (by decide)] at HRR
        clear HST HGO hrk HCR
        go_wp2_with fail
        refine HRR.out.mono ?_
        rintro e v ⟨rfl, hb1⟩
        have HB1 := Lib.hid (HB.out.trans (hb1.mono hz))
        clear hb1 HRR
        go_wp2_with fail
        go_ret3
        refine crA_no HN.out ?_
        have h9 := HB1.out
        exact h9.alloc h9.size _
      · rw [hrk, if_pos rfl] at HRR
        have hk0 := cK_nn zs pp
        obtain ⟨K, hK⟩ : ∃ K : Nat, cK zs pp = (K : Int) := ⟨(cK zs pp).toNat, by omega⟩
        have hK1 : 1 ≤ K := by
          have h := hrk
          unfold runOk at h
          rw [Bool.and_eq_true, Bool.and_eq_true] at h
          have h0 : cK zs pp ≠ 0 := by have := h.2.2; simpa using this
          omega
        obtain ⟨Y, hY⟩ : ∃ Y, Y = cY zs pp := ⟨_, rfl⟩
        obtain ⟨z, hz9⟩ : ∃ z, z = cC zs pp := ⟨_, rfl⟩
        rw [hK, ← hY, ← hz9] at HGO HRR
        rw [hK, ← hz9] at HST
        rw [Int.toNat_natCast] at HGO
        have HGO2 := Lib.hid (HGO.out (by trivial))
        clear HGO hK hY hk0 HCR
        obtain ⟨zr, zf, zg, zb, zu, zt⟩ := z
        have HZ := Lib.hid hz9
        clear hz9 hrk
        unfold cellV6 at HRR
        dsimp only at HRR
        have hms : IntKind.i64.wrap ((M : Int) - (m : Int)) = (r : Int) + 1 := by rw [IntWalk.i64_in _ (by omega)]; omega
        by_cases hkr : (r : Int) + 1 < (K : Int)
        · have HN := Lib.hid (HST.out (.inr (.inl hkr)))
          have hkr2 : (M : Int) - (m : Int) < (K : Int) := by omega
          clear HST HGO2
          go_wp2_with fail
          refine HRR.out.mono ?_
          rintro e v ⟨rfl, hb1⟩
          have HB1 := Lib.hid (HB.out.trans (hb1.mono hz))
          clear hb1 HRR
          go_wp2_with fail
          go_ret3
          refine crA_no HN.out ?_
          have h9 := HB1.out
          exact h9.alloc h9.size _
        · have hkr2 : ¬ (M : Int) - (m : Int) < (K : Int) := by omega
          have HEW := Lib.hid (fun V (h : OwnC V w.heap.size A2 m c2 (expand R)) => endsWith_any A2 m c2 (expand R) zr zf zg zb zu zt V h.rd HLE.out (by omega))
          obtain ⟨eb, heb⟩ : ∃ eb, eb = endB (expand R) ⟨zr, zf, zg, zb, zu, zt⟩ := ⟨_, rfl⟩
          rw [← heb] at HEW
          have hnc : newC (expand R).getLast? ⟨zr, zf, zg, zb, zu, zt⟩ = !eb := by rw [heb]; unfold endB; rw [Bool.not_not]
          clear heb
          cases eb
          · have HG3 := Lib.hid (HGO2.out (by omega) (by rw [hnc]; rfl))
            clear HST HGO2 hnc
            go_wp2_with fail
            refine HRR.out.mono ?_
            rintro e v ⟨rfl, hb1⟩
            have HB1 := Lib.hid (HB.out.trans (hb1.mono hz))
            have HO1 := Lib.hid (HO.out.below (Nat.le_refl _) hb1)
            have hz1 := hb1.size
            have HA1 := Lib.hid ((Below.refl v.heap.size v).alloc (Nat.le_refl _) (.cells #[.int .i64 zr, .int .i64 zf, .int .i64 zg, .bool zb, .bool zu, .bool zt] 69))
            have HOV := Lib.hid (HO1.out.below (Nat.le_refl _) HA1.out)
            have HRV := Lib.hid (Opq.RowB.new v #[.int .i64 zr, .int .i64 zf, .int .i64 zg, .bool zb, .bool zu, .bool zt] 69)
            have HBV := Lib.hid (HB1.out.trans (HA1.out.mono HB1.out.size))
            have HNE := Lib.hid (show (Value.slice A2 m c2).ownBlock ≠ some v.heap.size from fun e => by have := (HO1.out.blk _ e).2; omega)
            clear hb1 HRR
            go_wp2_with fail
            refine (HEW.out _ HOV.out).mono ?_
            rintro e v2 ⟨rfl, hb2⟩
            have HB2 := Lib.hid (HBV.out.trans (hb2.mono HBV.out.size))
            have HO2 := Lib.hid (HOV.out.below (Nat.le_refl _) hb2)
            have HR2 := Lib.hid (HRV.out.below hb2 HRV.out.lt)
            clear hb2 HEW
            have HI0 := Lib.hid (show RunIn w (expand R) ⟨zr, zf, zg, zb, zu, zt⟩ v.heap.size 0 m c2 A2 v2 from ⟨by rw [List.replicate_zero, List.append_nil]; exact HO2.out, HR2.out, HNE.out, HB2.out.size, HB2.out⟩)
            clear HO2 HR2 HB2 HNE
            go_wp2_with fail
            go_loopw [9, 58] (fun y i w3 => ∃ (j m3 c3 : Nat) (A3 : Option Addr), y = .slice A3 m3 c3 ∧ i = .int .i64 (j : Int) ∧ j ≤ K ∧ m3 = m + j ∧ RunIn w (expand R) ⟨zr, zf, zg, zb, zu, zt⟩ v.heap.size j m3 c3 A3 w3) (fun _ i _ => K - (intOf i).toNat)
            case atStart => exact ⟨0, m, c2, A2, rfl, rfl, Nat.zero_le _, rfl, HI0.out⟩
            case round =>
              obtain ⟨j, m3, c3, A3, rfl, rfl, hj, hm3, ho3, hr3, hne3, hz3, hb3⟩ := hrel
              clear HI0
              have HO3 := Lib.hid ho3
              have HR3 := Lib.hid hr3
              have HN3 := Lib.hid hne3
              have HB3 := Lib.hid hb3
              have HM3 := Lib.hid hm3
              have hm3b : m3 ≤ 8000 := by omega
              have hgl : v.heap.size < wr.heap.size := hr3.lt
              clear ho3 hr3 hne3 hb3 hm3
              by_cases hjk : j < K
              · have b0 : wr.cell? ⟨v.heap.size, 0, none⟩ = some (.int .i64 zr) := HR3.out.cell 0
                have b1 : wr.cell? ⟨v.heap.size, 1, none⟩ = some (.int .i64 zf) := HR3.out.cell 1
                have b2 : wr.cell? ⟨v.heap.size, 2, none⟩ = some (.int .i64 zg) := HR3.out.cell 2
                have b3 : wr.cell? ⟨v.heap.size, 3, none⟩ = some (.bool zb) := HR3.out.cell 3
                have b4 : wr.cell? ⟨v.heap.size, 4, none⟩ = some (.bool zu) := HR3.out.cell 4
                have b5 : wr.cell? ⟨v.heap.size, 5, none⟩ = some (.bool zt) := HR3.out.cell 5
                go_wp2_with (at_builtin; refine append_cellG rfl _ _ rfl rfl _ rfl rfl HO3.out (by omega) hz3 ?_)
                intro A4 c4 w4 ho4 hg4
                have HI := Lib.hid (show RunIn w (expand R) ⟨zr, zf, zg, zb, zu, zt⟩ v.heap.size (j + 1) (m3 + 1) c4 A4 w4 from ⟨by rw [List.replicate_succ']; exact ho4, (hg4.row HR3.out HN3.out).1, (hg4.row HR3.out HN3.out).2, Nat.le_trans hz3 hg4.1.size, HB3.out.trans (hg4.below hz3 (fun g hg => (HO3.out.blk g hg).1))⟩)
                clear ho4 hg4 b0 b1 b2 b3 b4 b5
                go_wp2_with fail
                exact ⟨⟨j + 1, m3 + 1, c4, A4, rfl, by go_num, by omega, by have := HM3.out; omega, HI.out⟩, by simp [intOf]; omega⟩
              · obtain rfl : K = j := by omega
                have HF := Lib.hid (show CrIn zs a (M : Int) M w (R ++ [(K, ⟨zr, zf, zg, zb, zu, zt⟩)]) Y f' (r + 1 - K) m3 c3 A3 wr from by
                  have e1 : expand (R ++ [(K, ⟨zr, zf, zg, zb, zu, zt⟩)]) = expand R ++ List.replicate K ⟨zr, zf, zg, zb, zu, zt⟩ := expand_snoc _ _ _
                  refine ⟨?_, by have := HM3.out; omega, by omega, by rw [e1]; exact HO3.out, ?_, HB3.out⟩
                  · rw [e1, List.length_append, List.length_replicate, HLE.out, HM3.out]
                  · have e2 : (expand (R ++ [(K, ⟨zr, zf, zg, zb, zu, zt⟩)])).getLast? = some ⟨zr, zf, zg, zb, zu, zt⟩ := by
                      rw [e1]
                      obtain ⟨k', hk'⟩ : ∃ k', K = k' + 1 := ⟨K - 1, by omega⟩
                      rw [hk', List.replicate_succ', ← List.append_assoc, List.getLast?_concat]
                    rw [e2, HG3.out]
                    cases rd zs f' (some ⟨zr, zf, zg, zb, zu, zt⟩) Y (r + 1 - K) with
                    | none => rfl
                    | some q => simp)
                go_wp2_with fail
                exact ⟨⟨_, _, _, _, _, _, _, rfl, rfl, HF.out⟩, by have := HM3.out; simp [lenW]; omega⟩
          · have HN := Lib.hid (HST.out (.inr (.inr (by rw [hnc]; rfl))))
            clear HST HGO2 hnc
            go_wp2_with fail
            refine HRR.out.mono ?_
            rintro e v ⟨rfl, hb1⟩
            have HB1 := Lib.hid (HB.out.trans (hb1.mono hz))
            have HO1 := Lib.hid (HO.out.below (Nat.le_refl _) hb1)
            have hz1 := hb1.size
            have HA1 := Lib.hid ((Below.refl v.heap.size v).alloc (Nat.le_refl _) (.cells #[.int .i64 zr, .int .i64 zf, .int .i64 zg, .bool zb, .bool zu, .bool zt] 69))
            have HOV := Lib.hid (HO1.out.below (Nat.le_refl _) HA1.out)
            have HRV := Lib.hid (Opq.RowB.new v #[.int .i64 zr, .int .i64 zf, .int .i64 zg, .bool zb, .bool zu, .bool zt] 69)
            have HBV := Lib.hid (HB1.out.trans (HA1.out.mono HB1.out.size))
            have HNE := Lib.hid (show (Value.slice A2 m c2).ownBlock ≠ some v.heap.size from fun e => by have := (HO1.out.blk _ e).2; omega)
            clear hb1 HRR
            go_wp2_with fail
            refine (HEW.out _ HOV.out).mono ?_
            rintro e v2 ⟨rfl, hb2⟩
            have HB2 := Lib.hid (HBV.out.trans (hb2.mono HBV.out.size))
            have HO2 := Lib.hid (HOV.out.below (Nat.le_refl _) hb2)
            have HR2 := Lib.hid (HRV.out.below hb2 HRV.out.lt)
            clear hb2 HEW
            go_wp2_with fail
            go_ret3
            exact crA_no HN.out HB2.out
    · obtain rfl : m = M := by omega
      obtain rfl : rem = 0 := by omega
      have HY := Lib.hid (show crV zs a (m : Int) = some (R, pp) by rw [HCR.out, rd_zero]; show some (R ++ [], pp) = _; rw [List.append_nil])
      clear HCR
      go_wp2_with fail
      go_ret3
      exact crA_yes HY.out HLE.out HO.out HB.out
end Go.Proofs.Ytbifbeahakchjaa.Cb
