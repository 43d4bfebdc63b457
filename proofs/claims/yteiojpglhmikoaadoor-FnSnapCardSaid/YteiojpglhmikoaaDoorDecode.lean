/- Contract of the decoding of a snapshot, in the program: the numbers and the data, which share the argument's memory, or the defect. -/
import Derived.Test.YteiojpglhmikoaaDoorSnapReadS
import Derived.Test.YteiojpglhmikoaaDoorAppChk
import Derived.Test.YteiojpglhmikoaaDoorShelf
import Derived.Deep.RegionWith
namespace Go.Proofs.YteiojpglhmikoaaDoor.Snap
open Go.RowKit Go.Proofs.YteiojpglhmikoaaDoor.Bytes Go.Proofs.YteiojpglhmikoaaDoor.Var Go.Proofs.YteiojpglhmikoaaDoor.Crc Go.Proofs.YteiojpglhmikoaaDoor.Frame
set_option linter.unusedVariables false

theorem prefix_isS {zs : List Int} (hg : Rng zs) : Lib.hasPrefix (Lib.bytesOf zs) (Lib.bytesOf s4) = isS zs := by
  rw [← Lib.bytes_hasPrefix]
  have hl : s4.length = 4 := rfl
  rw [hl]
  by_cases h : zs.take 4 = s4
  · have h4 := isS_len (zs := zs) (decide_eq_true h)
    have e : isS zs = true := decide_eq_true h
    rw [e, h, decide_eq_true h4]; simp
  · have e : isS zs = false := decide_eq_false h
    rw [e]
    have hne : (Lib.bytesOf (zs.take 4) == Lib.bytesOf s4) = false := by
      have h1 := (str_ne (rngS_take hg 4) s4_rng h).1
      rw [Lib.strOfNums_toList, Lib.strOfNums_toList] at h1
      exact h1
    rw [hne]; simp
theorem hasPrefix_any (A : Option Addr) (n c p : Nat) (zs : List Int) (w : World) (hr : Rd w w.heap.size A zs) (hg : Rng zs) (hl : zs.length = n) (hn : n ≤ 1099511627776) (hnc : n ≤ c) (hp : Rd w w.heap.size (some ⟨p, 0, none⟩) s4) :
    Calls Tryd.prog 39 #[.slice A n c, .slice (some ⟨p, 0, none⟩) 4 4] w fun e w' => e = .returned (.bool (isS zs)) ∧ w = w' := by
  by_cases h : n < 4
  · have e : isS zs = false := by
      cases hs : isS zs
      · rfl
      · have := isS_len hs; omega
    rw [e]
    have h4 : (n : Int) < 4 := by omega
    clear hr hl hp e
    go_enter Tryd.func39, Tryd.ntmps39
    go_wp2_with fail
    go_ret
    exact ⟨rfl, rfl⟩
  · obtain ⟨b, o, rfl, hB, hc⟩ := hr (by omega)
    obtain ⟨b2, o2, e2, hB2, hc2⟩ := hp (by decide)
    injection e2 with e2
    injection e2 with e3 e4
    subst e3 e4
    refine (Tryd.bytes_HasPrefix b o n c p 0 4 4 zs s4 w hl rfl hnc (fun i hi => hc i (by omega)) (fun i hi => hc2 i hi)).mono ?_
    rintro e w' ⟨rfl, rfl⟩
    exact ⟨by rw [prefix_isS hg], rfl⟩

theorem blk3 {w : World} {R : Nat} {v0 v1 v2 : Value} {T : TypeId} (h : w.heap[R]? = some (.cells #[v0, v1, v2] T (0, 0))) :
    (w.cell? ⟨R, 0, none⟩ = some v0 ∧ w.cell? ⟨R, 1, none⟩ = some v1 ∧ w.cell? ⟨R, 2, none⟩ = some v2) ∧ (w.frozen? ⟨R, 0, none⟩ = false ∧ w.frozen? ⟨R, 1, none⟩ = false ∧ w.frozen? ⟨R, 2, none⟩ = false) := by
  simp [World.cell?, World.frozen?, h]
theorem blk4 {w : World} {R : Nat} {v0 v1 v2 v3 : Value} {T : TypeId} (h : w.heap[R]? = some (.cells #[v0, v1, v2, v3] T (0, 0))) :
    (w.cell? ⟨R, 0, none⟩ = some v0 ∧ w.cell? ⟨R, 1, none⟩ = some v1 ∧ w.cell? ⟨R, 2, none⟩ = some v2 ∧ w.cell? ⟨R, 3, none⟩ = some v3) ∧ (w.frozen? ⟨R, 0, none⟩ = false ∧ w.frozen? ⟨R, 1, none⟩ = false ∧ w.frozen? ⟨R, 2, none⟩ = false ∧ w.frozen? ⟨R, 3, none⟩ = false) := by
  simp [World.cell?, World.frozen?, h]
theorem set4 {w : World} {R : Nat} {v0 v1 v2 v3 : Value} {T : TypeId} (h : w.heap[R]? = some (.cells #[v0, v1, v2, v3] T (0, 0))) (v : Value) :
    (w.setCell ⟨R, 0, none⟩ v).heap[R]? = some (.cells #[v, v1, v2, v3] T (0, 0)) ∧ (w.setCell ⟨R, 1, none⟩ v).heap[R]? = some (.cells #[v0, v, v2, v3] T (0, 0)) ∧
    (w.setCell ⟨R, 2, none⟩ v).heap[R]? = some (.cells #[v0, v1, v, v3] T (0, 0)) ∧ (w.setCell ⟨R, 3, none⟩ v).heap[R]? = some (.cells #[v0, v1, v2, v] T (0, 0)) := by
  simp [World.setCell, Array.getElem?_modify, h]

theorem rdS_take {w : World} {B b o : Nat} {zs : List Int} (h : Rd w B (some ⟨b, o, none⟩) zs) (E : Nat) (hE : E ≤ zs.length) : Rd w B (some ⟨b, o, none⟩) (zs.take E) := by
  intro hn
  rw [List.length_take] at hn
  obtain ⟨b', o', e, hlt, hc⟩ := h (by omega)
  injection e with e
  injection e with e1 e2
  subst e1 e2
  refine ⟨_, _, rfl, hlt, fun k hk => ?_⟩
  rw [List.length_take] at hk
  rw [hc k (by omega)]
  simp [List.getD, show k < E by omega]
theorem put3 {w : World} {R : Nat} {v0 v1 v2 : Value} {T : TypeId} (h : w.heap[R]? = some (.cells #[v0, v1, v2] T (0, 0))) (x0 x1 x2 : Value) :
    (w.setCell ⟨R, 0, none⟩ x0).cell? ⟨R, 0, none⟩ = some x0 ∧ ((w.setCell ⟨R, 0, none⟩ x0).setCell ⟨R, 1, none⟩ x1).cell? ⟨R, 1, none⟩ = some x1 ∧
    (((w.setCell ⟨R, 0, none⟩ x0).setCell ⟨R, 1, none⟩ x1).setCell ⟨R, 2, none⟩ x2).cell? ⟨R, 2, none⟩ = some x2 := by
  simp [World.setCell, World.cell?, Array.getElem?_modify, h]
/-- the k-th number, as far as it is read -/
def nk (zs : List Int) (k j : Nat) : Int := if j < k then num zs j else 0
def cr (zs : List Int) : Nat → Int
  | 0 => 0
  | k + 1 => pos zs k
abbrev row4 (zs : List Int) (k : Nat) : Obj := .cells #[.int .i64 (nk zs k 0), .int .i64 (nk zs k 1), .int .i64 (nk zs k 2), .int .i64 (nk zs k 3)] 72 (0, 0)
abbrev zero3 : Obj := .cells #[.int .i64 0, .int .i64 0, .slice none 0 0] 47 (0, 0)
def badR (k : Int) : Ending := .returned (.tuple #[.agg #[.int .i64 0, .int .i64 0, .slice none 0 0], .iface 53 (.agg #[.int .i64 k])])

set_option maxRecDepth 100000 in
set_option maxHeartbeats 3200000 in
theorem dec_1 (A : Option Addr) (n c : Nat) (zs : List Int) (w : World) (hr : Rd w w.heap.size A zs) (hg : Rng zs) (hl : zs.length = n) (hn : n ≤ 1099511627776) (hnc : n ≤ c) (h : isS zs = false) :
    Calls Tryd.prog 24 #[.slice A n c] w fun e w' => e = badR 1 ∧ Below w.heap.size w w' := by
  have HL := Lib.hid hl
  have HG := Lib.hid hg
  have HR := Lib.hid hr
  clear hl hg hr
  have HB0 := Lib.hid ((Below.refl w.heap.size w).alloc (Nat.le_refl _) zero3)
  have HB1 := Lib.hid (HB0.out.alloc (by simp) head4)
  have hs4 := rd_s4 (w.alloc zero3)
  simp only [World.size_alloc] at hs4
  have HS := Lib.hid hs4
  clear hs4
  have hcv := conv_s4 (w.alloc zero3)
  simp only [World.size_alloc] at hcv
  unfold badR
  go_enter Tryd.func24, Tryd.ntmps24
  go_wp2_with fail
  refine (hasPrefix_any A n c (w.heap.size + 1) zs _ ((HR.out.below (Nat.le_refl _) HB1.out).more (by simp; omega)) HG.out HL.out hn hnc (HS.out.more (by simp))).mono ?_
  rw [h]
  rintro e w1 ⟨rfl, rfl⟩
  go_wp2_with fail
  refine bodyPost_ret (v := .tuple #[.agg #[.int .i64 0, .int .i64 0, .slice none 0 0], .iface 53 (.agg #[.int .i64 1])]) (by simp [results, Tryd.results24, go_sem]) rfl ⟨rfl, HB1.out⟩

theorem ok4_of {zs : List Int} (h : ∀ j, j < 4 → okn zs j = true) : ok4 zs = true := by
  unfold ok4; rw [h 0 (by omega), h 1 (by omega), h 2 (by omega), h 3 (by omega)]; rfl
theorem ok4_not {zs : List Int} {k : Nat} (hk : k < 4) (h : okn zs k = false) : ok4 zs = false := by
  unfold ok4
  match k, hk with
  | 0, _ => rw [h]; rfl
  | 1, _ => rw [h]; simp
  | 2, _ => rw [h]; simp
  | 3, _ => rw [h]; simp
  | k + 4, hk => omega

/-- how the decoding ends -/
def DecE (zs : List Int) (w : World) (e : Ending) (w' : World) : Prop := (snC zs ≠ 0 → e = badR (snC zs : Nat)) ∧ (snC zs = 0 → ∃ A' n' c', e = .returned (.tuple #[.agg #[.int .i64 (snG zs), .int .i64 (snS zs), .slice A' n' c'], .nilIface]) ∧ Rd w' w.heap.size A' (snD zs) ∧ (snD zs).length = n' ∧ (A' = none → n' = 0 ∧ c' = 0)) ∧ Below w.heap.size w w'
theorem decE_bad {zs : List Int} {w w' : World} {k : Nat} (hk : snC zs = k) (h0 : k ≠ 0) (hb : Below w.heap.size w w') : DecE zs w (badR (k : Nat)) w' :=
  ⟨fun _ => by rw [hk], fun h => absurd (hk.symm.trans h) h0, hb⟩
theorem decE_good {zs : List Int} {w w' : World} (h0 : snC zs = 0) {A' : Option Addr} {n' c' : Nat} {G S : Int} (h1 : snG zs = G) (h2 : snS zs = S) (h3 : Rd w' w.heap.size A' (snD zs)) (h4 : (snD zs).length = n') (h5 : A' = none → n' = 0 ∧ c' = 0) (hb : Below w.heap.size w w') :
    DecE zs w (.returned (.tuple #[.agg #[.int .i64 G, .int .i64 S, .slice A' n' c'], .nilIface])) w' :=
  ⟨fun h => absurd h0 h, fun _ => ⟨A', n', c', by rw [h1, h2], h3, h4, h5⟩, hb⟩

set_option maxRecDepth 100000 in
set_option maxHeartbeats 12800000 in
theorem dec_in (A : Option Addr) (n c : Nat) (zs : List Int) (w : World) (hr : Rd w w.heap.size A zs) (hg : Rng zs) (hl : zs.length = n) (hn : n ≤ 1099511627776) (hnc : n ≤ c) (hS4 : isS zs = true) :
    Calls Tryd.prog 24 #[.slice A n c] w (DecE zs w) := by
  have HL := Lib.hid hl
  have HG := Lib.hid hg
  have HR := Lib.hid hr
  clear hl hg hr
  have HB0 := Lib.hid ((Below.refl w.heap.size w).alloc (Nat.le_refl _) zero3)
  have HB1 := Lib.hid (HB0.out.alloc (by simp) head4)
  have hs4 := rd_s4 (w.alloc zero3)
  simp only [World.size_alloc] at hs4
  have HS := Lib.hid hs4
  clear hs4
  have hcv := conv_s4 (w.alloc zero3)
  simp only [World.size_alloc] at hcv
  have hn4 := isS_len hS4
  go_enter Tryd.func24, Tryd.ntmps24
  go_wp2_with fail
  refine (hasPrefix_any A n c (w.heap.size + 1) zs _ ((HR.out.below (Nat.le_refl _) HB1.out).more (by simp; omega)) HG.out HL.out hn hnc (HS.out.more (by simp))).mono ?_
  rw [hS4]
  rintro e w1 ⟨rfl, rfl⟩
  have HB2 := Lib.hid (HB1.out.alloc (by simp; omega) (.cells #[.int .i64 0, .int .i64 0, .int .i64 0, .int .i64 0] 72))
  have hR0 : (((w.alloc zero3).alloc head4).alloc (.cells #[.int .i64 0, .int .i64 0, .int .i64 0, .int .i64 0] 72)).heap[w.heap.size]? = some zero3 := by
    rw [heap_alloc_old _ _ (by simp; omega), heap_alloc_old _ _ (by simp)]; exact heap_alloc_new w _
  have hR2 : (((w.alloc zero3).alloc head4).alloc (.cells #[.int .i64 0, .int .i64 0, .int .i64 0, .int .i64 0] 72)).heap[w.heap.size + 1 + 1]? = some (row4 zs 0) := by
    have := heap_alloc_new ((w.alloc zero3).alloc head4) (.cells #[.int .i64 0, .int .i64 0, .int .i64 0, .int .i64 0] 72)
    simp only [World.size_alloc] at this
    exact this
  have HR0 := Lib.hid hR0
  have HR2 := Lib.hid hR2
  clear hR0 hR2 hcv
  go_wp2_with fail
  go_loopw [5, 6, 24] (fun q p i wr => ∃ k : Nat, k ≤ 4 ∧ i = .int .i64 k ∧ p = .int .i64 (pos zs k) ∧ q = .int .i64 (cr zs k) ∧ (∀ j, j < k → okn zs j = true) ∧ wr.heap[w.heap.size + 1 + 1]? = some (row4 zs k) ∧ wr.heap[w.heap.size]? = some zero3 ∧ Below w.heap.size w wr) (fun _ _ i _ => 4 - (intOf i).toNat)
  case atStart => exact ⟨0, by omega, rfl, rfl, rfl, fun j h => by omega, HR2.out, HR0.out, HB2.out⟩
  case round =>
    obtain ⟨k, hk, rfl, rfl, rfl, hall, hr2, hr0, hb⟩ := hrel
    have hbs := hb.size
    have HALL := Lib.hid hall
    have HBW := Lib.hid hb
    have HR2' := Lib.hid hr2
    have HR0' := Lib.hid hr0
    clear hall hb hr0 hr2
    by_cases hlt : k < 4
    · have hrd := (HR.out.below (Nat.le_refl _) HBW.out).more hbs
      cases ho : okn zs k
      · have HO := Lib.hid ho
        clear ho
        have hc2 := Lib.hid (snC_2 hS4 (ok4_not hlt HO.out))
        go_wp2_with fail
        refine (impl_GetVar_any A n c zs (pos zs k) _ hrd HG.out HL.out hn).mono ?_
        rintro e w2 ⟨he, rfl⟩
        unfold gvRet at he
        rw [show gvOk zs (pos zs k) = false from HO.out] at he
        subst he
        have h3 := blk3 HR0'.out
        obtain ⟨⟨c0, c1, c2⟩, f0, f1, f2⟩ := h3
        obtain ⟨p0, p1, p2⟩ := put3 HR0'.out (.int .i64 0) (.int .i64 0) (.slice none 0 0)
        go_wp2_with fail
        refine bodyPost_ret (v := .tuple #[.agg #[.int .i64 0, .int .i64 0, .slice none 0 0], .iface 53 (.agg #[.int .i64 2])]) (by simp [results, Tryd.results24, go_sem, p0, p1, p2]) rfl (decE_bad (k := 2) hc2.out (by omega) (((HBW.out.setCell (Nat.le_refl _) _).setCell (Nat.le_refl _) _).setCell (Nat.le_refl _) _))
      · have HO := Lib.hid ho
        clear ho
        obtain ⟨⟨d0, d1, d2, d3⟩, g0, g1, g2, g3⟩ := blk4 HR2'.out
        have hlo : w.heap.size ≤ w.heap.size + 1 + 1 := by omega
        have hk4 : k = 0 ∨ k = 1 ∨ k = 2 ∨ k = 3 := by omega
        clear hlt hk
        rcases hk4 with rfl | rfl | rfl | rfl
        all_goals
          go_wp2_with fail
          refine (impl_GetVar_any A n c zs (pos zs _) _ hrd HG.out HL.out hn).mono ?_
          rintro e w2 ⟨he, rfl⟩
          unfold gvRet at he
          rw [show gvOk zs (pos zs _) = true from HO.out] at he
          subst he
          go_wp2_with fail
          refine ⟨⟨_ + 1, by omega, rfl, rfl, rfl, fun j hj => ?_, ?_, ?_, HBW.out.setCell hlo _⟩, by simp [intOf]⟩
          · rcases Nat.lt_succ_iff_lt_or_eq.1 hj with h | h
            · exact HALL.out j h
            · subst h; exact HO.out
          · first | exact (set4 HR2'.out _).1 | exact (set4 HR2'.out _).2.1 | exact (set4 HR2'.out _).2.2.1 | exact (set4 HR2'.out _).2.2.2
          · rw [Below.heap_setCell _ _ _ _ (by simp; omega)]; exact HR0'.out
    · obtain rfl : k = 4 := by omega
      clear hlt hk
      have hok4 := ok4_of HALL.out
      obtain ⟨P1, P2, P3, P4, G, S, Z, C, hN, r0, r1, r2, r3, r4, r5, b1, b2, b3, b4, e1, e2, e3, e4, e5, e6, e7, e8⟩ := snums_of hok4
      rw [HL.out] at r4
      have hcr : cr zs 4 = (P3 : Int) := e6
      have hrow : row4 zs 4 = .cells #[.int .i64 G, .int .i64 S, .int .i64 Z, .int .i64 C] 72 (0, 0) := by
        have : row4 zs 4 = .cells #[.int .i64 (num zs 0), .int .i64 (num zs 1), .int .i64 (num zs 2), .int .i64 (num zs 3)] 72 (0, 0) := rfl
        rw [this, e1, e2, e3, e4]
      rw [hrow] at HR2'
      rw [e5, hcr]
      clear hcr hrow HR2 HR0
      obtain ⟨⟨d0, d1, d2, d3⟩, g0, g1, g2, g3⟩ := blk4 HR2'.out
      obtain ⟨b, o, hAA, hB, _⟩ := HR.out.at_ (k := 0) (by omega)
      subst hAA
      have hp4i : (P4 : Int) ≤ (n : Int) := by omega
      have hp4c : (P4 : Int) ≤ (c : Int) := by omega
      have hp3c : (P3 : Int) ≤ (c : Int) := by omega
      have hsum : IntKind.i64.wrap ((n : Int) - (P4 : Int)) = (n : Int) - (P4 : Int) := IntWalk.i64_in _ (by omega)
      have HOK := Lib.hid hok4
      have HF := Lib.hid (And.intro e1 (And.intro e2 (And.intro e3 (And.intro e4 (And.intro e5 (And.intro e7 e8))))))
      clear hok4 hN e1 e2 e3 e4 e5 e6 e7 e8
      have hlt0 := (Array.getElem?_eq_some_iff.1 HR0'.out).1
      have H3 := Lib.hid (fun h : (G : Int) < 1 ∨ 1000000000 < (G : Int) ∨ (S : Int) < 1 ∨ 1000000000 < (S : Int) ∨ (Z : Int) ≠ (n : Int) - (P4 : Int) ∨ 150000 < (Z : Int) => snC_3 hS4 HOK.out (by rw [HF.out.1, HF.out.2.1, HF.out.2.2.1, HF.out.2.2.2.2.1, HL.out]; exact h))
      have HZ0 := Lib.hid (blk3 HR0'.out)
      have HP0 := Lib.hid (fun nq => put3 (w := wr.drewN nq) HR0'.out (.int .i64 0) (.int .i64 0) (.slice none 0 0))
      have HLD := Lib.hid (show (zs.drop P4).length = n - P4 by rw [List.length_drop, HL.out])
      have HGD := Lib.hid (rngS_drop HG.out P4)
      have HGT := Lib.hid (rngS_take HG.out P3)
      have HLT := Lib.hid (show (zs.take P3).length = P3 by rw [List.length_take, HL.out]; omega)
      have HRD := Lib.hid (rdS_drop HR.out P4 (by rw [HL.out]; exact r4))
      have HRT := Lib.hid (rdS_take HR.out P3 (by rw [HL.out]; omega))
      by_cases hcE : P4 = c
      · subst hcE
        obtain rfl : n = P4 := by omega
        have hdn : zs.drop n = [] := List.drop_of_length_le (by rw [HL.out]; exact Nat.le_refl _)
        rw [hdn] at HF HGD
        clear hdn HLD HRD
        have HLD := Lib.hid (show ([] : List Int).length = 0 from rfl)
        by_cases hG : (G : Int) < 1 ∨ 1000000000 < (G : Int)
        · have hc := Lib.hid (H3.out (by omega))
          have HH := Lib.hid hG
          clear hG
          obtain ⟨⟨c0, c1, c2⟩, f0, f1, f2⟩ := HZ0.out
          have p0 := fun nq => (HP0.out nq).1
          have p1 := fun nq => (HP0.out nq).2.1
          have p2 := fun nq => (HP0.out nq).2.2
          go_wp2_with fail
          go_quiet (fail)
          go_wp2_with fail
          refine (isGen_no _ _ HH.out).mono ?_
          rintro e w3 ⟨rfl, rfl⟩
          go_wp2_with fail
          refine bodyPost_ret (v := .tuple #[.agg #[.int .i64 0, .int .i64 0, .slice none 0 0], .iface 53 (.agg #[.int .i64 3])]) (by simp [results, Tryd.results24, go_sem, p0, p1, p2]) rfl (decE_bad (k := 3) hc.out (by omega) ((((below_drewN HBW.out _).setCell (Nat.le_refl _) _).setCell (Nat.le_refl _) _).setCell (Nat.le_refl _) _))
        have g4 : 1 ≤ (G : Int) := by omega
        have g5 : (G : Int) ≤ 1000000000 := by omega
        clear hG
        by_cases hS : (S : Int) < 1 ∨ 1000000000 < (S : Int)
        · have hc := Lib.hid (H3.out (by omega))
          have HH := Lib.hid hS
          clear hS
          obtain ⟨⟨c0, c1, c2⟩, f0, f1, f2⟩ := HZ0.out
          have p0 := fun nq => (HP0.out nq).1
          have p1 := fun nq => (HP0.out nq).2.1
          have p2 := fun nq => (HP0.out nq).2.2
          go_wp2_with fail
          go_quiet (fail)
          go_wp2_with fail
          refine (isGen_yes _ _ g4 g5).mono ?_
          rintro e w3 ⟨rfl, rfl⟩
          go_wp2_with fail
          refine (isSeq1_no _ _ HH.out).mono ?_
          rintro e w3 ⟨rfl, rfl⟩
          go_wp2_with fail
          refine bodyPost_ret (v := .tuple #[.agg #[.int .i64 0, .int .i64 0, .slice none 0 0], .iface 53 (.agg #[.int .i64 3])]) (by simp [results, Tryd.results24, go_sem, p0, p1, p2]) rfl (decE_bad (k := 3) hc.out (by omega) ((((below_drewN HBW.out _).setCell (Nat.le_refl _) _).setCell (Nat.le_refl _) _).setCell (Nat.le_refl _) _))
        have s5 : 1 ≤ (S : Int) := by omega
        have s6 : (S : Int) ≤ 1000000000 := by omega
        clear hS
        by_cases hZ : (Z : Int) ≠ 0
        · have hc := Lib.hid (H3.out (by omega))
          have hz : ((Z : Int) != 0) = true := by simpa using hZ
          have hz2 : ¬ Z = 0 := by omega
          clear hZ
          obtain ⟨⟨c0, c1, c2⟩, f0, f1, f2⟩ := HZ0.out
          have p0 := fun nq => (HP0.out nq).1
          have p1 := fun nq => (HP0.out nq).2.1
          have p2 := fun nq => (HP0.out nq).2.2
          go_wp2_with fail
          go_quiet (fail)
          go_wp2_with fail
          refine (isGen_yes _ _ g4 g5).mono ?_
          rintro e w3 ⟨rfl, rfl⟩
          go_wp2_with fail
          refine (isSeq1_yes _ _ s5 s6).mono ?_
          rintro e w3 ⟨rfl, rfl⟩
          go_wp2_with fail
          refine bodyPost_ret (v := .tuple #[.agg #[.int .i64 0, .int .i64 0, .slice none 0 0], .iface 53 (.agg #[.int .i64 3])]) (by simp [results, Tryd.results24, go_sem, p0, p1, p2]) rfl (decE_bad (k := 3) hc.out (by omega) ((((below_drewN HBW.out _).setCell (Nat.le_refl _) _).setCell (Nat.le_refl _) _).setCell (Nat.le_refl _) _))
        have hZ' : Z = 0 := by omega
        subst hZ'
        clear hZ
        have hz0 : ((0 : Nat) : Int) = (n : Int) - (n : Int) := by omega
        have hm : ((0 : Nat) : Int) ≤ 150000 := by omega
        have H0 := Lib.hid (And.intro g4 (And.intro g5 (And.intro s5 (And.intro s6 (And.intro hz0 hm)))))
        clear hz0
        have HC := Lib.hid (show num zs 3 = (crcN (sHead zs ++ sData zs) : Int) ↔ C = crcN (zs.take P3 ++ []) by rw [HF.out.2.2.2.1, HF.out.2.2.2.2.2.1, HF.out.2.2.2.2.2.2]; omega)
        have h3 := Lib.hid (show 1 ≤ num zs 0 ∧ num zs 0 ≤ 1000000000 ∧ 1 ≤ num zs 1 ∧ num zs 1 ≤ 1000000000 ∧ num zs 2 = (zs.length : Int) - pos zs 4 ∧ num zs 2 ≤ 150000 by rw [HF.out.1, HF.out.2.1, HF.out.2.2.1, HF.out.2.2.2.2.1, HL.out]; exact H0.out)
        generalize hK : crcN (zs.take P3 ++ []) = K at *
        have HK := Lib.hid hK
        clear hK
        by_cases hq : C ≠ K
        · have hc := Lib.hid (snC_4 hS4 HOK.out h3.out (fun h => hq (HC.out.1 h)))
          have hq1 : ((C : Int) != (K : Int)) = true := by simp; omega
          clear hq
          go_wp2_with fail
          go_quiet (fail)
          go_wp2_with fail
          refine (isGen_yes _ _ g4 g5).mono ?_
          rintro e w3 ⟨rfl, rfl⟩
          go_wp2_with fail
          refine (isSeq1_yes _ _ s5 s6).mono ?_
          rintro e w3 ⟨rfl, rfl⟩
          go_wp2_with fail
          refine (crcOfBoth_any (some ⟨b, o, none⟩) _ P3 n _ _ (zs.take P3) [] _ ((HRT.out.below (Nat.le_refl _) (below_drewN HBW.out _)).more hbs) (fun h => absurd h (by simp)) HGT.out HGD.out HLT.out HLD.out (by omega) (by omega)).mono ?_
          rintro e w4 ⟨rfl, hx4⟩
          rw [HK.out]
          have HB4 := Lib.hid ((below_drewN HBW.out _).trans (hx4.mono hbs))
          have hr04 : w4.heap[w.heap.size]? = some zero3 := (hx4.block _ (by simp; exact hlt0)).trans HR0'.out
          clear hx4
          obtain ⟨⟨c0, c1, c2⟩, f0, f1, f2⟩ := blk3 hr04
          obtain ⟨p0, p1, p2⟩ := put3 hr04 (.int .i64 0) (.int .i64 0) (.slice none 0 0)
          go_wp2_with fail
          refine bodyPost_ret (v := .tuple #[.agg #[.int .i64 0, .int .i64 0, .slice none 0 0], .iface 53 (.agg #[.int .i64 4])]) (by simp [results, Tryd.results24, go_sem, p0, p1, p2]) rfl (decE_bad (k := 4) hc.out (by omega) (((HB4.out.setCell (Nat.le_refl _) _).setCell (Nat.le_refl _) _).setCell (Nat.le_refl _) _))
        have hq' : C = K := by omega
        have hc := Lib.hid (snC_0 hS4 HOK.out h3.out (HC.out.2 hq'))
        have hq1 : ((C : Int) != (K : Int)) = false := by simp; omega
        clear hq hq'
        go_wp2_with fail
        go_quiet (fail)
        go_wp2_with fail
        refine (isGen_yes _ _ g4 g5).mono ?_
        rintro e w3 ⟨rfl, rfl⟩
        go_wp2_with fail
        refine (isSeq1_yes _ _ s5 s6).mono ?_
        rintro e w3 ⟨rfl, rfl⟩
        go_wp2_with fail
        refine (crcOfBoth_any (some ⟨b, o, none⟩) _ P3 n _ _ (zs.take P3) [] _ ((HRT.out.below (Nat.le_refl _) (below_drewN HBW.out _)).more hbs) (fun h => absurd h (by simp)) HGT.out HGD.out HLT.out HLD.out (by omega) (by omega)).mono ?_
        rintro e w4 ⟨rfl, hx4⟩
        rw [HK.out]
        have HB4 := Lib.hid ((below_drewN HBW.out _).trans (hx4.mono hbs))
        have hr04 : w4.heap[w.heap.size]? = some zero3 := (hx4.block _ (by simp; exact hlt0)).trans HR0'.out
        clear hx4
        obtain ⟨⟨c0, c1, c2⟩, f0, f1, f2⟩ := blk3 hr04
        obtain ⟨p0, p1, p2⟩ := put3 hr04 (.int .i64 G) (.int .i64 S) (.slice (some ⟨b, o, none⟩) 0 0)
        obtain ⟨q1, q2, q3⟩ := sn_good hc.out
        have HD := Lib.hid (show snD zs = [] from q3.trans HF.out.2.2.2.2.2.1)
        have HQ := Lib.hid (And.intro (q1.trans HF.out.1) (q2.trans HF.out.2.1))
        clear q1 q2 q3
        go_wp2_with fail
        refine bodyPost_ret (v := .tuple #[.agg #[.int .i64 G, .int .i64 S, .slice (some ⟨b, o, none⟩) 0 0], .nilIface]) (by simp [results, Tryd.results24, go_sem, p0, p1, p2]) rfl (decE_good hc.out HQ.out.1 HQ.out.2 (by rw [HD.out]; exact fun h => absurd h (by simp)) (by rw [HD.out]; exact HLD.out) (fun h => nomatch h) (((HB4.out.setCell (Nat.le_refl _) _).setCell (Nat.le_refl _) _).setCell (Nat.le_refl _) _))
      · have hcE' : P4 < c := by omega
        clear hcE
        by_cases hG : (G : Int) < 1 ∨ 1000000000 < (G : Int)
        · have hc := Lib.hid (H3.out (by omega))
          have HH := Lib.hid hG
          clear hG
          obtain ⟨⟨c0, c1, c2⟩, f0, f1, f2⟩ := HZ0.out
          have p0 := fun nq => (HP0.out nq).1
          have p1 := fun nq => (HP0.out nq).2.1
          have p2 := fun nq => (HP0.out nq).2.2
          go_wp2_with fail
          go_quiet (fail)
          go_wp2_with fail
          refine (isGen_no _ _ HH.out).mono ?_
          rintro e w3 ⟨rfl, rfl⟩
          go_wp2_with fail
          refine bodyPost_ret (v := .tuple #[.agg #[.int .i64 0, .int .i64 0, .slice none 0 0], .iface 53 (.agg #[.int .i64 3])]) (by simp [results, Tryd.results24, go_sem, p0, p1, p2]) rfl (decE_bad (k := 3) hc.out (by omega) ((((below_drewN HBW.out _).setCell (Nat.le_refl _) _).setCell (Nat.le_refl _) _).setCell (Nat.le_refl _) _))
        have g4 : 1 ≤ (G : Int) := by omega
        have g5 : (G : Int) ≤ 1000000000 := by omega
        clear hG
        by_cases hS : (S : Int) < 1 ∨ 1000000000 < (S : Int)
        · have hc := Lib.hid (H3.out (by omega))
          have HH := Lib.hid hS
          clear hS
          obtain ⟨⟨c0, c1, c2⟩, f0, f1, f2⟩ := HZ0.out
          have p0 := fun nq => (HP0.out nq).1
          have p1 := fun nq => (HP0.out nq).2.1
          have p2 := fun nq => (HP0.out nq).2.2
          go_wp2_with fail
          go_quiet (fail)
          go_wp2_with fail
          refine (isGen_yes _ _ g4 g5).mono ?_
          rintro e w3 ⟨rfl, rfl⟩
          go_wp2_with fail
          refine (isSeq1_no _ _ HH.out).mono ?_
          rintro e w3 ⟨rfl, rfl⟩
          go_wp2_with fail
          refine bodyPost_ret (v := .tuple #[.agg #[.int .i64 0, .int .i64 0, .slice none 0 0], .iface 53 (.agg #[.int .i64 3])]) (by simp [results, Tryd.results24, go_sem, p0, p1, p2]) rfl (decE_bad (k := 3) hc.out (by omega) ((((below_drewN HBW.out _).setCell (Nat.le_refl _) _).setCell (Nat.le_refl _) _).setCell (Nat.le_refl _) _))
        have s5 : 1 ≤ (S : Int) := by omega
        have s6 : (S : Int) ≤ 1000000000 := by omega
        clear hS
        by_cases hZ : (Z : Int) ≠ ((n - P4 : Nat) : Int)
        · have hc := Lib.hid (H3.out (by omega))
          have hz : ((Z : Int) != ((n - P4 : Nat) : Int)) = true := by simpa using hZ
          clear hZ
          obtain ⟨⟨c0, c1, c2⟩, f0, f1, f2⟩ := HZ0.out
          have p0 := fun nq => (HP0.out nq).1
          have p1 := fun nq => (HP0.out nq).2.1
          have p2 := fun nq => (HP0.out nq).2.2
          go_wp2_with fail
          go_quiet (fail)
          go_wp2_with fail
          refine (isGen_yes _ _ g4 g5).mono ?_
          rintro e w3 ⟨rfl, rfl⟩
          go_wp2_with fail
          refine (isSeq1_yes _ _ s5 s6).mono ?_
          rintro e w3 ⟨rfl, rfl⟩
          go_wp2_with fail
          refine bodyPost_ret (v := .tuple #[.agg #[.int .i64 0, .int .i64 0, .slice none 0 0], .iface 53 (.agg #[.int .i64 3])]) (by simp [results, Tryd.results24, go_sem, p0, p1, p2]) rfl (decE_bad (k := 3) hc.out (by omega) ((((below_drewN HBW.out _).setCell (Nat.le_refl _) _).setCell (Nat.le_refl _) _).setCell (Nat.le_refl _) _))
        have hz : ((Z : Int) != ((n - P4 : Nat) : Int)) = false := by simpa using hZ
        have hz0 : (Z : Int) = (n : Int) - (P4 : Int) := by omega
        clear hZ
        by_cases hM : 150000 < (Z : Int)
        · have hc := Lib.hid (H3.out (by omega))
          clear hz0
          obtain ⟨⟨c0, c1, c2⟩, f0, f1, f2⟩ := HZ0.out
          have p0 := fun nq => (HP0.out nq).1
          have p1 := fun nq => (HP0.out nq).2.1
          have p2 := fun nq => (HP0.out nq).2.2
          go_wp2_with fail
          go_quiet (fail)
          go_wp2_with fail
          refine (isGen_yes _ _ g4 g5).mono ?_
          rintro e w3 ⟨rfl, rfl⟩
          go_wp2_with fail
          refine (isSeq1_yes _ _ s5 s6).mono ?_
          rintro e w3 ⟨rfl, rfl⟩
          go_wp2_with fail
          refine bodyPost_ret (v := .tuple #[.agg #[.int .i64 0, .int .i64 0, .slice none 0 0], .iface 53 (.agg #[.int .i64 3])]) (by simp [results, Tryd.results24, go_sem, p0, p1, p2]) rfl (decE_bad (k := 3) hc.out (by omega) ((((below_drewN HBW.out _).setCell (Nat.le_refl _) _).setCell (Nat.le_refl _) _).setCell (Nat.le_refl _) _))
        have hm : (Z : Int) ≤ 150000 := by omega
        have H0 := Lib.hid (And.intro g4 (And.intro g5 (And.intro s5 (And.intro s6 (And.intro hz0 hm)))))
        clear hM hz0
        have HC := Lib.hid (show num zs 3 = (crcN (sHead zs ++ sData zs) : Int) ↔ C = crcN (zs.take P3 ++ zs.drop P4) by rw [HF.out.2.2.2.1, HF.out.2.2.2.2.2.1, HF.out.2.2.2.2.2.2]; omega)
        have h3 := Lib.hid (show 1 ≤ num zs 0 ∧ num zs 0 ≤ 1000000000 ∧ 1 ≤ num zs 1 ∧ num zs 1 ≤ 1000000000 ∧ num zs 2 = (zs.length : Int) - pos zs 4 ∧ num zs 2 ≤ 150000 by rw [HF.out.1, HF.out.2.1, HF.out.2.2.1, HF.out.2.2.2.2.1, HL.out]; exact H0.out)
        generalize hK : crcN (zs.take P3 ++ zs.drop P4) = K at *
        have HK := Lib.hid hK
        clear hK
        by_cases hq : C ≠ K
        · have hc := Lib.hid (snC_4 hS4 HOK.out h3.out (fun h => hq (HC.out.1 h)))
          have hq1 : ((C : Int) != (K : Int)) = true := by simp; omega
          clear hq
          go_wp2_with fail
          go_quiet (fail)
          go_wp2_with fail
          refine (isGen_yes _ _ g4 g5).mono ?_
          rintro e w3 ⟨rfl, rfl⟩
          go_wp2_with fail
          refine (isSeq1_yes _ _ s5 s6).mono ?_
          rintro e w3 ⟨rfl, rfl⟩
          go_wp2_with fail
          refine (crcOfBoth_any (some ⟨b, o, none⟩) _ P3 c _ _ (zs.take P3) _ _ ((HRT.out.below (Nat.le_refl _) (below_drewN HBW.out _)).more hbs) ((HRD.out.below (Nat.le_refl _) (below_drewN HBW.out _)).more hbs) HGT.out HGD.out HLT.out HLD.out (by omega) (by omega)).mono ?_
          rintro e w4 ⟨rfl, hx4⟩
          rw [HK.out]
          have HB4 := Lib.hid ((below_drewN HBW.out _).trans (hx4.mono hbs))
          have hr04 : w4.heap[w.heap.size]? = some zero3 := (hx4.block _ (by simp; exact hlt0)).trans HR0'.out
          clear hx4
          obtain ⟨⟨c0, c1, c2⟩, f0, f1, f2⟩ := blk3 hr04
          obtain ⟨p0, p1, p2⟩ := put3 hr04 (.int .i64 0) (.int .i64 0) (.slice none 0 0)
          go_wp2_with fail
          refine bodyPost_ret (v := .tuple #[.agg #[.int .i64 0, .int .i64 0, .slice none 0 0], .iface 53 (.agg #[.int .i64 4])]) (by simp [results, Tryd.results24, go_sem, p0, p1, p2]) rfl (decE_bad (k := 4) hc.out (by omega) (((HB4.out.setCell (Nat.le_refl _) _).setCell (Nat.le_refl _) _).setCell (Nat.le_refl _) _))
        have hq' : C = K := by omega
        have hc := Lib.hid (snC_0 hS4 HOK.out h3.out (HC.out.2 hq'))
        have hq1 : ((C : Int) != (K : Int)) = false := by simp; omega
        clear hq hq'
        go_wp2_with fail
        go_quiet (fail)
        go_wp2_with fail
        refine (isGen_yes _ _ g4 g5).mono ?_
        rintro e w3 ⟨rfl, rfl⟩
        go_wp2_with fail
        refine (isSeq1_yes _ _ s5 s6).mono ?_
        rintro e w3 ⟨rfl, rfl⟩
        go_wp2_with fail
        refine (crcOfBoth_any (some ⟨b, o, none⟩) _ P3 c _ _ (zs.take P3) _ _ ((HRT.out.below (Nat.le_refl _) (below_drewN HBW.out _)).more hbs) ((HRD.out.below (Nat.le_refl _) (below_drewN HBW.out _)).more hbs) HGT.out HGD.out HLT.out HLD.out (by omega) (by omega)).mono ?_
        rintro e w4 ⟨rfl, hx4⟩
        rw [HK.out]
        have HB4 := Lib.hid ((below_drewN HBW.out _).trans (hx4.mono hbs))
        have hr04 : w4.heap[w.heap.size]? = some zero3 := (hx4.block _ (by simp; exact hlt0)).trans HR0'.out
        clear hx4
        obtain ⟨⟨c0, c1, c2⟩, f0, f1, f2⟩ := blk3 hr04
        obtain ⟨p0, p1, p2⟩ := put3 hr04 (.int .i64 G) (.int .i64 S) (.slice (some ⟨b, o + P4, none⟩) (n - P4) (c - P4))
        obtain ⟨q1, q2, q3⟩ := sn_good hc.out
        have HD := Lib.hid (show snD zs = zs.drop P4 from q3.trans HF.out.2.2.2.2.2.1)
        have HQ := Lib.hid (And.intro (q1.trans HF.out.1) (q2.trans HF.out.2.1))
        clear q1 q2 q3
        go_wp2_with fail
        refine bodyPost_ret (v := .tuple #[.agg #[.int .i64 G, .int .i64 S, .slice (some ⟨b, o + P4, none⟩) (n - P4) (c - P4)], .nilIface]) (by simp [results, Tryd.results24, go_sem, p0, p1, p2]) rfl (decE_good hc.out HQ.out.1 HQ.out.2 (by rw [HD.out]; exact HRD.out.below (Nat.le_refl _) (((HB4.out.setCell (Nat.le_refl _) _).setCell (Nat.le_refl _) _).setCell (Nat.le_refl _) _)) (by rw [HD.out]; exact HLD.out) (fun h => nomatch h) (((HB4.out.setCell (Nat.le_refl _) _).setCell (Nat.le_refl _) _).setCell (Nat.le_refl _) _))
end Go.Proofs.YteiojpglhmikoaaDoor.Snap

