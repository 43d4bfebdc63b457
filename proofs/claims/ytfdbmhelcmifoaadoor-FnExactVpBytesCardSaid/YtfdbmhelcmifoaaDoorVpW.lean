/- The laws' helpers over an act and over a parser's state and an act: a comparison of equals, marks, what holds them; VpByte in both as the law takes it. -/
import Derived.Test.YtfdbmhelcmifoaaDoorVpO
import Derived.Test.YtfdbmhelcmifoaaDoorIntM
import Derived.Test.YtfdbmhelcmifoaaDoorBytesM
namespace Go.Proofs.YtfdbmhelcmifoaaDoor.Vp
open Go.RowKit Go.Proofs.YtfdbmhelcmifoaaDoor.Bytes Go.Proofs.YtfdbmhelcmifoaaDoor.DOk Go.Proofs.YtfdbmhelcmifoaaDoor.Rune Go.Proofs.YtfdbmhelcmifoaaDoor.RowK Go.Proofs.YtfdbmhelcmifoaaDoor.Gr
set_option linter.unusedVariables false
theorem spec_VpByte_any (st : Int) (mk : Bool) (A : Option Addr) (na ca : Nat) (zs : List Int) (P : Option Addr) (np cp : Nat) (bs : List Int) (b : Int) (w : World) (hr : RdI w w.heap.size A zs) (hA : A = none → na = 0 ∧ ca = 0) (hl : zs.length = na) (hn : na ≤ 1048576) (hp : Rd w w.heap.size P bs) (hP : P = none → np = 0 ∧ cp = 0) (hg : Rng bs) (hpl : bs.length = np) (hpn : np ≤ 1048576) (hpc : np ≤ cp) :
    Calls Tryd.prog 12 #[.agg #[.int .i64 st, .bool mk, .slice A na ca, .slice P np cp], .int .i64 b] w (AnsVB w (vbV ⟨st, mk, zs, bs⟩ b)) := by
  cases hok : okVp st mk zs bs with
  | false =>
    have e : vbV ⟨st, mk, zs, bs⟩ b = (vz, az) := by unfold vbV isB; simp [hok]
    rw [e]; exact spec_VpByte_bad st mk A na ca zs P np cp bs b w hr hA hl hn hp hP hg hpl hpn hpc hok
  | true =>
    by_cases hb0 : b < 0
    · have e : vbV ⟨st, mk, zs, bs⟩ b = (vz, az) := by unfold vbV isB; rw [if_neg (by simp [hok]; omega)]
      rw [e]; exact spec_VpByte_lo st mk A na ca zs P np cp bs b w hr hA hl hn hp hP hg hpl hpn hpc hok hb0
    by_cases hb1 : 255 < b
    · have e : vbV ⟨st, mk, zs, bs⟩ b = (vz, az) := by unfold vbV isB; rw [if_neg (by simp [hok]; omega)]
      rw [e]; exact spec_VpByte_hi st mk A na ca zs P np cp bs b w hr hA hl hn hp hP hg hpl hpn hpc hok hb1
    have ev : vbV ⟨st, mk, zs, bs⟩ b = stepV ⟨st, mk, zs, bs⟩ b := by unfold vbV isB; rw [if_pos (by simp [hok]; omega)]
    rw [ev]
    by_cases h27 : b = 27
    · have e : stepV ⟨st, mk, zs, bs⟩ b = (⟨1, false, [], []⟩, az) := by unfold stepV; rw [if_pos h27]
      rw [e]; exact spec_VpByte_27 st mk A na ca zs P np cp bs b w hr hA hl hn hp hP hg hpl hpn hpc hok h27
    by_cases h24 : b = 24
    · have e : stepV ⟨st, mk, zs, bs⟩ b = (vz, az) := by unfold stepV; rw [if_neg h27, if_pos (.inl h24)]
      rw [e]; exact spec_VpByte_24 st mk A na ca zs P np cp bs b w hr hA hl hn hp hP hg hpl hpn hpc hok h24
    by_cases h26 : b = 26
    · have e : stepV ⟨st, mk, zs, bs⟩ b = (vz, az) := by unfold stepV; rw [if_neg h27, if_pos (.inr h26)]
      rw [e]; exact spec_VpByte_26 st mk A na ca zs P np cp bs b w hr hA hl hn hp hP hg hpl hpn hpc hok h26
    have m27 : (b == 27) = false := by simpa using h27
    have m24 : (b == 24) = false := by simpa using h24
    have m26 : (b == 26) = false := by simpa using h26
    have hne : ¬ (b = 24 ∨ b = 26) := by omega
    have hk := ok_parts (s := ⟨st, mk, zs, bs⟩) ⟨hok, hg⟩
    simp only at hk
    rcases hk with ⟨hs, hq, hz, hl2⟩ | ⟨hs, hq, hz, hl2⟩ | ⟨hs, hl8, hb2, hzb⟩
    · subst hs
      have e : stepV ⟨0, mk, zs, bs⟩ b = plainV bs b := by unfold stepV; rw [if_neg h27, if_neg hne, if_pos rfl]
      rw [e]; exact spec_VpByte_0 mk A na ca zs P np cp bs b w hr hA hl hn hp hP hg hpl hpn hpc hok m27 m24 m26 (by omega) (by omega) (by omega)
    · subst hs
      have e : stepV ⟨1, mk, zs, bs⟩ b = escV b := by unfold stepV; rw [if_neg h27, if_neg hne, if_neg (by simp), if_pos rfl]
      rw [e]
      by_cases hc : b = 91
      · have e : escV b = (⟨2, false, [], []⟩, az) := by unfold escV; rw [if_pos hc]
        rw [e]; exact spec_VpByte_1csi mk A na ca zs P np cp bs b w hr hA hl hn hp hP hg hpl hpn hpc hok m27 m24 m26 (by omega) (by omega) hc
      by_cases hd : 48 ≤ b ∧ b ≤ 126
      · have e : escV b = (vz, ⟨3, b, false, []⟩) := by unfold escV; rw [if_neg hc, if_pos hd]
        rw [e]; exact spec_VpByte_1esc mk A na ca zs P np cp bs b w hr hA hl hn hp hP hg hpl hpn hpc hok m27 m24 m26 (by omega) (by omega) hc hd.1 hd.2
      · have e : escV b = (vz, az) := by unfold escV; rw [if_neg hc, if_neg hd]
        rw [e]
        by_cases hlo : b < 48
        · exact spec_VpByte_1lo mk A na ca zs P np cp bs b w hr hA hl hn hp hP hg hpl hpn hpc hok m27 m24 m26 (by omega) (by omega) hlo
        · exact spec_VpByte_1hi mk A na ca zs P np cp bs b w hr hA hl hn hp hP hg hpl hpn hpc hok m27 m24 m26 (by omega) (by omega) (by omega)
    · rcases hs with hs | hs
      · subst hs
        have e : stepV ⟨2, mk, zs, bs⟩ b = csiV mk zs b := by unfold stepV; rw [if_neg h27, if_neg hne, if_neg (by simp), if_neg (by simp), if_pos rfl]
        rw [e]; exact spec_VpByte_2 mk A na ca zs P np cp bs b w hr hA hl hn hp hP hg hpl hpn hpc hok m27 m24 m26 (by omega) (by omega) (by omega) hb2 hzb
      · subst hs
        have e : stepV ⟨3, mk, zs, bs⟩ b = skipV mk zs b := by unfold stepV; rw [if_neg h27, if_neg hne, if_neg (by simp), if_neg (by simp), if_neg (by simp)]
        rw [e]
        by_cases hd : 64 ≤ b ∧ b ≤ 126
        · have e : skipV mk zs b = (vz, az) := by unfold skipV; rw [if_pos hd]
          rw [e]; exact spec_VpByte_3end mk A na ca zs P np cp bs b w hr hA hl hn hp hP hg hpl hpn hpc hok m27 m24 m26 (by omega) (by omega) hd.1 hd.2
        · have e : skipV mk zs b = (⟨3, mk, zs, bs⟩, az) := by unfold skipV; rw [if_neg hd, hb2]
          rw [e]
          by_cases hlo : b < 64
          · exact spec_VpByte_3lo mk A na ca zs P np cp bs b w hr hA hl hn hp hP hg hpl hpn hpc hok m27 m24 m26 (by omega) (by omega) hlo
          · exact spec_VpByte_3hi mk A na ca zs P np cp bs b w hr hA hl hn hp hP hg hpl hpn hpc hok m27 m24 m26 (by omega) (by omega) (by omega)
/-- what VpByte answers, in letters -/
def AnsVL (w : World) (st : Int) (q : Bool) (zs bs : List Int) (k r : Int) (q' : Bool) (as_ : List Int) (n1 n2 n3 : Nat) (e : Ending) (w' : World) : Prop :=
  ∃ A' ca' P' cp' A2 c2, e = .returned (.tuple #[.agg #[.int .i64 st, .bool q, .slice A' n1 ca', .slice P' n2 cp'], .agg #[.int .i64 k, .int .i64 r, .bool q', .slice A2 n3 c2]]) ∧
    OwnI w' w.heap.size A' n1 ca' zs ∧ Own w' w.heap.size P' n2 cp' bs ∧ OwnI w' w.heap.size A2 n3 c2 as_ ∧ (A2 = none ∨ A' = none) ∧ Below w.heap.size w w'
theorem AnsVB.letters {w : World} {st : Int} {q : Bool} {zs bs : List Int} {k r : Int} {q' : Bool} {as_ : List Int} {n1 n2 n3 : Nat} {e : Ending} {w' : World} (h : AnsVB w (⟨st, q, zs, bs⟩, ⟨k, r, q', as_⟩) e w') (h1 : zs.length = n1) (h2 : bs.length = n2) (h3 : as_.length = n3) : AnsVL w st q zs bs k r q' as_ n1 n2 n3 e w' := by
  obtain ⟨A', na', ca', P', np', cp', A2, n4, c2, he, i1, i2, i3, i4, i5⟩ := h
  have e1 := i1.len
  have e2 := i2.len
  have e3 := i3.len
  simp only at e1 e2 e3
  obtain rfl : na' = n1 := by omega
  obtain rfl : np' = n2 := by omega
  obtain rfl : n4 = n3 := by omega
  exact ⟨A', ca', P', cp', A2, c2, he, i1, i2, i3, i4, i5⟩
theorem vbV_small (s : VS) (b : Int) (hg : Rng s.bs) : (vbV s b).1.zs.length ≤ 8 ∧ (vbV s b).1.bs.length ≤ 2 ∧ (vbV s b).2.zs.length ≤ 8 := by
  unfold vbV isB
  split
  · rename_i h
    simp only [Bool.and_eq_true, decide_eq_true_eq] at h
    have h1 := stepV_small (s := s) ⟨h.1, hg⟩ h.2.1 h.2.2
    exact ⟨h1.1, h1.2, stepV_act ⟨h.1, hg⟩⟩
  · simp [vz, az]
set_option maxRecDepth 100000 in
set_option maxHeartbeats 800000 in
theorem eqAct_yes (k r : Int) (q : Bool) (A A' : Option Addr) (n c c' : Nat) (zs : List Int) (w : World) (hr : RdI w w.heap.size A zs) (hr' : RdI w w.heap.size A' zs) (hl : zs.length = n) (hn : n ≤ 2097152) :
    Calls Tryd.prog 16 #[.agg #[.int .i64 k, .int .i64 r, .bool q, .slice A n c], .agg #[.int .i64 k, .int .i64 r, .bool q, .slice A' n c']] w fun e w' => e = .returned (.bool true) ∧ Below w.heap.size w w' := by
  have e1 : (k != k) = false := by simp
  have e2 : (r != r) = false := by simp
  have e3 : (q != q) = false := by simp
  have hb0 := Lib.hid (((Below.refl w.heap.size w).alloc (Nat.le_refl _) (.cells #[.int .i64 k, .int .i64 r, .bool q, .slice A n c] 53)).alloc (by simp) (.cells #[.int .i64 k, .int .i64 r, .bool q, .slice A' n c'] 53))
  have HI := Lib.hid (fun V (h : Below w.heap.size w V) => eqIntS_yes A A' n c c' zs V ((hr.below (Nat.le_refl _) h).more h.size) ((hr'.below (Nat.le_refl _) h).more h.size) hl hn)
  clear hr hr' hl
  go_enter Tryd.func16, Tryd.ntmps16
  go_wp2_with fail
  refine (HI.out _ hb0.out).mono ?_
  rintro e v1 ⟨rfl, hb1⟩
  have HB1 := Lib.hid (hb0.out.trans (hb1.mono (by simp <;> omega)))
  clear hb1
  go_wp2_with fail
  go_ret
  exact ⟨rfl, HB1.out⟩
set_option maxRecDepth 100000 in
set_option maxHeartbeats 800000 in
theorem markAct_any (k r : Int) (q : Bool) (A : Option Addr) (n c base : Nat) (zs : List Int) (m : Int) (w : World) (ho : OwnI w base A n c zs) (hn : n ≤ 1000) (h0 : 0 ≤ m) (h1 : m ≤ 1048576000) :
    Calls Tryd.prog 18 #[.agg #[.int .i64 k, .int .i64 r, .bool q, .slice A n c], .int .i64 m] w fun e w' => e = .returned (.int .i64 (m + n)) ∧ OwnI w' base A n c (marksN n m) ∧ Only (fun i => Blk A n c i) w w' := by
  have HO := Lib.hid (show OwnI (w.alloc (.cells #[.int .i64 k, .int .i64 r, .bool q, .slice A n c] 53)) base A n c zs from ho.alloc _)
  clear ho
  go_enter Tryd.func18, Tryd.ntmps18
  go_wp2_with fail
  refine (markIntS_own A n c base zs m _ HO.out (by omega) h0 (by omega)).mono ?_
  rintro e v1 ⟨rfl, ho1, hg1⟩
  have H1 := Lib.hid ho1
  have H2 := Lib.hid ((alloc_only w (.cells #[.int .i64 k, .int .i64 r, .bool q, .slice A n c] 53)).trans (Only.grown hg1 (S := fun i => Blk A n c i) fun i hi => hi))
  clear ho1 hg1
  go_wp2_with fail
  go_ret
  exact ⟨rfl, H1.out, H2.out⟩
set_option maxRecDepth 100000 in
set_option maxHeartbeats 800000 in
theorem heldAct_any (k r : Int) (q : Bool) (A : Option Addr) (n c : Nat) (m : Int) (w : World) (hr : RdI w w.heap.size A (marksN n m)) (hn : n ≤ 1000) (h0 : 0 ≤ m) (h1 : m ≤ 1048576000) :
    Calls Tryd.prog 20 #[.agg #[.int .i64 k, .int .i64 r, .bool q, .slice A n c], .int .i64 m] w fun e w' => e = .returned (.int .i64 (m + n)) ∧ Below w.heap.size w w' := by
  have hb0 := Lib.hid ((Below.refl w.heap.size w).alloc (Nat.le_refl _) (.cells #[.int .i64 k, .int .i64 r, .bool q, .slice A n c] 53))
  have HR := Lib.hid ((hr.below (Nat.le_refl _) hb0.out).more hb0.out.size)
  clear hr
  go_enter Tryd.func20, Tryd.ntmps20
  go_wp2_with fail
  refine (heldIntS_any A n c m _ HR.out (by omega) h0 (by omega)).mono ?_
  rintro e v1 ⟨rfl, rfl⟩
  go_wp2_with fail
  go_ret
  exact ⟨rfl, hb0.out⟩
set_option maxRecDepth 100000 in
set_option maxHeartbeats 800000 in
theorem markVp_any (st : Int) (q : Bool) (A : Option Addr) (na ca : Nat) (zs : List Int) (P : Option Addr) (np cp base : Nat) (bs : List Int) (m : Int) (w : World) (ho : OwnI w base A na ca zs) (hp : Own w base P np cp bs) (hn : na ≤ 1048576) (hpn : np ≤ 1048576) (h0 : 0 ≤ m) (h1 : m ≤ 1048576) :
    Calls Tryd.prog 17 #[.agg #[.int .i64 st, .bool q, .slice A na ca, .slice P np cp], .int .i64 m] w fun e w' => e = .returned (.int .i64 (m + na + np)) ∧ OwnI w' base A na ca (marksN na m) ∧ Own w' base P np cp (marks np (m + na)) ∧ Only (fun i => Blk A na ca i ∨ Blk P np cp i) w w' := by
  have HO := Lib.hid (show OwnI (w.alloc (.cells #[.int .i64 st, .bool q, .slice A na ca, .slice P np cp] 38)) base A na ca zs from ho.alloc _)
  have HP := Lib.hid (show Own (w.alloc (.cells #[.int .i64 st, .bool q, .slice A na ca, .slice P np cp] 38)) base P np cp bs from World.ownsRow.alloc hp _)
  have HN := Lib.hid (show ∀ i, Blk P np cp i → ¬ Blk A na ca i from fun i hi h => own_ne hp ho (by decide) i hi h)
  have HL := Lib.hid (show ∀ i, Blk A na ca i → i < w.heap.size from fun i hi => (ho.blk i hi).2)
  have HV := Lib.hid (BoxV.new w #[.int .i64 st, .bool q, .slice A na ca, .slice P np cp])
  clear ho hp
  go_enter Tryd.func17, Tryd.ntmps17
  go_wp2_with fail
  refine (markIntS_own A na ca base zs m _ HO.out (by omega) h0 (by omega)).mono ?_
  rintro e v1 ⟨rfl, ho1, hg1⟩
  have on1 : Only (fun i => Blk A na ca i) _ v1 := Only.grown hg1 fun i hi => hi
  have H1 := Lib.hid ho1
  have H2 := Lib.hid ((alloc_only w (.cells #[.int .i64 st, .bool q, .slice A na ca, .slice P np cp] 38)).trans on1)
  have H3 := Lib.hid (show Own v1 base P np cp bs from Only.own HP.out on1 HN.out)
  have hv := HV.out.only on1 (fun h => by have := HL.out _ h; omega)
  have c3 : v1.cell? ⟨w.heap.size, 3, none⟩ = some (.slice P np cp) := hv.cell 3
  have h2 : 0 ≤ m + (na : Int) := by omega
  clear ho1 hg1 on1 hv
  go_wp2_with fail
  refine (markByteS_any P np cp base bs (m + na) _ H3.out (by omega) h2 (by omega)).mono ?_
  rintro e v2 ⟨rfl, ho2, hg2⟩
  have on2 : Only (fun i => Blk P np cp i) v1 v2 := Only.grown hg2 fun i hi => hi
  have H4 := Lib.hid ho2
  have H5 := Lib.hid (Only.own H1.out on2 (fun i hi h => HN.out i h hi))
  have H6 := Lib.hid ((H2.out.mono (T := fun i => Blk A na ca i ∨ Blk P np cp i) fun i hi => .inl hi).trans (on2.mono fun i hi => .inr hi))
  clear ho2 hg2 on2
  go_wp2_with fail
  go_ret
  exact ⟨rfl, H5.out, H4.out, H6.out⟩
set_option maxRecDepth 100000 in
set_option maxHeartbeats 800000 in
theorem heldVp_any (st : Int) (q : Bool) (A : Option Addr) (na ca : Nat) (P : Option Addr) (np cp : Nat) (m : Int) (w : World) (hr : RdI w w.heap.size A (marksN na m)) (hp : Rd w w.heap.size P (marks np (m + na))) (hn : na ≤ 1048576) (hpn : np ≤ 1048576) (h0 : 0 ≤ m) (h1 : m ≤ 1048576) :
    Calls Tryd.prog 19 #[.agg #[.int .i64 st, .bool q, .slice A na ca, .slice P np cp], .int .i64 m] w fun e w' => e = .returned (.int .i64 (m + na + np)) ∧ Below w.heap.size w w' := by
  have hb0 := Lib.hid ((Below.refl w.heap.size w).alloc (Nat.le_refl _) (.cells #[.int .i64 st, .bool q, .slice A na ca, .slice P np cp] 38))
  have HR := Lib.hid ((hr.below (Nat.le_refl _) hb0.out).more hb0.out.size)
  have HP := Lib.hid ((hp.below (Nat.le_refl _) hb0.out).more hb0.out.size)
  have h2 : 0 ≤ m + (na : Int) := by omega
  have h3 : 0 ≤ m + (na : Int) + np := by omega
  clear hr hp
  go_enter Tryd.func19, Tryd.ntmps19
  go_wp2_with fail
  refine (heldIntS_any A na ca m _ HR.out (by omega) h0 (by omega)).mono ?_
  rintro e v1 ⟨rfl, rfl⟩
  go_wp2_with fail
  refine (heldByteS_any P np cp (m + na) _ HP.out (by omega) h2 (by omega)).mono ?_
  rintro e v1 ⟨rfl, rfl⟩
  go_wp2_with fail
  go_ret
  exact ⟨rfl, hb0.out⟩
end Go.Proofs.YtfdbmhelcmifoaaDoor.Vp
