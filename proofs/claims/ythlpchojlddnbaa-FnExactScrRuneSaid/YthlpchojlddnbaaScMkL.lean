/- Words and lemmas, merged (once: ScMk, ScLaw) -/
import Derived.Test.YthlpchojlddnbaaScTo
import Derived.Test.YthlpchojlddnbaaScO
import Derived.Test.YthlpchojlddnbaaScToS
import Derived.Test.YthlpchojlddnbaaGrMark
import Derived.Test.YthlpchojlddnbaaIntM
import Derived.Test.YthlpchojlddnbaaScSz
import Derived.Test.YthlpchojlddnbaaScEq
namespace Go.Proofs.Ythlpchojlddnbaa.Sc
open Go.RowKit Go.Proofs.Ythlpchojlddnbaa.Bytes Go.Proofs.Ythlpchojlddnbaa.Rows_ Go.Proofs.Ythlpchojlddnbaa.RowK Go.Proofs.Ythlpchojlddnbaa.Gr Go.Proofs.Ythlpchojlddnbaa.DOk Go.Proofs.Ythlpchojlddnbaa.Opq
set_option linter.unusedVariables false
def mkRows : Int → List SlC → List SlC
  | _, [] => []
  | k, r :: rs => ⟨r.A, r.c, mkCs k r.cs.length⟩ :: mkRows (k + 6 * (r.cs.length : Int)) rs
theorem mkRows_len : ∀ (k : Int) (rs : List SlC), (mkRows k rs).length = rs.length
  | _, [] => rfl
  | k, r :: rs => by simp [mkRows, mkRows_len]
theorem tot_cons (r : SlC) (rs : List SlC) : tot (r :: rs) = r.cs.length + tot rs := by simp [tot]
theorem tot_take_le : ∀ (rs : List SlC) (i : Nat), tot (rs.take i) ≤ tot rs
  | [], i => by simp [tot]
  | r :: rs, 0 => by simp [tot]
  | r :: rs, i + 1 => by rw [List.take_succ_cons, tot_cons, tot_cons]; have := tot_take_le rs i; omega
theorem mkRows_at : ∀ (k : Int) (rs : List SlC) (i : Nat) (h : i < rs.length), (mkRows k rs)[i]? = some ⟨rs[i].A, rs[i].c, mkCs (k + 6 * (tot (rs.take i) : Int)) rs[i].cs.length⟩
  | k, r :: rs, 0, h => by simp [mkRows, tot]
  | k, r :: rs, i + 1, h => by
    have := mkRows_at (k + 6 * (r.cs.length : Int)) rs i (by simpa using h)
    rw [mkRows, List.getElem?_cons_succ, this, List.take_succ_cons, tot_cons]
    simp only [List.getElem_cons_succ]
    rw [show k + 6 * (r.cs.length : Int) + 6 * (tot (rs.take i) : Int) = k + 6 * ((r.cs.length + tot (rs.take i) : Nat) : Int) by omega]
theorem mkRows_row : ∀ (k : Int) (rs : List SlC), (mkRows k rs).map rowR = rs.map rowR
  | _, [] => rfl
  | k, r :: rs => by simp [mkRows, mkRows_row, rowR, mkCs_len]
theorem mkRows_snoc : ∀ (k : Int) (l : List SlC) (r : SlC), mkRows k (l ++ [r]) = mkRows k l ++ [⟨r.A, r.c, mkCs (k + 6 * (tot l : Int)) r.cs.length⟩]
  | k, [], r => by simp [mkRows, tot]
  | k, x :: l, r => by
    rw [List.cons_append, mkRows, mkRows_snoc, tot_cons, mkRows, List.cons_append]
    rw [show k + 6 * (x.cs.length : Int) + 6 * (tot l : Int) = k + 6 * ((x.cs.length + tot l : Nat) : Int) by omega]
theorem mkRows_blk : ∀ (k : Int) (rs : List SlC), ∀ y ∈ mkRows k rs, ∃ r ∈ rs, blkS y = blkS r
  | k, r :: rs, y, hy => by
    rcases List.mem_cons.1 hy with rfl | hy
    · exact ⟨r, List.mem_cons_self, by unfold blkS; simp only [mkCs_len]⟩
    · obtain ⟨x, hx, e⟩ := mkRows_blk _ rs y hy
      exact ⟨x, List.mem_cons_of_mem _ hx, e⟩
def SR (rs : List SlC) (i : Nat) : Prop := ∃ r ∈ rs, blkS r = some i
theorem ownCs_step {w w' : World} {base : Nat} {pre post : List SlC} {r r' : SlC} (h : OwnCs w base (pre ++ [r] ++ post)) (hb : blkS r' = blkS r) (ho : OwnC w' base r'.A r'.cs.length r'.c r'.cs) (on : Only (fun i => blkS r = some i) w w') : OwnCs w' base (pre ++ [r'] ++ post) := by
  obtain ⟨h1, h2⟩ := h
  rw [List.append_assoc] at h2
  obtain ⟨p1, p2, p3⟩ := List.pairwise_append.1 h2
  obtain ⟨p4, p5⟩ := List.pairwise_cons.1 p2
  refine ⟨fun x hx => ?_, ?_⟩
  · rcases List.mem_append.1 hx with hx | hx
    · rcases List.mem_append.1 hx with hx | hx
      · exact Only.own (h1 x (by simp [hx])) on (fun g hg hs => p3 x hx r (by simp) g hg hs)
      · rw [List.mem_singleton] at hx; subst hx; exact ho
    · exact Only.own (h1 x (by simp [hx])) on (fun g hg hs => p4 x hx g hs hg)
  · rw [List.append_assoc]
    refine List.pairwise_append.2 ⟨p1, List.pairwise_cons.2 ⟨fun y hy g hg => p4 y hy g (hb ▸ hg), p5⟩, fun a ha b hb' => ?_⟩
    rcases List.mem_cons.1 hb' with rfl | hb'
    · intro g hg hg'; exact p3 a ha r (by simp) g hg (hb ▸ hg')
    · exact p3 a ha b (by simp [show b ∈ post from hb'])
set_option maxRecDepth 100000 in
set_option maxHeartbeats 3200000 in
theorem markRowS_any (A : Option Addr) (n c base : Nat) (rs : List SlC) (k : Int) (w : World) (ho : OwnR w base A n c rs) (hc : OwnCs w base rs) (hn : n ≤ 2097152) (h0 : 0 ≤ k) (h1 : k + 6 * (tot rs : Int) ≤ 1099511627776) (hcn : ∀ r ∈ rs, r.cs.length ≤ 2097152) :
    Calls Try.prog 69 #[.slice A n c, .int .i64 k] w fun e w' => e = .returned (.int .i64 (k + 6 * (tot rs : Int))) ∧ OwnR w' base A n c rs ∧ OwnCs w' base (mkRows k rs) ∧ Only (SR rs) w w' := by
  have HL := Lib.hid ho.len
  have HCN := Lib.hid hcn
  have H1 := Lib.hid h1
  clear hcn h1
  go_enter Try.func69, Try.ntmps69
  go_wp2_with fail
  go_loopw [1, 5] (fun m i wr => ∃ t : Nat, t ≤ n ∧ i = .int .i64 t ∧ m = .int .i64 (k + 6 * (tot (rs.take t) : Int)) ∧ OwnR wr base A n c rs ∧ OwnCs wr base (mkRows k (rs.take t) ++ rs.drop t) ∧ Only (SR rs) w wr) (fun _ i _ => n - (intOf i).toNat)
  case atStart => exact ⟨0, Nat.zero_le _, rfl, by simp [tot], ho, by simpa [mkRows] using hc, Only.refl _ _⟩
  case round =>
    clear ho hc
    obtain ⟨t, ht, rfl, rfl, ho, hc, hon⟩ := hrel
    by_cases hlt : t < n
    · have hlt' : t < rs.length := by rw [HL.out]; exact hlt
      obtain ⟨b, off, rfl, hB, hcell⟩ := ho.rd.at_ hlt'
      have HT := Lib.hid (tot_take rs t hlt')
      have HTL := Lib.hid (tot_take_le rs (t + 1))
      have hrn := HCN.out _ (List.getElem_mem hlt')
      have HN := Lib.hid (show mkRows k (rs.take (t + 1)) = mkRows k (rs.take t) ++ [⟨rs[t].A, rs[t].c, mkCs (k + 6 * (tot (rs.take t) : Int)) rs[t].cs.length⟩] by rw [List.take_succ_eq_append_getElem hlt', mkRows_snoc])
      have HM := Lib.hid (List.getElem_mem hlt')
      rw [List.drop_eq_getElem_cons hlt', show mkRows k (rs.take t) ++ rs[t] :: rs.drop (t + 1) = mkRows k (rs.take t) ++ [rs[t]] ++ rs.drop (t + 1) by simp] at hc
      have q0 : 0 ≤ k + 6 * (tot (rs.take t) : Int) := by omega
      have q1 : k + 6 * (tot (rs.take t) : Int) ≤ 1099511627776 := by have h := H1.out; have h' := tot_take_le rs t; omega
      have HQ := Lib.hid (show k + 6 * (tot (rs.take (t + 1)) : Int) = k + 6 * (tot (rs.take t) : Int) + 6 * (rs[t].cs.length : Int) by rw [HT.out]; omega)
      have q2 : k + 6 * (tot (rs.take t) : Int) + 6 * (rs[t].cs.length : Int) ≤ 1099511627776 := by rw [← HQ.out]; have h := H1.out; have h' := HTL.out; omega
      generalize hr : rs[t] = r at *
      have HR := Lib.hid hr
      clear hr
      generalize hkt : k + 6 * (tot (rs.take t) : Int) = kt at *
      have HKT := Lib.hid hkt
      clear hkt
      have HO := Lib.hid ho
      have HC := Lib.hid hc
      have HON := Lib.hid hon
      have hor := hc.1 r (by simp)
      have HOR := Lib.hid hor
      have HNE := Lib.hid (OwnR.ne hor ho (by decide))
      clear ho hc hon hor
      obtain ⟨rl, hrl⟩ : ∃ x, x = r.cs.length := ⟨_, rfl⟩
      rw [← hrl] at hcell hrn q2 HOR HNE HQ
      have HRL := Lib.hid hrl
      clear hrl
      generalize hra : r.A = ra at *
      generalize hrc : r.c = rc at *
      have HRA := Lib.hid hra
      have HRC := Lib.hid hrc
      clear hra hrc
      go_wp2_with fail
      refine (markCellS_any ra rl rc base r.cs kt _ HOR.out hrn q0 q1).mono ?_
      rintro e v ⟨rfl, ho1, on1⟩
      have HO1 := Lib.hid (HO.out.only on1 (fun g hg hs => HNE.out g hs hg))
      have HBLK := Lib.hid (show (Value.slice ra rl rc).ownBlock = blkS r by unfold blkS; rw [HRA.out, HRC.out, HRL.out])
      have HC1 := Lib.hid (ownCs_step (r' := ⟨ra, rc, mkCs kt rl⟩) HC.out (by unfold blkS; rw [mkCs_len, HRA.out, HRC.out, HRL.out]) (by simp only [mkCs_len]; exact ho1) (HBLK.out ▸ on1))
      have HON1 := Lib.hid (HON.out.trans (on1.mono (fun i hi => ⟨r, HM.out, HBLK.out ▸ hi⟩)))
      clear ho1 on1
      go_wp2_with fail
      refine ⟨⟨t + 1, by omega, by go_num, ?_, HO1.out, ?_, HON1.out⟩, by simp [intOf]; omega⟩
      · rw [HQ.out]
      · rw [HN.out, ← HRL.out]; exact HC1.out
    · obtain rfl : n = t := by omega
      have e1 : rs.take n = rs := List.take_of_length_le (by rw [HL.out]; exact Nat.le_refl _)
      have e2 : mkRows k rs ++ rs.drop n = mkRows k rs := by rw [List.drop_of_length_le (by rw [HL.out]; exact Nat.le_refl _), List.append_nil]
      rw [e1, e2] at hc
      have HO := Lib.hid ho
      have HC := Lib.hid hc
      have HON := Lib.hid hon
      have HE := Lib.hid e1
      clear ho hc hon e1 e2
      go_wp2_with fail
      go_ret
      exact ⟨ret_int (by rw [HE.out]), HO.out, HC.out, HON.out⟩
set_option maxRecDepth 100000 in
set_option maxHeartbeats 3200000 in
theorem heldRowS_any (A : Option Addr) (n c : Nat) (rs : List SlC) (k : Int) (w : World) (hr : RdR w w.heap.size A (mkRows k rs)) (hc : RdCs w w.heap.size (mkRows k rs)) (hl : rs.length = n) (hn : n ≤ 2097152) (h0 : 0 ≤ k) (h1 : k + 6 * (tot rs : Int) ≤ 1099511627776) (hcn : ∀ r ∈ rs, r.cs.length ≤ 2097152) :
    Calls Try.prog 71 #[.slice A n c, .int .i64 k] w fun e w' => e = .returned (.int .i64 (k + 6 * (tot rs : Int))) ∧ w = w' := by
  have HL := Lib.hid hl
  have HCN := Lib.hid hcn
  have H1 := Lib.hid h1
  have HR := Lib.hid hr
  have HC := Lib.hid hc
  clear hcn h1 hl hr hc
  go_enter Try.func71, Try.ntmps71
  go_wp2_with fail
  go_loop [1, 5] (fun m i => ∃ t : Nat, t ≤ n ∧ i = .int .i64 t ∧ m = .int .i64 (k + 6 * (tot (rs.take t) : Int))) (fun _ i => n - (intOf i).toNat)
  case atStart => exact ⟨0, Nat.zero_le _, rfl, by simp [tot]⟩
  case round =>
    obtain ⟨t, ht, rfl, rfl⟩ := hrel
    by_cases hlt : t < n
    · have hlt' : t < rs.length := by rw [HL.out]; exact hlt
      have hlm : t < (mkRows k rs).length := by rw [mkRows_len]; exact hlt'
      obtain ⟨b, off, rfl, hB, hcell⟩ := HR.out.at_ hlm
      have hat := mkRows_at k rs t hlt'
      rw [List.getElem?_eq_getElem hlm, Option.some.injEq] at hat
      have hrd := HC.out _ (List.getElem_mem hlm)
      rw [hat] at hcell hrd
      simp only [mkCs_len] at hcell hrd
      have HT := Lib.hid (tot_take rs t hlt')
      have hrn := HCN.out _ (List.getElem_mem hlt')
      have q0 : 0 ≤ k + 6 * (tot (rs.take t) : Int) := by omega
      have q1 : k + 6 * (tot (rs.take t) : Int) ≤ 1099511627776 := by have h := H1.out; have h' := tot_take_le rs t; omega
      have HQ := Lib.hid (show k + 6 * (tot (rs.take (t + 1)) : Int) = k + 6 * (tot (rs.take t) : Int) + 6 * (rs[t].cs.length : Int) by rw [HT.out]; omega)
      have q3 : 0 ≤ k + 6 * (tot (rs.take t) : Int) + 6 * (rs[t].cs.length : Int) := by omega
      clear hat
      have HRD := Lib.hid hrd
      clear hrd
      generalize k + 6 * (tot (rs.take t) : Int) = kt at *
      generalize rs[t].cs.length = rl at *
      generalize rs[t].A = ra at *
      generalize rs[t].c = rc at *
      go_wp2_with fail
      refine (heldCellS_any ra rl rc kt _ HRD.out hrn q0 q1).mono ?_
      rintro e v ⟨rfl, rfl⟩
      go_wp2_with fail
      exact ⟨⟨t + 1, by omega, by go_num, by rw [HQ.out]⟩, by simp [intOf]; omega⟩
    · obtain rfl : n = t := by omega
      have HE := Lib.hid (show rs.take n = rs from List.take_of_length_le (by rw [HL.out]; exact Nat.le_refl _))
      go_wp2_with fail
      go_ret
      exact ⟨ret_int (by rw [HE.out]), rfl⟩
/-- a screen whose slices bear the marks from k on -/
def mkS (k : Int) (s : ScrS) : ScrS := { s with M := ⟨s.M.A, s.M.c, mkCs k s.M.cs.length⟩, A := ⟨s.A.A, s.A.c, mkCs (k + 6 * (s.M.cs.length : Int)) s.A.cs.length⟩, tabs := marksN s.tabs.length (k + 6 * (s.M.cs.length : Int) + 6 * (s.A.cs.length : Int)), rows := mkRows (k + 6 * (s.M.cs.length : Int) + 6 * (s.A.cs.length : Int) + s.tabs.length) s.rows }
def endS (k : Int) (s : ScrS) : Int := k + 6 * (s.M.cs.length : Int) + 6 * (s.A.cs.length : Int) + s.tabs.length + 6 * (tot s.rows : Int)
theorem endS_ge {k : Int} {s : ScrS} (h : 0 ≤ k) : 0 ≤ endS k s := by unfold endS; omega

set_option maxRecDepth 100000 in
set_option maxHeartbeats 16000000 in
theorem markScr_any (s : ScrS) (base : Nat) (k : Int) (w : World) (ho : OwnS w base s) (hn : szS s ≤ 1048576) (h0 : 0 ≤ k) (h1 : k ≤ 1099511627) : Calls Try.prog 27 #[.agg (scrA s), .int .i64 k] w fun e w' => e = .returned (.int .i64 (endS k s)) ∧ OwnS w' base (mkS k s) ∧ Only (SS s) w w' := by
  have hcn : ∀ r ∈ s.rows, r.cs.length ≤ 2097152 := fun r hr => by have := tot_mem hr; unfold szS at hn; omega
  have hbk := ho.blk
  have hb0 := Lib.hid ((Below.refl w.heap.size w).alloc (Nat.le_refl _) (.cells (scrA s) 53))
  have ho' := ho.below (Nat.le_refl _) hb0.out
  obtain ⟨oc, oT, oR⟩ := ho'
  obtain ⟨w_, h_, mw_, mh_, ⟨MA_, Mc_, Ms_⟩, aw_, ah_, ⟨AA_, Ac_, As_⟩, onAlt_, x_, y_, wrap_, fg_, bg_, b_, u_, t_, top_, bot_, noWrap_, hide_, sx_, sy_, sfg_, sbg_, sb_, su_, st_, tabsA_, tabsc_, tabs_, lim_, rowsA_, rowsc_, rows_⟩ := s
  simp only [] at oc oT oR hcn
  unfold szS at hn
  simp only [] at hn
  have n1 : Ms_.length ≤ 1048576 := by omega
  have n2 : As_.length ≤ 1048576 := by omega
  have n3 : tabs_.length ≤ 1048576 := by omega
  have n4 : rows_.length ≤ 1048576 := by omega
  have n5 : tot rows_ ≤ 1048576 := by omega
  have HCN := Lib.hid hcn
  obtain ⟨S, hS⟩ : ∃ S, S = SS ⟨w_, h_, mw_, mh_, ⟨MA_, Mc_, Ms_⟩, aw_, ah_, ⟨AA_, Ac_, As_⟩, onAlt_, x_, y_, wrap_, fg_, bg_, b_, u_, t_, top_, bot_, noWrap_, hide_, sx_, sy_, sfg_, sbg_, sb_, su_, st_, tabsA_, tabsc_, tabs_, lim_, rowsA_, rowsc_, rows_⟩ := ⟨_, rfl⟩
  have HS1 := Lib.hid (show ∀ i, (Value.slice MA_ Ms_.length Mc_).ownBlock = some i → S i from fun i hi => by rw [hS]; exact .inl ⟨_, List.mem_cons_self, hi⟩)
  have HS2 := Lib.hid (show ∀ i, (Value.slice AA_ As_.length Ac_).ownBlock = some i → S i from fun i hi => by rw [hS]; exact .inl ⟨_, List.mem_cons_of_mem _ List.mem_cons_self, hi⟩)
  have HS3 := Lib.hid (show ∀ i, (Value.slice tabsA_ tabs_.length tabsc_).ownBlock = some i → S i from fun i hi => by rw [hS]; exact .inr (.inl hi))
  have HS4 := Lib.hid (show ∀ i, SR rows_ i → S i from fun i hi => by rw [hS]; obtain ⟨r, hr, hi⟩ := hi; exact .inl ⟨r, List.mem_cons_of_mem _ (List.mem_cons_of_mem _ hr), hi⟩)
  obtain ⟨m, hm⟩ : ∃ m, m = mkS k ⟨w_, h_, mw_, mh_, ⟨MA_, Mc_, Ms_⟩, aw_, ah_, ⟨AA_, Ac_, As_⟩, onAlt_, x_, y_, wrap_, fg_, bg_, b_, u_, t_, top_, bot_, noWrap_, hide_, sx_, sy_, sfg_, sbg_, sb_, su_, st_, tabsA_, tabsc_, tabs_, lim_, rowsA_, rowsc_, rows_⟩ := ⟨_, rfl⟩
  obtain ⟨z, hz⟩ : ∃ z, z = endS k ⟨w_, h_, mw_, mh_, ⟨MA_, Mc_, Ms_⟩, aw_, ah_, ⟨AA_, Ac_, As_⟩, onAlt_, x_, y_, wrap_, fg_, bg_, b_, u_, t_, top_, bot_, noWrap_, hide_, sx_, sy_, sfg_, sbg_, sb_, su_, st_, tabsA_, tabsc_, tabs_, lim_, rowsA_, rowsc_, rows_⟩ := ⟨_, rfl⟩
  rw [← hS, ← hm, ← hz]
  have HMM := Lib.hid hm
  have HZZ := Lib.hid hz
  have HBK := Lib.hid (show ∀ i, S i → i < w.heap.size from fun i hi => by rw [hS] at hi; exact (hbk i hi).2)
  clear hS hm hz ho hcn hbk
  show Calls _ _ #[.agg #[.int .i64 w_, .int .i64 h_, .int .i64 mw_, .int .i64 mh_, .slice MA_ Ms_.length Mc_, .int .i64 aw_, .int .i64 ah_, .slice AA_ As_.length Ac_, .bool onAlt_, .int .i64 x_, .int .i64 y_, .bool wrap_, .int .i64 fg_, .int .i64 bg_, .bool b_, .bool u_, .bool t_, .int .i64 top_, .int .i64 bot_, .bool noWrap_, .bool hide_, .int .i64 sx_, .int .i64 sy_, .int .i64 sfg_, .int .i64 sbg_, .bool sb_, .bool su_, .bool st_, .slice tabsA_ tabs_.length tabsc_, .int .i64 lim_, .slice rowsA_ rows_.length rowsc_], .int .i64 k] w _
  have BA0 := Lib.hid (RowB.new w #[.int .i64 w_, .int .i64 h_, .int .i64 mw_, .int .i64 mh_, .slice MA_ Ms_.length Mc_, .int .i64 aw_, .int .i64 ah_, .slice AA_ As_.length Ac_, .bool onAlt_, .int .i64 x_, .int .i64 y_, .bool wrap_, .int .i64 fg_, .int .i64 bg_, .bool b_, .bool u_, .bool t_, .int .i64 top_, .int .i64 bot_, .bool noWrap_, .bool hide_, .int .i64 sx_, .int .i64 sy_, .int .i64 sfg_, .int .i64 sbg_, .bool sb_, .bool su_, .bool st_, .slice tabsA_ tabs_.length tabsc_, .int .i64 lim_, .slice rowsA_ rows_.length rowsc_] 53)
  have HC0 := Lib.hid oc
  have HT0 := Lib.hid oT
  have HR0 := Lib.hid oR
  have HB0 := Lib.hid (show Only S w (w.alloc (.cells #[.int .i64 w_, .int .i64 h_, .int .i64 mw_, .int .i64 mh_, .slice MA_ Ms_.length Mc_, .int .i64 aw_, .int .i64 ah_, .slice AA_ As_.length Ac_, .bool onAlt_, .int .i64 x_, .int .i64 y_, .bool wrap_, .int .i64 fg_, .int .i64 bg_, .bool b_, .bool u_, .bool t_, .int .i64 top_, .int .i64 bot_, .bool noWrap_, .bool hide_, .int .i64 sx_, .int .i64 sy_, .int .i64 sfg_, .int .i64 sbg_, .bool sb_, .bool su_, .bool st_, .slice tabsA_ tabs_.length tabsc_, .int .i64 lim_, .slice rowsA_ rows_.length rowsc_] 53)) from Only.below hb0.out (Nat.le_refl _))
  clear oc oT oR hb0
  go_enter Try.func27, Try.ntmps27
  go_wp2_with fail
  refine (markGrid_any mw_ mh_ MA_ Ms_.length Mc_ base Ms_ k _ (HC0.out.1 ⟨MA_, Mc_, Ms_⟩ (by simp)) (by omega) h0 (by omega)).mono ?_
  rintro e v1 ⟨rfl, ho1, on1⟩
  have HC1 := Lib.hid (show OwnCs v1 base (⟨MA_, Mc_, mkCs k Ms_.length⟩ :: ⟨AA_, Ac_, As_⟩ :: rows_) from ownCs_step (pre := []) (r := ⟨MA_, Mc_, Ms_⟩) (r' := ⟨MA_, Mc_, mkCs k Ms_.length⟩) HC0.out (by unfold blkS; simp only [mkCs_len]) (by simp only [mkCs_len]; exact ho1) on1)
  have HT1 := Lib.hid (show OwnI v1 base tabsA_ tabs_.length tabsc_ tabs_ from Only.own HT0.out on1 (fun g hg hs => own_ne (HC0.out.1 ⟨MA_, Mc_, Ms_⟩ (by simp)) HT0.out (by decide) g hs hg))
  have HR1 := Lib.hid (show OwnR v1 base rowsA_ rows_.length rowsc_ rows_ from OwnR.only HR0.out on1 (fun g hg hs => OwnR.ne (HC0.out.1 ⟨MA_, Mc_, Ms_⟩ (by simp)) HR0.out (by decide) g hs hg))
  have ons1 := on1.mono HS1.out
  have BA1 := Lib.hid (BA0.out.only ons1 (fun h => by have := HBK.out _ h; omega))
  have z1 : w.heap.size < v1.heap.size := BA1.out.lt
  have HB1 := Lib.hid (HB0.out.trans ons1)
  clear ons1
  clear ho1 on1 HC0 HT0 HR0
  have ca5 : v1.cell? ⟨w.heap.size, 5, none⟩ = some (.int .i64 aw_) := BA1.out.cell 5
  have ca6 : v1.cell? ⟨w.heap.size, 6, none⟩ = some (.int .i64 ah_) := BA1.out.cell 6
  have ca7 : v1.cell? ⟨w.heap.size, 7, none⟩ = some (.slice AA_ As_.length Ac_) := BA1.out.cell 7
  go_wp2_with fail
  refine (markGrid_any aw_ ah_ AA_ As_.length Ac_ base As_ (k + 6 * (Ms_.length : Int)) _ (HC1.out.1 ⟨AA_, Ac_, As_⟩ (by simp)) (by omega) (by omega) (by omega)).mono ?_
  rintro e v2 ⟨rfl, ho2, on2⟩
  clear ca5 ca6 ca7
  have HC2 := Lib.hid (show OwnCs v2 base (⟨MA_, Mc_, mkCs k Ms_.length⟩ :: ⟨AA_, Ac_, mkCs (k + 6 * (Ms_.length : Int)) As_.length⟩ :: rows_) from ownCs_step (pre := [⟨MA_, Mc_, mkCs k Ms_.length⟩]) (r := ⟨AA_, Ac_, As_⟩) (r' := ⟨AA_, Ac_, mkCs (k + 6 * (Ms_.length : Int)) As_.length⟩) HC1.out (by unfold blkS; simp only [mkCs_len]) (by simp only [mkCs_len]; exact ho2) on2)
  have HT2 := Lib.hid (show OwnI v2 base tabsA_ tabs_.length tabsc_ tabs_ from Only.own HT1.out on2 (fun g hg hs => own_ne (HC1.out.1 ⟨AA_, Ac_, As_⟩ (by simp)) HT1.out (by decide) g hs hg))
  have HR2 := Lib.hid (show OwnR v2 base rowsA_ rows_.length rowsc_ rows_ from OwnR.only HR1.out on2 (fun g hg hs => OwnR.ne (HC1.out.1 ⟨AA_, Ac_, As_⟩ (by simp)) HR1.out (by decide) g hs hg))
  have ons2 := on2.mono HS2.out
  have BA2 := Lib.hid (BA1.out.only ons2 (fun h => by have := HBK.out _ h; omega))
  have z2 : w.heap.size < v2.heap.size := BA2.out.lt
  have HB2 := Lib.hid (HB1.out.trans ons2)
  clear ons2
  clear ho2 on2 HC1 HT1 HR1
  have ca28 : v2.cell? ⟨w.heap.size, 28, none⟩ = some (.slice tabsA_ tabs_.length tabsc_) := BA2.out.cell 28
  go_wp2_with fail
  refine (markIntS_own tabsA_ tabs_.length tabsc_ base tabs_ (k + 6 * (Ms_.length : Int) + 6 * (As_.length : Int)) _ HT2.out (by omega) (by omega) (by omega)).mono ?_
  rintro e v3 ⟨rfl, ho3, hg3⟩
  clear ca28
  have on3 := Only.grown (S := fun i => (Value.slice tabsA_ tabs_.length tabsc_).ownBlock = some i) hg3 (fun i hi => hi)
  have HC3 := Lib.hid (HC2.out.only on3 (fun r hr g hg hs => own_ne (HC2.out.1 r hr) HT2.out (by decide) g hg hs))
  have HT3 := Lib.hid ho3
  have HR3 := Lib.hid (show OwnR v3 base rowsA_ rows_.length rowsc_ rows_ from OwnR.only HR2.out on3 (fun g hg hs => OwnR.ne HT2.out HR2.out (by decide) g hs hg))
  have ons3 := on3.mono HS3.out
  have BA3 := Lib.hid (BA2.out.only ons3 (fun h => by have := HBK.out _ h; omega))
  have z3 : w.heap.size < v3.heap.size := BA3.out.lt
  have HB3 := Lib.hid (HB2.out.trans ons3)
  clear ons3
  clear ho3 on3 hg3 HC2 HT2 HR2
  have ca30 : v3.cell? ⟨w.heap.size, 30, none⟩ = some (.slice rowsA_ rows_.length rowsc_) := BA3.out.cell 30
  go_wp2_with fail
  refine (markRowS_any rowsA_ rows_.length rowsc_ base rows_ (k + 6 * (Ms_.length : Int) + 6 * (As_.length : Int) + tabs_.length) _ HR3.out HC3.out.tail.tail (by omega) (by omega) (by omega) HCN.out).mono ?_
  rintro e v4 ⟨rfl, ho4, hc4, on4⟩
  clear ca30
  have HA4 := Lib.hid (fun (x : SlC) (hx : OwnC v3 base x.A x.cs.length x.c x.cs) (hp : ∀ y ∈ rows_, Apart x y) => show OwnC v4 base x.A x.cs.length x.c x.cs from Only.own hx on4 (fun g hg hs => by obtain ⟨r, hr, hi⟩ := hs; exact hp r hr g hg hi))
  obtain ⟨p1, p2⟩ := List.pairwise_cons.1 HC3.out.2
  obtain ⟨p3, p4⟩ := List.pairwise_cons.1 p2
  have HM4 := Lib.hid (HA4.out _ (HC3.out.1 _ List.mem_cons_self) (fun y hy => p1 y (List.mem_cons_of_mem _ hy)))
  have HN4 := Lib.hid (HA4.out _ (HC3.out.1 _ (List.mem_cons_of_mem _ List.mem_cons_self)) p3)
  have HP1 := Lib.hid (p1 _ List.mem_cons_self)
  have HB_ := Lib.hid (show ∀ y ∈ mkRows (k + 6 * (Ms_.length : Int) + 6 * (As_.length : Int) + tabs_.length) rows_, ∃ r ∈ rows_, blkS y = blkS r from fun y hy => mkRows_blk _ _ y hy)
  have HPW := Lib.hid (show (mkRows (k + 6 * (Ms_.length : Int) + 6 * (As_.length : Int) + tabs_.length) rows_).Pairwise Apart from hc4.2)
  have HP2 := Lib.hid (show ∀ y ∈ mkRows (k + 6 * (Ms_.length : Int) + 6 * (As_.length : Int) + tabs_.length) rows_, Apart (⟨MA_, Mc_, mkCs k Ms_.length⟩ : SlC) y from fun y hy g hg hg' => by obtain ⟨r, hr, e⟩ := HB_.out y hy; exact p1 r (List.mem_cons_of_mem _ hr) g hg (e ▸ hg'))
  have HP3 := Lib.hid (show ∀ y ∈ mkRows (k + 6 * (Ms_.length : Int) + 6 * (As_.length : Int) + tabs_.length) rows_, Apart (⟨AA_, Ac_, mkCs (k + 6 * (Ms_.length : Int)) As_.length⟩ : SlC) y from fun y hy g hg hg' => by obtain ⟨r, hr, e⟩ := HB_.out y hy; exact p3 r hr g hg (e ▸ hg'))
  have HC4 := Lib.hid hc4.1
  have HT4 := Lib.hid (show OwnI v4 base _ _ _ _ from Only.own HT3.out on4 (fun g hg hs => by obtain ⟨r, hr, hi⟩ := hs; exact own_ne (HC3.out.1 r (List.mem_cons_of_mem _ (List.mem_cons_of_mem _ hr))) HT3.out (by decide) g hi hg))
  have HR4 := Lib.hid (show OwnR v4 base rowsA_ rows_.length rowsc_ (mkRows (k + 6 * (Ms_.length : Int) + 6 * (As_.length : Int) + tabs_.length) rows_) from ho4.congr (mkRows_row _ _))
  have ons4 := on4.mono HS4.out
  have BA4 := Lib.hid (BA3.out.only ons4 (fun h => by have := HBK.out _ h; omega))
  have z4 : w.heap.size < v4.heap.size := BA4.out.lt
  have HB4 := Lib.hid (HB3.out.trans ons4)
  clear ons4
  clear ho4 hc4 on4 p1 p2 p3 p4 HA4 HC3 HT3 HR3
  go_wp2_with fail
  go_ret
  refine ⟨ret_int (by rw [HZZ.out]; unfold endS; rfl), ?_, HB4.out⟩
  rw [HMM.out]
  refine ⟨⟨fun r hr => ?_, List.pairwise_cons.2 ⟨fun y hy => ?_, List.pairwise_cons.2 ⟨HP3.out, HPW.out⟩⟩⟩, ?_, ?_⟩
  · rcases List.mem_cons.1 hr with rfl | hr
    · exact HM4.out
    · rcases List.mem_cons.1 hr with rfl | hr
      · exact HN4.out
      · exact HC4.out r hr
  · rcases List.mem_cons.1 hy with rfl | hy
    · exact HP1.out
    · exact HP2.out y hy
  · show OwnI _ _ _ (marksN tabs_.length (k + 6 * (Ms_.length : Int) + 6 * (As_.length : Int))).length _ _
    rw [marksN_len]; exact HT4.out
  · show OwnR _ _ _ (mkRows (k + 6 * (Ms_.length : Int) + 6 * (As_.length : Int) + tabs_.length) rows_).length _ _
    rw [mkRows_len]; exact HR4.out
set_option maxRecDepth 100000 in
set_option maxHeartbeats 16000000 in
theorem heldScr_any (s : ScrS) (k : Int) (w : World) (hr : RdS w w.heap.size (mkS k s)) (hn : szS s ≤ 1048576) (h0 : 0 ≤ k) (h1 : k ≤ 1099511627) : Calls Try.prog 28 #[.agg (scrA s), .int .i64 k] w fun e w' => e = .returned (.int .i64 (endS k s)) ∧ Below w.heap.size w w' := by
  have hcn : ∀ r ∈ s.rows, r.cs.length ≤ 2097152 := fun r hr => by have := tot_mem hr; unfold szS at hn; omega
  obtain ⟨rM, rA, rT, rR, rC⟩ := hr
  obtain ⟨w_, h_, mw_, mh_, ⟨MA_, Mc_, Ms_⟩, aw_, ah_, ⟨AA_, Ac_, As_⟩, onAlt_, x_, y_, wrap_, fg_, bg_, b_, u_, t_, top_, bot_, noWrap_, hide_, sx_, sy_, sfg_, sbg_, sb_, su_, st_, tabsA_, tabsc_, tabs_, lim_, rowsA_, rowsc_, rows_⟩ := s
  simp only [mkS] at rM rA rT rR rC hcn
  unfold szS at hn
  simp only [] at hn
  have n1 : Ms_.length ≤ 1048576 := by omega
  have n2 : As_.length ≤ 1048576 := by omega
  have n3 : tabs_.length ≤ 1048576 := by omega
  have n4 : rows_.length ≤ 1048576 := by omega
  have n5 : tot rows_ ≤ 1048576 := by omega
  have HCN := Lib.hid hcn
  obtain ⟨z, hz⟩ : ∃ z, z = endS k ⟨w_, h_, mw_, mh_, ⟨MA_, Mc_, Ms_⟩, aw_, ah_, ⟨AA_, Ac_, As_⟩, onAlt_, x_, y_, wrap_, fg_, bg_, b_, u_, t_, top_, bot_, noWrap_, hide_, sx_, sy_, sfg_, sbg_, sb_, su_, st_, tabsA_, tabsc_, tabs_, lim_, rowsA_, rowsc_, rows_⟩ := ⟨_, rfl⟩
  rw [← hz]
  have HZZ := Lib.hid hz
  clear hz hcn
  show Calls _ _ #[.agg #[.int .i64 w_, .int .i64 h_, .int .i64 mw_, .int .i64 mh_, .slice MA_ Ms_.length Mc_, .int .i64 aw_, .int .i64 ah_, .slice AA_ As_.length Ac_, .bool onAlt_, .int .i64 x_, .int .i64 y_, .bool wrap_, .int .i64 fg_, .int .i64 bg_, .bool b_, .bool u_, .bool t_, .int .i64 top_, .int .i64 bot_, .bool noWrap_, .bool hide_, .int .i64 sx_, .int .i64 sy_, .int .i64 sfg_, .int .i64 sbg_, .bool sb_, .bool su_, .bool st_, .slice tabsA_ tabs_.length tabsc_, .int .i64 lim_, .slice rowsA_ rows_.length rowsc_], .int .i64 k] w _
  have hb0 := Lib.hid ((Below.refl w.heap.size w).alloc (Nat.le_refl _) (.cells #[.int .i64 w_, .int .i64 h_, .int .i64 mw_, .int .i64 mh_, .slice MA_ Ms_.length Mc_, .int .i64 aw_, .int .i64 ah_, .slice AA_ As_.length Ac_, .bool onAlt_, .int .i64 x_, .int .i64 y_, .bool wrap_, .int .i64 fg_, .int .i64 bg_, .bool b_, .bool u_, .bool t_, .int .i64 top_, .int .i64 bot_, .bool noWrap_, .bool hide_, .int .i64 sx_, .int .i64 sy_, .int .i64 sfg_, .int .i64 sbg_, .bool sb_, .bool su_, .bool st_, .slice tabsA_ tabs_.length tabsc_, .int .i64 lim_, .slice rowsA_ rows_.length rowsc_] 53))
  have BA0 := Lib.hid (RowB.new w #[.int .i64 w_, .int .i64 h_, .int .i64 mw_, .int .i64 mh_, .slice MA_ Ms_.length Mc_, .int .i64 aw_, .int .i64 ah_, .slice AA_ As_.length Ac_, .bool onAlt_, .int .i64 x_, .int .i64 y_, .bool wrap_, .int .i64 fg_, .int .i64 bg_, .bool b_, .bool u_, .bool t_, .int .i64 top_, .int .i64 bot_, .bool noWrap_, .bool hide_, .int .i64 sx_, .int .i64 sy_, .int .i64 sfg_, .int .i64 sbg_, .bool sb_, .bool su_, .bool st_, .slice tabsA_ tabs_.length tabsc_, .int .i64 lim_, .slice rowsA_ rows_.length rowsc_] 53)
  have HM := Lib.hid rM
  have HA := Lib.hid rA
  have HT := Lib.hid rT
  have HR := Lib.hid rR
  have HC := Lib.hid rC
  clear rM rA rT rR rC
  have q1 : 0 ≤ k + 6 * (Ms_.length : Int) := by omega
  have q2 : 0 ≤ k + 6 * (Ms_.length : Int) + 6 * (As_.length : Int) := by omega
  have q3 : 0 ≤ k + 6 * (Ms_.length : Int) + 6 * (As_.length : Int) + tabs_.length := by omega
  have q4 : 0 ≤ k + 6 * (Ms_.length : Int) + 6 * (As_.length : Int) + tabs_.length + 6 * (tot rows_ : Int) := by omega
  go_enter Try.func28, Try.ntmps28
  go_wp2_with fail
  refine (heldGrid_any mw_ mh_ MA_ Ms_.length Mc_ k _ ((HM.out.below (Nat.le_refl _) hb0.out).more hb0.out.size) (by omega) h0 (by omega)).mono ?_
  rintro e v1 ⟨rfl, hb1⟩
  have HB1 := Lib.hid (hb0.out.trans (hb1.mono (by simp)))
  have BA1 := Lib.hid (BA0.out.below hb1 BA0.out.lt)
  have z1 : w.heap.size < v1.heap.size := BA1.out.lt
  clear hb1
  have ca5 : v1.cell? ⟨w.heap.size, 5, none⟩ = some (.int .i64 aw_) := BA1.out.cell 5
  have ca6 : v1.cell? ⟨w.heap.size, 6, none⟩ = some (.int .i64 ah_) := BA1.out.cell 6
  have ca7 : v1.cell? ⟨w.heap.size, 7, none⟩ = some (.slice AA_ As_.length Ac_) := BA1.out.cell 7
  go_wp2_with fail
  refine (heldGrid_any aw_ ah_ AA_ As_.length Ac_ (k + 6 * (Ms_.length : Int)) _ ((HA.out.below (Nat.le_refl _) HB1.out).more HB1.out.size) (by omega) (by omega) (by omega)).mono ?_
  rintro e v2 ⟨rfl, hb2⟩
  clear ca5 ca6 ca7
  have HB2 := Lib.hid (HB1.out.trans (hb2.mono HB1.out.size))
  have BA2 := Lib.hid (BA1.out.below hb2 BA1.out.lt)
  have z2 : w.heap.size < v2.heap.size := BA2.out.lt
  clear hb2
  have ca28 : v2.cell? ⟨w.heap.size, 28, none⟩ = some (.slice tabsA_ tabs_.length tabsc_) := BA2.out.cell 28
  go_wp2_with fail
  refine (heldIntS_any tabsA_ tabs_.length tabsc_ (k + 6 * (Ms_.length : Int) + 6 * (As_.length : Int)) _ ((HT.out.below (Nat.le_refl _) HB2.out).more HB2.out.size) (by omega) (by omega) (by omega)).mono ?_
  rintro e v3 ⟨rfl, rfl⟩
  clear ca28
  have ca30 : v2.cell? ⟨w.heap.size, 30, none⟩ = some (.slice rowsA_ rows_.length rowsc_) := BA2.out.cell 30
  go_wp2_with fail
  refine (heldRowS_any rowsA_ rows_.length rowsc_ rows_ (k + 6 * (Ms_.length : Int) + 6 * (As_.length : Int) + tabs_.length) _ ((HR.out.below (Nat.le_refl _) HB2.out).more HB2.out.size) ((HC.out.below (Nat.le_refl _) HB2.out).more HB2.out.size) rfl (by omega) (by omega) (by omega) HCN.out).mono ?_
  rintro e v4 ⟨rfl, rfl⟩
  clear ca30
  go_wp2_with fail
  go_ret
  exact ⟨ret_int (by rw [HZZ.out]; unfold endS; rfl), HB2.out⟩
end Go.Proofs.Ythlpchojlddnbaa.Sc
namespace Go.Proofs.Ythlpchojlddnbaa.Sc
open Go.RowKit Go.Proofs.Ythlpchojlddnbaa.Bytes Go.Proofs.Ythlpchojlddnbaa.Rows_ Go.Proofs.Ythlpchojlddnbaa.RowK Go.Proofs.Ythlpchojlddnbaa.Gr Go.Proofs.Ythlpchojlddnbaa.DOk Go.Proofs.Ythlpchojlddnbaa.Opq
set_option linter.unusedVariables false
end Go.Proofs.Ythlpchojlddnbaa.Sc

