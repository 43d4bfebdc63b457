/- Numbers put one after the other, and OpBytes, of the model. -/
import Derived.Test.YteiojpglhmikoaaOqC
import Derived.Test.YteiojpglhmikoaaOqS
import Derived.Test.YteiojpglhmikoaaAppVs
import Derived.Test.YteiojpglhmikoaaText
import Derived.Deep.Cut
import Derived.Deep.CutRange
import Derived.Deep.CutBlock
namespace Go.Proofs.Yteiojpglhmikoaa.Oq
open Go.RowKit Go.Proofs.Yteiojpglhmikoaa.Bytes Go.Proofs.Yteiojpglhmikoaa.OpOk Go.Proofs.Yteiojpglhmikoaa.Opq Go.Proofs.Yteiojpglhmikoaa.Var Go.Proofs.Yteiojpglhmikoaa.Made
set_option linter.unusedVariables false
set_option linter.unusedSimpArgs false
set_option maxRecDepth 100000 in
set_option maxHeartbeats 3200000 in
theorem l12Nums_any (A : Option Addr) (n c base b m cm : Nat) (zs : List Int) (xs : List Nat) (w : World) (C : Array Value) (ho : Own w base A n c zs) (hbase : base ≤ w.heap.size) (hm : xs.length = m) (hm1 : m ≤ 1000) (hx : ∀ x ∈ xs, x ≤ 4294967295) (hn : n ≤ 4294967296)
    (hr : RowB w b C) (hC : ∀ k, k < m → C[k]? = some (.int .i64 (xs.getD k 0 : Nat))) :
    Calls Try.prog 73 #[.slice A n c, .slice (some ⟨b, 0, none⟩) m cm] w fun e w' => ∃ A' n' c', e = .returned (.slice A' n' c') ∧ Own w' base A' n' c' (zs ++ Cb.vEncs xs) ∧ Below w.heap.size w w' := by
  have HX := Lib.hid hx
  have HC := Lib.hid hC
  have HR := Lib.hid hr
  have HO := Lib.hid ho
  have HM := Lib.hid hm
  clear hx hC hr ho hm
  go_enter Try.func73, Try.ntmps73
  go_wp2_with fail
  go_loopw [0, 9] (fun v i wr => ∃ (k : Nat) (A2 : Option Addr) (n2 c2 : Nat), k ≤ m ∧ i = .int .i64 k ∧ v = .slice A2 n2 c2 ∧ Own wr base A2 n2 c2 (zs ++ Cb.vEncs (xs.take k)) ∧ Below w.heap.size w wr) (fun _ i _ => m - (intOf i).toNat)
  case atStart => exact ⟨0, A, n, c, Nat.zero_le _, rfl, rfl, by simpa [Cb.vEncs] using HO.out, Below.refl _ _⟩
  case round =>
    obtain ⟨k, A2, n2, c2, hk, rfl, rfl, ho2, hb⟩ := hrel
    have HO2 := Lib.hid ho2
    have HB := Lib.hid hb
    have hbs := hb.size
    clear ho2 hb
    by_cases hlt : k < m
    · have hcell : wr.cell? ⟨b, k, none⟩ = some (.int .i64 (xs.getD k 0 : Nat)) := by rw [(HR.out.below HB.out HR.out.lt).cell]; exact HC.out k hlt
      have hn2 : n2 ≤ 5000000000 := by
        have h1 := HO2.out.len
        have h0 := HO.out.len
        have h2 := Cb.vEncs_len (xs.take k) (fun x h => HX.out x (List.mem_of_mem_take h))
        have h3 : (xs.take k).length ≤ k := List.length_take_le _ _
        rw [List.length_append] at h1
        omega
      have hS := Lib.hid (Cb.vEncs_succ xs k (by have := HM.out; omega))
      have hle := Cb.getD_le xs k HX.out
      generalize xs.getD k 0 = x at *
      go_wp2_with fail
      refine (spec_PutVar_yes A2 n2 c2 _ x _ (own_none HO2.out) (HO2.out.rd.more (Nat.le_refl _)) HO2.out.len (by omega) hle).mono ?_
      rintro e w1 ⟨A1, n1, c1, rfl, ho1, hb1⟩
      have HO1 := Lib.hid (show Own w1 base A1 n1 c1 (zs ++ Cb.vEncs (xs.take (k + 1))) by rw [hS.out, ← List.append_assoc]; exact ho1.more (by omega))
      have HB1 := Lib.hid (HB.out.trans (hb1.mono hbs))
      clear ho1 hb1 hcell
      go_wp2_with fail
      exact ⟨⟨k + 1, A1, n1, c1, by omega, by go_num, rfl, HO1.out, HB1.out⟩, by simp [intOf]; omega⟩
    · obtain rfl : k = m := by omega
      have HT := Lib.hid (show xs.take k = xs from List.take_of_length_le (by rw [HM.out]; omega))
      go_wp2_with fail
      go_ret
      exact ⟨A2, n2, c2, rfl, by have h := HO2.out; rw [HT.out] at h; exact h, HB.out⟩
def txE (ts : List ByteArray) : List Int := ts.flatMap fun s => tE (byt s)
theorem txE_len (ts : List ByteArray) (h : ∀ s ∈ ts, s.size ≤ 4000) : (txE ts).length ≤ 4005 * ts.length := by
  induction ts with
  | nil => simp [txE]
  | cons x l ih =>
    have h1 := tE_len (l := byt x) (by rw [byt_len]; have := h x (by simp); omega)
    have h2 := ih (fun y hy => h y (by simp [hy]))
    have h3 := h x (by simp)
    rw [byt_len] at h1
    unfold txE at h2 ⊢
    rw [List.flatMap_cons, List.length_append, List.length_cons]; omega
set_option maxRecDepth 100000 in
set_option maxHeartbeats 3200000 in
theorem putText_yes (A : Option Addr) (n c base : Nat) (zs : List Int) (s : ByteArray) (w : World) (ho : Own w base A n c zs) (hbase : base ≤ w.heap.size) (hn : n ≤ 1099511627776) (hs : s.size ≤ 4000) :
    Calls Try.prog 74 #[.slice A n c, .string s] w fun e w' => ∃ A' n' c', e = .returned (.tuple #[.slice A' n' c', .bool true]) ∧ Own w' base A' n' c' (zs ++ tE (byt s)) ∧ Below w.heap.size w w' := by
  refine (spec_PutText_any A n c zs s w (own_none ho) (ho.rd.more (Nat.le_refl _)) ho.len hn (by unfold maxLen; omega)).mono ?_
  rintro e w' ⟨A', n', c', rfl, h1, h2⟩
  have e1 : ptB s = true := decide_eq_true hs
  have e2 : ptO zs s = zs ++ tE (byt s) := by unfold ptO; rw [if_pos hs]; unfold tE; rw [byt_len, List.append_assoc]
  rw [e1]
  rw [e2] at h1
  exact ⟨A', n', c', rfl, h1.more hbase, h2⟩
set_option maxRecDepth 100000 in
set_option maxHeartbeats 3200000 in
theorem spec_OpBytes_any (k a b d : Int) (nm tx dr : ByteArray) (A : Option Addr) (n c : Nat) (zs : List Int) (w : World) (h1 : nm.size ≤ maxLen) (h2 : tx.size ≤ maxLen) (h3 : dr.size ≤ maxLen) (hn : n ≤ 1099511627776)
    (hr : Rd w w.heap.size A zs) (hl : zs.length = n) (hA : A = none → n = 0 ∧ c = 0) (hg : Rng zs) :
    Calls Try.prog 39 #[opV k a b d nm tx dr A n c] w fun e w' => ∃ A' n' c', e = .returned (.tuple #[.slice A' n' c', .bool (opOK k a b d nm tx dr n)]) ∧ Own w' w.heap.size A' n' c' (obO (opOK k a b d nm tx dr n) k a b d nm tx dr zs) ∧ Below w.heap.size w w' := by
  have HB0 := Lib.hid ((Below.refl w.heap.size w).alloc (Nat.le_refl _) (.cells (opC2 k a b d nm tx dr A n c) 58))
  have RB0 := Lib.hid (RowB.new w (opC2 k a b d nm tx dr A n c) 58)
  have HOK := Lib.hid (fun W => spec_OpOk_any k a b d nm tx dr A n c W h1 h2 h3 hn)
  have HR := Lib.hid hr
  have HL := Lib.hid hl
  have HA := Lib.hid hA
  have HG := Lib.hid hg
  clear h1 h2 h3 hr hl hA hg
  cases q : opOK k a b d nm tx dr n
  · have Q := Lib.hid (show okS k a b d (madeB wb 12 nm.data.toList) nm.toList.isEmpty tx.toList.isEmpty dr.toList.isEmpty tx.size dr.size n = false from q)
    clear q
    go_enter Try.func39, Try.ntmps39
    go_wp2_with fail
    refine (HOK.out _).mono ?_
    rintro e v1 ⟨rfl, hb1⟩
    rw [Q.out]
    have HB1 := Lib.hid (HB0.out.trans (hb1.mono (by simp)))
    clear hb1
    go_wp2_with fail
    go_ret2
    exact ⟨none, 0, 0, rfl, own_nil _ _, HB1.out⟩
  · obtain ⟨⟨x1, x2⟩, ⟨x3, x4⟩, ⟨x5, x6⟩, ⟨x7, x8⟩, x9, x10, x11, x12⟩ := opOK_bd q
    have Q := Lib.hid (show okS k a b d (madeB wb 12 nm.data.toList) nm.toList.isEmpty tx.toList.isEmpty dr.toList.isEmpty tx.size dr.size n = true from q)
    clear q
    obtain ⟨k, rfl⟩ := Int.eq_ofNat_of_zero_le x1
    obtain ⟨a, rfl⟩ := Int.eq_ofNat_of_zero_le x3
    obtain ⟨b, rfl⟩ := Int.eq_ofNat_of_zero_le x5
    obtain ⟨d, rfl⟩ := Int.eq_ofNat_of_zero_le x7
    have HE := Lib.hid (show [] ++ Cb.vEncs [k, a, b, d] ++ txE [nm, tx, dr, strOfNums zs] = opE k a b d nm tx dr zs by
      unfold opE txE; simp [Cb.vEncs, List.append_assoc, byt_str HG.out])
    have HV4 := Lib.hid (show (Cb.vEncs [k, a, b, d]).length ≤ 20 from Cb.vEncs_len _ (by intro x hx; simp at hx; omega))
    have HSZ := Lib.hid (show ∀ s ∈ [nm, tx, dr, strOfNums zs], s.size ≤ 4000 by
      intro s hs
      have hq := str_size zs
      have hl := HL.out
      simp at hs
      rcases hs with rfl | rfl | rfl | rfl <;> omega)
    have hsz3 : (strOfNums zs).size ≤ 4000 := by rw [str_size, HL.out]; omega
    go_enter Try.func39, Try.ntmps39
    go_wp2_with fail
    refine (HOK.out _).mono ?_
    rintro e v1 ⟨rfl, hb1⟩
    rw [Q.out]
    have HB1 := Lib.hid (HB0.out.trans (hb1.mono (by simp)))
    have RB1 := Lib.hid (RB0.out.below hb1 (by simp))
    have lt1 : w.heap.size < v1.heap.size := RB1.out.lt
    clear hb1
    have j10 : v1.cell? ⟨w.heap.size, 0, none⟩ = some (.int .i64 (k : Int)) := RB1.out.cell 0
    have j11 : v1.cell? ⟨w.heap.size, 1, none⟩ = some (.int .i64 (a : Int)) := RB1.out.cell 1
    have j12 : v1.cell? ⟨w.heap.size, 2, none⟩ = some (.int .i64 (b : Int)) := RB1.out.cell 2
    have j13 : v1.cell? ⟨w.heap.size, 3, none⟩ = some (.int .i64 (d : Int)) := RB1.out.cell 3
    have j14 : v1.cell? ⟨w.heap.size, 4, none⟩ = some (.string nm) := RB1.out.cell 4
    have j15 : v1.cell? ⟨w.heap.size, 5, none⟩ = some (.string tx) := RB1.out.cell 5
    have j16 : v1.cell? ⟨w.heap.size, 6, none⟩ = some (.string dr) := RB1.out.cell 6
    have j17 : v1.cell? ⟨w.heap.size, 7, none⟩ = some (.slice A n c) := RB1.out.cell 7
    have GL := Lib.hid (RowB.new v1 #[.int .i64 (k : Int), .int .i64 (a : Int), .int .i64 (b : Int), .int .i64 (d : Int)] 3)
    have HBW := Lib.hid ((Below.refl v1.heap.size v1).alloc (Nat.le_refl _) (.cells #[.int .i64 (k : Int), .int .i64 (a : Int), .int .i64 (b : Int), .int .i64 (d : Int)] 3))
    go_wp2_with fail
    refine (l12Nums_any none 0 0 v1.heap.size v1.heap.size 4 4 [] [k, a, b, d] _ _ (own_nil _ _) (by simp) rfl (by omega) (by intro x hx; simp at hx; omega) (by omega) GL.out (Cb.row4 k a b d)).mono ?_
    rintro e v2 ⟨A2, n2, c2, rfl, ho2, hb2⟩
    have HO2 := Lib.hid ho2
    have hx2 : Below v1.heap.size v1 v2 := HBW.out.trans (hb2.mono (by simp))
    have hz2 := hx2.size
    have HB2 := Lib.hid (HB1.out.trans (hx2.mono HB1.out.size))
    have RB2 := Lib.hid (RB1.out.below hx2 lt1)
    have hn2 : n2 ≤ 20 := by have h := HO2.out.len; rw [List.nil_append] at h; have := HV4.out; omega
    clear ho2 hb2 hx2 GL
    clear j10 j11 j12 j13 j14 j15 j16 j17
    have j20 : v2.cell? ⟨w.heap.size, 0, none⟩ = some (.int .i64 (k : Int)) := RB2.out.cell 0
    have j21 : v2.cell? ⟨w.heap.size, 1, none⟩ = some (.int .i64 (a : Int)) := RB2.out.cell 1
    have j22 : v2.cell? ⟨w.heap.size, 2, none⟩ = some (.int .i64 (b : Int)) := RB2.out.cell 2
    have j23 : v2.cell? ⟨w.heap.size, 3, none⟩ = some (.int .i64 (d : Int)) := RB2.out.cell 3
    have j24 : v2.cell? ⟨w.heap.size, 4, none⟩ = some (.string nm) := RB2.out.cell 4
    have j25 : v2.cell? ⟨w.heap.size, 5, none⟩ = some (.string tx) := RB2.out.cell 5
    have j26 : v2.cell? ⟨w.heap.size, 6, none⟩ = some (.string dr) := RB2.out.cell 6
    have j27 : v2.cell? ⟨w.heap.size, 7, none⟩ = some (.slice A n c) := RB2.out.cell 7
    have hcv := conv_str v2 A n c zs w.heap.size (HR.out.below (Nat.le_refl _) HB2.out) HL.out HA.out
    obtain ⟨V, hV⟩ : ∃ V, V = v2.alloc (.cells #[.string nm, .string tx, .string dr, .string (strOfNums zs)] 9) := ⟨_, rfl⟩
    have RS := Lib.hid (show RowB V v2.heap.size #[.string nm, .string tx, .string dr, .string (strOfNums zs)] from hV ▸ RowB.new v2 _ _)
    have HB3 := Lib.hid (show Below w.heap.size w V from hV ▸ HB2.out.alloc (by omega) (.cells #[.string nm, .string tx, .string dr, .string (strOfNums zs)] 9))
    have HO3 := Lib.hid (show Own V v1.heap.size A2 n2 c2 ([] ++ Cb.vEncs [k, a, b, d]) from hV ▸ HO2.out.below (Nat.le_refl _) ((Below.refl _ _).alloc (Nat.le_refl _) _))
    have hzV : v2.heap.size < V.heap.size := RS.out.lt
    go_upto_block 0 with fail
    rw [← hV]
    clear hV hcv j20 j21 j22 j23 j24 j25 j26 j27
    go_wp2_with fail
    go_loopw [4, 31] (fun v i wr => ∃ (q : Nat) (A3 : Option Addr) (n3 c3 : Nat), q ≤ 4 ∧ i = .int .i64 q ∧ v = .slice A3 n3 c3 ∧ Own wr v1.heap.size A3 n3 c3 ([] ++ Cb.vEncs [k, a, b, d] ++ txE ([nm, tx, dr, strOfNums zs].take q)) ∧ Below V.heap.size V wr) (fun _ i _ => 4 - (intOf i).toNat)
    case atStart => exact ⟨0, A2, n2, c2, by omega, rfl, rfl, by simpa [txE] using HO3.out, Below.refl _ _⟩
    case round =>
      obtain ⟨q, A3, n3, c3, hq, rfl, rfl, ho, hb⟩ := hrel
      have HO := Lib.hid ho
      have HB := Lib.hid hb
      have hbs := hb.size
      have hn3 : n3 ≤ 20000 := by
        have h1 := HO.out.len
        have h2 := txE_len ([nm, tx, dr, strOfNums zs].take q) (fun s hs => HSZ.out s (List.mem_of_mem_take hs))
        have h3 : ([nm, tx, dr, strOfNums zs].take q).length ≤ q := List.length_take_le _ _
        have h4 := HV4.out
        rw [List.length_append, List.nil_append] at h1
        omega
      clear ho hb
      rcases (show q = 0 ∨ q = 1 ∨ q = 2 ∨ q = 3 ∨ q = 4 by omega) with rfl | rfl | rfl | rfl | rfl
      · have hcell : wr.cell? ⟨v2.heap.size, 0, none⟩ = some (.string nm) := by rw [(RS.out.below HB.out RS.out.lt).cell]; rfl
        go_wp2_with fail
        refine (putText_yes A3 n3 c3 v1.heap.size _ nm _ HO.out (by omega) (by omega) (by omega)).mono ?_
        rintro e w1 ⟨A4, n4, c4, rfl, ho4, hb4⟩
        have HO4 := Lib.hid (show Own w1 v1.heap.size A4 n4 c4 ([] ++ Cb.vEncs [k, a, b, d] ++ txE ([nm, tx, dr, strOfNums zs].take (0 + 1))) from by
          have e : txE ([nm, tx, dr, strOfNums zs].take (0 + 1)) = txE ([nm, tx, dr, strOfNums zs].take 0) ++ tE (byt nm) := by simp [txE, List.append_assoc]
          rw [e, ← List.append_assoc]; exact ho4)
        have HB4 := Lib.hid (HB.out.trans (hb4.mono hbs))
        clear ho4 hb4 hcell
        go_wp2_with fail
        exact ⟨⟨0 + 1, A4, n4, c4, by omega, by go_num, rfl, HO4.out, HB4.out⟩, by simp [intOf]⟩
      · have hcell : wr.cell? ⟨v2.heap.size, 1, none⟩ = some (.string tx) := by rw [(RS.out.below HB.out RS.out.lt).cell]; rfl
        go_wp2_with fail
        refine (putText_yes A3 n3 c3 v1.heap.size _ tx _ HO.out (by omega) (by omega) (by omega)).mono ?_
        rintro e w1 ⟨A4, n4, c4, rfl, ho4, hb4⟩
        have HO4 := Lib.hid (show Own w1 v1.heap.size A4 n4 c4 ([] ++ Cb.vEncs [k, a, b, d] ++ txE ([nm, tx, dr, strOfNums zs].take (1 + 1))) from by
          have e : txE ([nm, tx, dr, strOfNums zs].take (1 + 1)) = txE ([nm, tx, dr, strOfNums zs].take 1) ++ tE (byt tx) := by simp [txE, List.append_assoc]
          rw [e, ← List.append_assoc]; exact ho4)
        have HB4 := Lib.hid (HB.out.trans (hb4.mono hbs))
        clear ho4 hb4 hcell
        go_wp2_with fail
        exact ⟨⟨1 + 1, A4, n4, c4, by omega, by go_num, rfl, HO4.out, HB4.out⟩, by simp [intOf]⟩
      · have hcell : wr.cell? ⟨v2.heap.size, 2, none⟩ = some (.string dr) := by rw [(RS.out.below HB.out RS.out.lt).cell]; rfl
        go_wp2_with fail
        refine (putText_yes A3 n3 c3 v1.heap.size _ dr _ HO.out (by omega) (by omega) (by omega)).mono ?_
        rintro e w1 ⟨A4, n4, c4, rfl, ho4, hb4⟩
        have HO4 := Lib.hid (show Own w1 v1.heap.size A4 n4 c4 ([] ++ Cb.vEncs [k, a, b, d] ++ txE ([nm, tx, dr, strOfNums zs].take (2 + 1))) from by
          have e : txE ([nm, tx, dr, strOfNums zs].take (2 + 1)) = txE ([nm, tx, dr, strOfNums zs].take 2) ++ tE (byt dr) := by simp [txE, List.append_assoc]
          rw [e, ← List.append_assoc]; exact ho4)
        have HB4 := Lib.hid (HB.out.trans (hb4.mono hbs))
        clear ho4 hb4 hcell
        go_wp2_with fail
        exact ⟨⟨2 + 1, A4, n4, c4, by omega, by go_num, rfl, HO4.out, HB4.out⟩, by simp [intOf]⟩
      · have hcell : wr.cell? ⟨v2.heap.size, 3, none⟩ = some (.string (strOfNums zs)) := by rw [(RS.out.below HB.out RS.out.lt).cell]; rfl
        go_wp2_with fail
        refine (putText_yes A3 n3 c3 v1.heap.size _ (strOfNums zs) _ HO.out (by omega) (by omega) hsz3).mono ?_
        rintro e w1 ⟨A4, n4, c4, rfl, ho4, hb4⟩
        have HO4 := Lib.hid (show Own w1 v1.heap.size A4 n4 c4 ([] ++ Cb.vEncs [k, a, b, d] ++ txE ([nm, tx, dr, strOfNums zs].take (3 + 1))) from by
          have e : txE ([nm, tx, dr, strOfNums zs].take (3 + 1)) = txE ([nm, tx, dr, strOfNums zs].take 3) ++ tE (byt (strOfNums zs)) := by simp [txE, List.append_assoc]
          rw [e, ← List.append_assoc]; exact ho4)
        have HB4 := Lib.hid (HB.out.trans (hb4.mono hbs))
        clear ho4 hb4 hcell
        go_wp2_with fail
        exact ⟨⟨3 + 1, A4, n4, c4, by omega, by go_num, rfl, HO4.out, HB4.out⟩, by simp [intOf]⟩
      · have HF := Lib.hid (show Own wr w.heap.size A3 n3 c3 (opE k a b d nm tx dr zs) from by
          have h := HO.out
          rw [show [nm, tx, dr, strOfNums zs].take 4 = [nm, tx, dr, strOfNums zs] from rfl, HE.out] at h
          exact h.more (by omega))
        have HBF := Lib.hid (HB3.out.trans (HB.out.mono (by omega)))
        go_wp2_with fail
        go_ret2
        exact ⟨A3, n3, c3, rfl, HF.out, HBF.out⟩
end Go.Proofs.Yteiojpglhmikoaa.Oq

