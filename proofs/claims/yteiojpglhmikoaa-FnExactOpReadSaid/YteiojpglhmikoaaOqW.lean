/- The writer, and OpBytes of the program. -/
import Derived.Test.YteiojpglhmikoaaOqC
import Derived.Test.YteiojpglhmikoaaOqL
import Derived.Test.YteiojpglhmikoaaAppVs
import Derived.Test.YteiojpglhmikoaaAppT
namespace Go.Proofs.Yteiojpglhmikoaa.Oq
open Go.RowKit Go.Proofs.Yteiojpglhmikoaa.Bytes Go.Proofs.Yteiojpglhmikoaa.OpOk Go.Proofs.Yteiojpglhmikoaa.Opq Go.Proofs.Yteiojpglhmikoaa.Var Go.Proofs.Yteiojpglhmikoaa.Made
set_option linter.unusedVariables false
set_option linter.unusedSimpArgs false
set_option maxRecDepth 100000 in
set_option maxHeartbeats 3200000 in
theorem numbers_any (A : Option Addr) (n c base g b m cm : Nat) (fl : Bool) (zs : List Int) (xs : List Nat) (w : World) (C : Array Value)
    (hw : RowB w g #[.slice A n c, .bool fl]) (ho : Own w base A n c zs) (hgb : g < base) (hbase : base ≤ w.heap.size) (hm : xs.length = m) (hm0 : 0 < m) (hm1 : m ≤ 1000) (hx : ∀ x ∈ xs, x ≤ 4294967295) (hn : n ≤ 4294967296)
    (hr : RowB w b C) (hC : ∀ k, k < m → C[k]? = some (.int .i64 (xs.getD k 0 : Nat))) (hne : (Value.slice A n c).ownBlock ≠ some b) :
    Calls Try.prog 75 #[.pointer (some ⟨g, 0, none⟩), .slice (some ⟨b, 0, none⟩) m cm] w fun e w' => ∃ A' n' c', e = .returned (.tuple #[]) ∧ RowB w' g #[.slice A' n' c', .bool fl] ∧ Own w' base A' n' c' (zs ++ Cb.vEncs xs) ∧ Below g w w' := by
  have HX := Lib.hid hx
  have HC := Lib.hid hC
  have k0 : w.cell? ⟨g, 0, none⟩ = some (.slice A n c) := hw.cell 0
  have hng : (Value.slice A n c).ownBlock ≠ some g := fun e => by have := (ho.blk _ e).1; omega
  have HNG := Lib.hid hng
  have HNE := Lib.hid hne
  have HW := Lib.hid hw
  have HR := Lib.hid hr
  have HO := Lib.hid ho
  have HM := Lib.hid hm
  clear hx hC hng hne hw hr ho hm
  go_enter Try.func75, Try.ntmps75
  go_wp2_with fail
  refine (Cb.appendVars_row A n c base b m cm zs xs _ C HO.out hbase HM.out hm0 hm1 HX.out hn HR.out HC.out HNE.out).mono ?_
  rintro e v ⟨A1, n1, c1, rfl, ho1, hg1⟩
  have HR1 := Lib.hid (hg1.row HW.out HNG.out).1
  have HO1 := Lib.hid ho1
  have HB1 := Lib.hid (hg1.below (B := g) (by omega) (fun x hx => by have := (HO.out.blk x hx).1; omega))
  have y0 : v.cell? ⟨g, 0, none⟩ = some (.slice A n c) := HR1.out.cell 0
  have z0 : v.frozen? ⟨g, 0, none⟩ = false := HR1.out.free 0
  clear ho1 hg1 k0
  go_wp2_with fail
  go_end0
  exact ⟨A1, n1, c1, rfl, HR1.out.set, own_set HO1.out g 0 _ hgb, HB1.out.setCell (Nat.le_refl _) _⟩
set_option maxRecDepth 100000 in
set_option maxHeartbeats 3200000 in
theorem textW_any (A : Option Addr) (n c base g : Nat) (fl : Bool) (zs : List Int) (s : ByteArray) (w : World)
    (hw : RowB w g #[.slice A n c, .bool fl]) (ho : Own w base A n c zs) (hgb : g < base) (hbase : base ≤ w.heap.size) (hn : n ≤ 1099511627776) (hs : s.size ≤ 4000) :
    Calls Try.prog 76 #[.pointer (some ⟨g, 0, none⟩), .string s] w fun e w' => ∃ A' n' c', e = .returned (.tuple #[]) ∧ RowB w' g #[.slice A' n' c', .bool fl] ∧ Own w' base A' n' c' (zs ++ tE (byt s)) ∧ Below g w w' := by
  have k0 : w.cell? ⟨g, 0, none⟩ = some (.slice A n c) := hw.cell 0
  have HW := Lib.hid hw
  have HO := Lib.hid ho
  clear hw ho
  go_enter Try.func76, Try.ntmps76
  go_wp2_with fail
  refine (appendText_any A n c base zs s _ HO.out hbase hn hs).mono ?_
  rintro e v ⟨A1, n1, c1, rfl, ho1, hb1⟩
  have HR1 := Lib.hid (HW.out.below hb1 hgb)
  have HO1 := Lib.hid (show Own v base A1 n1 c1 (zs ++ tE (byt s)) by unfold tE; rw [byt_len, ← List.append_assoc]; exact ho1)
  have HB1 := Lib.hid (Below.mono hb1 (Nat.le_of_lt hgb))
  have y0 : v.cell? ⟨g, 0, none⟩ = some (.slice A n c) := HR1.out.cell 0
  have z0 : v.frozen? ⟨g, 0, none⟩ = false := HR1.out.free 0
  clear ho1 hb1 k0
  go_wp2_with fail
  go_end0
  exact ⟨A1, n1, c1, rfl, HR1.out.set, own_set HO1.out g 0 _ hgb, HB1.out.setCell (Nat.le_refl _) _⟩
set_option maxRecDepth 100000 in
set_option maxHeartbeats 3200000 in
theorem impl_OpBytes_any (k a b d : Int) (nm tx dr : ByteArray) (A : Option Addr) (n c : Nat) (zs : List Int) (w : World) (h1 : nm.size ≤ maxLen) (h2 : tx.size ≤ maxLen) (h3 : dr.size ≤ maxLen) (hn : n ≤ 1099511627776)
    (hr : Rd w w.heap.size A zs) (hl : zs.length = n) (hA : A = none → n = 0 ∧ c = 0) (hg : Rng zs) :
    Calls Try.prog 40 #[opV k a b d nm tx dr A n c] w fun e w' => ∃ A' n' c', e = .returned (.tuple #[.slice A' n' c', .bool (opOK k a b d nm tx dr n)]) ∧ Own w' w.heap.size A' n' c' (obO (opOK k a b d nm tx dr n) k a b d nm tx dr zs) ∧ Below w.heap.size w w' := by
  have HB0 := Lib.hid ((Below.refl w.heap.size w).alloc (Nat.le_refl _) (.cells (opC k a b d nm tx dr A n c) 58))
  have RB0 := Lib.hid (RowB.new w (opC k a b d nm tx dr A n c) 58)
  have HOK := Lib.hid (fun W => impl_OpOk_any k a b d nm tx dr A n c W h1 h2 h3 hn)
  have HSM := Lib.hid (ok_same k a b d (madeB wb 12 nm.data.toList) nm.toList.isEmpty tx.toList.isEmpty dr.toList.isEmpty tx.size dr.size n (emptySize tx) (emptySize dr))
  have HR := Lib.hid hr
  have HL := Lib.hid hl
  have HA := Lib.hid hA
  have HG := Lib.hid hg
  clear h1 h2 h3 hr hl hA hg
  cases q : opOK k a b d nm tx dr n
  · have Q := Lib.hid (show okS k a b d (madeB wb 12 nm.data.toList) nm.toList.isEmpty tx.toList.isEmpty dr.toList.isEmpty tx.size dr.size n = false from q)
    clear q
    go_enter Try.func40, Try.ntmps40
    go_wp2_with fail
    refine (HOK.out _).mono ?_
    rintro e v1 ⟨rfl, hb1⟩
    rw [HSM.out, Q.out]
    have HB1 := Lib.hid (HB0.out.trans (hb1.mono (by simp)))
    clear hb1
    go_wp2_with fail
    go_ret2
    exact ⟨none, 0, 0, rfl, own_nil _ _, HB1.out⟩
  · obtain ⟨⟨x1, x2⟩, ⟨x3, x4⟩, ⟨x5, x6⟩, ⟨x7, x8⟩, x9, x10, x11, x12⟩ := opOK_bd q
    have Q := Lib.hid (show okS k a b d (madeB wb 12 nm.data.toList) nm.toList.isEmpty tx.toList.isEmpty dr.toList.isEmpty tx.size dr.size n = true from q)
    clear q
    obtain ⟨k, rfl⟩ := Int.eq_ofNat_of_zero_le x1
    obtain ⟨a, rfl⟩ := Int.eq_ofNat_of_zero_le x3
    obtain ⟨b, rfl⟩ := Int.eq_ofNat_of_zero_le x5
    obtain ⟨d, rfl⟩ := Int.eq_ofNat_of_zero_le x7
    have HE := Lib.hid (show [] ++ Cb.vEncs [k, a, b, d] ++ tE (byt nm) ++ tE (byt tx) ++ tE (byt dr) ++ tE (byt (strOfNums zs)) = opE k a b d nm tx dr zs by
      rw [byt_str HG.out]; unfold opE; simp [Cb.vEncs, List.append_assoc])
    have HV4 := Lib.hid (show (Cb.vEncs [k, a, b, d]).length ≤ 20 from Cb.vEncs_len _ (by intro x hx; simp at hx; omega))
    go_enter Try.func40, Try.ntmps40
    go_wp2_with fail
    refine (HOK.out _).mono ?_
    rintro e v1 ⟨rfl, hb1⟩
    rw [HSM.out, Q.out]
    have HB1 := Lib.hid (HB0.out.trans (hb1.mono (by simp)))
    have RB1 := Lib.hid (RB0.out.below hb1 (by simp))
    have lt1 : w.heap.size < v1.heap.size := RB1.out.lt
    clear hb1
    have j10 : v1.cell? ⟨w.heap.size, 0, none⟩ = some (.int .i64 (k : Int)) := RB1.out.cell 0
    have j11 : v1.cell? ⟨w.heap.size, 1, none⟩ = some (.int .i64 (a : Int)) := RB1.out.cell 1
    have j12 : v1.cell? ⟨w.heap.size, 2, none⟩ = some (.int .i64 (b : Int)) := RB1.out.cell 2
    have j13 : v1.cell? ⟨w.heap.size, 3, none⟩ = some (.int .i64 (d : Int)) := RB1.out.cell 3
    have j14 : v1.cell? ⟨w.heap.size, 4, none⟩ = some (.string nm) := RB1.out.cell 4
    have j15 : v1.cell? ⟨w.heap.size, 5, none⟩ = some (.string tx) := RB1.out.cell 5
    have j16 : v1.cell? ⟨w.heap.size, 6, none⟩ = some (.string dr) := RB1.out.cell 6
    have j17 : v1.cell? ⟨w.heap.size, 7, none⟩ = some (.slice A n c) := RB1.out.cell 7
    have GW := Lib.hid (show RowB ((v1.alloc (.cells #[.slice none 0 0, .bool false] 111)).alloc (.cells #[.int .i64 (k : Int), .int .i64 (a : Int), .int .i64 (b : Int), .int .i64 (d : Int)] 3)) v1.heap.size #[.slice none 0 0, .bool false] from (RowB.new v1 _ _).alloc _)
    have GL := Lib.hid (show RowB ((v1.alloc (.cells #[.slice none 0 0, .bool false] 111)).alloc (.cells #[.int .i64 (k : Int), .int .i64 (a : Int), .int .i64 (b : Int), .int .i64 (d : Int)] 3)) (v1.heap.size + 1) #[.int .i64 (k : Int), .int .i64 (a : Int), .int .i64 (b : Int), .int .i64 (d : Int)] from by
      have h := RowB.new (v1.alloc (.cells #[.slice none 0 0, .bool false] 111)) #[.int .i64 (k : Int), .int .i64 (a : Int), .int .i64 (b : Int), .int .i64 (d : Int)] 3
      rw [World.size_alloc] at h; exact h)
    have HBW := Lib.hid (((Below.refl v1.heap.size v1).alloc (Nat.le_refl _) (.cells #[.slice none 0 0, .bool false] 111)).alloc (by simp) (.cells #[.int .i64 (k : Int), .int .i64 (a : Int), .int .i64 (b : Int), .int .i64 (d : Int)] 3))
    go_wp2_with fail
    refine (numbers_any none 0 0 (v1.heap.size + 1) v1.heap.size (v1.heap.size + 1) 4 4 false [] [k, a, b, d] _ _ GW.out (own_nil _ _) (Nat.lt_succ_self _) (by simp) rfl (by omega) (by omega) (by intro x hx; simp at hx; omega) (by omega) GL.out (Cb.row4 k a b d) (by simp [Value.ownBlock])).mono ?_
    rintro e v2 ⟨A2, n2, c2, rfl, hr2, ho2, hb2⟩
    have GW2 := Lib.hid hr2
    have HO2 := Lib.hid ho2
    have hz2 := hb2.size
    rw [World.size_alloc, World.size_alloc] at hz2
    have hx2 : Below v1.heap.size v1 v2 := HBW.out.trans hb2
    have HB2 := Lib.hid (HB1.out.trans (hx2.mono HB1.out.size))
    have RB2 := Lib.hid (RB1.out.below hx2 lt1)
    have hn2 : n2 ≤ 20 := by have h := HO2.out.len; rw [List.nil_append] at h; have := HV4.out; omega
    clear hr2 ho2 hb2 hx2 GL
    clear j10 j11 j12 j13 j14 j15 j16 j17
    have j20 : v2.cell? ⟨w.heap.size, 0, none⟩ = some (.int .i64 (k : Int)) := RB2.out.cell 0
    have j21 : v2.cell? ⟨w.heap.size, 1, none⟩ = some (.int .i64 (a : Int)) := RB2.out.cell 1
    have j22 : v2.cell? ⟨w.heap.size, 2, none⟩ = some (.int .i64 (b : Int)) := RB2.out.cell 2
    have j23 : v2.cell? ⟨w.heap.size, 3, none⟩ = some (.int .i64 (d : Int)) := RB2.out.cell 3
    have j24 : v2.cell? ⟨w.heap.size, 4, none⟩ = some (.string nm) := RB2.out.cell 4
    have j25 : v2.cell? ⟨w.heap.size, 5, none⟩ = some (.string tx) := RB2.out.cell 5
    have j26 : v2.cell? ⟨w.heap.size, 6, none⟩ = some (.string dr) := RB2.out.cell 6
    have j27 : v2.cell? ⟨w.heap.size, 7, none⟩ = some (.slice A n c) := RB2.out.cell 7
    go_wp2_with fail
    refine (textW_any A2 n2 c2 (v1.heap.size + 1) v1.heap.size false _ nm _ GW2.out HO2.out (Nat.lt_succ_self _) (by omega) (by omega) (by omega)).mono ?_
    rintro e v3 ⟨A3, n3, c3, rfl, hr3, ho3, hb3⟩
    have GW3 := Lib.hid hr3
    have HO3 := Lib.hid ho3
    have hz3 := hb3.size
    have HB3 := Lib.hid (HB2.out.trans (hb3.mono HB1.out.size))
    have RB3 := Lib.hid (RB2.out.below hb3 lt1)
    have hn3 : n3 ≤ n2 + 4005 := by
      have h := HO3.out.len
      have h' := HO2.out.len
      rw [List.length_append, h'] at h
      have := tE_len (l := byt nm) (by rw [byt_len]; omega)
      rw [byt_len] at this
      omega
    clear hr3 ho3 hb3
    clear j20 j21 j22 j23 j24 j25 j26 j27
    have j30 : v3.cell? ⟨w.heap.size, 0, none⟩ = some (.int .i64 (k : Int)) := RB3.out.cell 0
    have j31 : v3.cell? ⟨w.heap.size, 1, none⟩ = some (.int .i64 (a : Int)) := RB3.out.cell 1
    have j32 : v3.cell? ⟨w.heap.size, 2, none⟩ = some (.int .i64 (b : Int)) := RB3.out.cell 2
    have j33 : v3.cell? ⟨w.heap.size, 3, none⟩ = some (.int .i64 (d : Int)) := RB3.out.cell 3
    have j34 : v3.cell? ⟨w.heap.size, 4, none⟩ = some (.string nm) := RB3.out.cell 4
    have j35 : v3.cell? ⟨w.heap.size, 5, none⟩ = some (.string tx) := RB3.out.cell 5
    have j36 : v3.cell? ⟨w.heap.size, 6, none⟩ = some (.string dr) := RB3.out.cell 6
    have j37 : v3.cell? ⟨w.heap.size, 7, none⟩ = some (.slice A n c) := RB3.out.cell 7
    go_wp2_with fail
    refine (textW_any A3 n3 c3 (v1.heap.size + 1) v1.heap.size false _ tx _ GW3.out HO3.out (Nat.lt_succ_self _) (by omega) (by omega) (by omega)).mono ?_
    rintro e v4 ⟨A4, n4, c4, rfl, hr4, ho4, hb4⟩
    have GW4 := Lib.hid hr4
    have HO4 := Lib.hid ho4
    have hz4 := hb4.size
    have HB4 := Lib.hid (HB3.out.trans (hb4.mono HB1.out.size))
    have RB4 := Lib.hid (RB3.out.below hb4 lt1)
    have hn4 : n4 ≤ n3 + 4005 := by
      have h := HO4.out.len
      have h' := HO3.out.len
      rw [List.length_append, h'] at h
      have := tE_len (l := byt tx) (by rw [byt_len]; omega)
      rw [byt_len] at this
      omega
    clear hr4 ho4 hb4
    clear j30 j31 j32 j33 j34 j35 j36 j37
    have j40 : v4.cell? ⟨w.heap.size, 0, none⟩ = some (.int .i64 (k : Int)) := RB4.out.cell 0
    have j41 : v4.cell? ⟨w.heap.size, 1, none⟩ = some (.int .i64 (a : Int)) := RB4.out.cell 1
    have j42 : v4.cell? ⟨w.heap.size, 2, none⟩ = some (.int .i64 (b : Int)) := RB4.out.cell 2
    have j43 : v4.cell? ⟨w.heap.size, 3, none⟩ = some (.int .i64 (d : Int)) := RB4.out.cell 3
    have j44 : v4.cell? ⟨w.heap.size, 4, none⟩ = some (.string nm) := RB4.out.cell 4
    have j45 : v4.cell? ⟨w.heap.size, 5, none⟩ = some (.string tx) := RB4.out.cell 5
    have j46 : v4.cell? ⟨w.heap.size, 6, none⟩ = some (.string dr) := RB4.out.cell 6
    have j47 : v4.cell? ⟨w.heap.size, 7, none⟩ = some (.slice A n c) := RB4.out.cell 7
    go_wp2_with fail
    refine (textW_any A4 n4 c4 (v1.heap.size + 1) v1.heap.size false _ dr _ GW4.out HO4.out (Nat.lt_succ_self _) (by omega) (by omega) (by omega)).mono ?_
    rintro e v5 ⟨A5, n5, c5, rfl, hr5, ho5, hb5⟩
    have GW5 := Lib.hid hr5
    have HO5 := Lib.hid ho5
    have hz5 := hb5.size
    have HB5 := Lib.hid (HB4.out.trans (hb5.mono HB1.out.size))
    have RB5 := Lib.hid (RB4.out.below hb5 lt1)
    have hn5 : n5 ≤ n4 + 4005 := by
      have h := HO5.out.len
      have h' := HO4.out.len
      rw [List.length_append, h'] at h
      have := tE_len (l := byt dr) (by rw [byt_len]; omega)
      rw [byt_len] at this
      omega
    clear hr5 ho5 hb5
    clear j40 j41 j42 j43 j44 j45 j46 j47
    have j50 : v5.cell? ⟨w.heap.size, 0, none⟩ = some (.int .i64 (k : Int)) := RB5.out.cell 0
    have j51 : v5.cell? ⟨w.heap.size, 1, none⟩ = some (.int .i64 (a : Int)) := RB5.out.cell 1
    have j52 : v5.cell? ⟨w.heap.size, 2, none⟩ = some (.int .i64 (b : Int)) := RB5.out.cell 2
    have j53 : v5.cell? ⟨w.heap.size, 3, none⟩ = some (.int .i64 (d : Int)) := RB5.out.cell 3
    have j54 : v5.cell? ⟨w.heap.size, 4, none⟩ = some (.string nm) := RB5.out.cell 4
    have j55 : v5.cell? ⟨w.heap.size, 5, none⟩ = some (.string tx) := RB5.out.cell 5
    have j56 : v5.cell? ⟨w.heap.size, 6, none⟩ = some (.string dr) := RB5.out.cell 6
    have j57 : v5.cell? ⟨w.heap.size, 7, none⟩ = some (.slice A n c) := RB5.out.cell 7
    have hcv := conv_str v5 A n c zs w.heap.size (HR.out.below (Nat.le_refl _) HB5.out) HL.out HA.out
    go_wp2_with fail
    refine (textW_any A5 n5 c5 (v1.heap.size + 1) v1.heap.size false _ (strOfNums zs) _ GW5.out HO5.out (Nat.lt_succ_self _) (by omega) (by omega) (by rw [str_size, HL.out]; omega)).mono ?_
    rintro e v6 ⟨A6, n6, c6, rfl, hr6, ho6, hb6⟩
    have y0 : v6.cell? ⟨v1.heap.size, 0, none⟩ = some (.slice A6 n6 c6) := hr6.cell 0
    have HO6 := Lib.hid (show Own v6 w.heap.size A6 n6 c6 (opE k a b d nm tx dr zs) from HE.out ▸ ho6.more (by omega))
    have HB6 := Lib.hid (HB5.out.trans (hb6.mono HB1.out.size))
    clear hr6 ho6 hb6 hcv j50 j51 j52 j53 j54 j55 j56 j57
    go_wp2_with fail
    go_ret2
    exact ⟨A6, n6, c6, rfl, HO6.out, HB6.out⟩
end Go.Proofs.Yteiojpglhmikoaa.Oq

