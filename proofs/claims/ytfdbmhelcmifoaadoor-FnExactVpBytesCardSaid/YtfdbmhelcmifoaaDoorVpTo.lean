/- The laws' helpers over parsers' states: sizes, a copy of one's own, a comparison of equals. -/
import Derived.Test.YtfdbmhelcmifoaaDoorVpD
import Derived.Test.YtfdbmhelcmifoaaDoorSzB
import Derived.Deep.Cut
import Derived.Deep.CutRange
import Derived.Deep.DeepCutAuto
namespace Go.Proofs.YtfdbmhelcmifoaaDoor.Vp
open Go.RowKit Go.Proofs.YtfdbmhelcmifoaaDoor.Bytes Go.Proofs.YtfdbmhelcmifoaaDoor.DOk Go.Proofs.YtfdbmhelcmifoaaDoor.Rune Go.Proofs.YtfdbmhelcmifoaaDoor.RowK Go.Proofs.YtfdbmhelcmifoaaDoor.Gr
set_option linter.unusedVariables false
theorem szIntS_any (A : Option Addr) (n c : Nat) (left : Int) (w : World) (hn : n ≤ 9223372036854775807) (h0 : 0 ≤ left) (h1 : left ≤ 1048576) :
    Calls Tryd.prog 36 #[.slice A n c, .int .i64 left] w fun e w' => e = .returned (.int .i64 (if left < (n : Int) then -1 else left - n)) ∧ w = w' := by
  by_cases h : left < (n : Int)
  · have HI := Lib.hid (if_pos h : (if left < (n : Int) then (-1 : Int) else left - n) = -1)
    have h' : left - (n : Int) < 0 := by omega
    rw [HI.out]
    go_enter Tryd.func36, Tryd.ntmps36
    go_wp2_with fail
    go_ret
    exact ⟨rfl, rfl⟩
  · have HI := Lib.hid (if_neg h : (if left < (n : Int) then (-1 : Int) else left - n) = left - n)
    have h' : 0 ≤ left - (n : Int) := by omega
    rw [HI.out]
    go_enter Tryd.func36, Tryd.ntmps36
    go_wp2_with fail
    go_ret
    exact ⟨rfl, rfl⟩
set_option maxRecDepth 100000 in
theorem szVp_big (st : Int) (mk : Bool) (A : Option Addr) (na ca : Nat) (P : Option Addr) (np cp : Nat) (w : World) (hn : na ≤ 9223372036854775807) (hpn : np ≤ 9223372036854775807) (h : ¬ na + np ≤ 1048576) :
    Calls Tryd.prog 11 #[.agg #[.int .i64 st, .bool mk, .slice A na ca, .slice P np cp], .int .i64 1048576] w fun e w' => e = .returned (.int .i64 (-1)) ∧ Below w.heap.size w w' := by
  have hb0 := Lib.hid ((Below.refl w.heap.size w).alloc (Nat.le_refl _) (.cells #[.int .i64 st, .bool mk, .slice A na ca, .slice P np cp] 25))
  have HS := Lib.hid (fun W => szIntS_any A na ca 1048576 W hn (by omega) (by omega))
  by_cases ha : (1048576 : Int) < (na : Int)
  · rw [if_pos ha] at HS
    go_enter Tryd.func11, Tryd.ntmps11
    go_wp2_with fail
    refine (HS.out _).mono ?_
    rintro e w' ⟨rfl, rfl⟩
    go_wp2_with fail
    go_ret
    exact ⟨rfl, hb0.out⟩
  · rw [if_neg ha] at HS
    have h2 : 0 ≤ 1048576 - (na : Int) := by omega
    have HB := Lib.hid (fun W => OpOk.szByteS_any P np cp (1048576 - (na : Int)) W hpn (by omega) (by omega))
    rw [if_pos (by omega)] at HB
    go_enter Tryd.func11, Tryd.ntmps11
    go_wp2_with fail
    refine (HS.out _).mono ?_
    rintro e w' ⟨rfl, rfl⟩
    go_wp2_with fail
    refine (HB.out _).mono ?_
    rintro e w' ⟨rfl, rfl⟩
    go_wp2_with fail
    go_ret
    exact ⟨rfl, hb0.out⟩
set_option maxRecDepth 100000 in
theorem szVp_ok (st : Int) (mk : Bool) (A : Option Addr) (na ca : Nat) (P : Option Addr) (np cp : Nat) (w : World) (h : na + np ≤ 1048576) :
    Calls Tryd.prog 11 #[.agg #[.int .i64 st, .bool mk, .slice A na ca, .slice P np cp], .int .i64 1048576] w fun e w' => e = .returned (.int .i64 (1048576 - (na : Int) - (np : Int))) ∧ Below w.heap.size w w' := by
  have hb0 := Lib.hid ((Below.refl w.heap.size w).alloc (Nat.le_refl _) (.cells #[.int .i64 st, .bool mk, .slice A na ca, .slice P np cp] 25))
  have HS := Lib.hid (fun W => szIntS_any A na ca 1048576 W (by omega) (by omega) (by omega))
  rw [if_neg (by omega)] at HS
  have h2 : 0 ≤ 1048576 - (na : Int) := by omega
  have h3 : 0 ≤ 1048576 - (na : Int) - (np : Int) := by omega
  have HB := Lib.hid (fun W => OpOk.szByteS_any P np cp (1048576 - (na : Int)) W (by omega) (by omega) (by omega))
  rw [if_neg (by omega)] at HB
  go_enter Tryd.func11, Tryd.ntmps11
  go_wp2_with fail
  refine (HS.out _).mono ?_
  rintro e w' ⟨rfl, rfl⟩
  go_wp2_with fail
  refine (HB.out _).mono ?_
  rintro e w' ⟨rfl, rfl⟩
  go_wp2_with fail
  go_ret
  exact ⟨rfl, hb0.out⟩
def AnsVp (w : World) (st : Int) (mk : Bool) (na : Nat) (zs : List Int) (np : Nat) (bs : List Int) (e : Ending) (w' : World) : Prop :=
  ∃ F d G d', e = .returned (.agg #[.int .i64 st, .bool mk, .slice F na d, .slice G np d']) ∧ OwnI w' w.heap.size F na d zs ∧ Own w' w.heap.size G np d' bs ∧ Below w.heap.size w w'
theorem setI {w : World} {base : Nat} {A : Option Addr} {n c : Nat} {zs : List Int} (h : OwnI w base A n c zs) (b j : Nat) (v : Value) (hb : b < base) : OwnI (w.setCell ⟨b, j, none⟩ v) base A n c zs := own_setK h b j v hb
theorem setB {w : World} {base : Nat} {A : Option Addr} {n c : Nat} {zs : List Int} (h : Own w base A n c zs) (b j : Nat) (v : Value) (hb : b < base) : Own (w.setCell ⟨b, j, none⟩ v) base A n c zs := own_setK h b j v hb
set_option maxRecDepth 100000 in
set_option maxHeartbeats 1600000 in
theorem toVp_any (st : Int) (mk : Bool) (A : Option Addr) (na ca : Nat) (zs : List Int) (P : Option Addr) (np cp : Nat) (bs : List Int) (w : World) (hr : RdI w w.heap.size A zs) (hl : zs.length = na) (hp : Rd w w.heap.size P bs) (hpl : bs.length = np) (h : na + np ≤ 1048576) :
    Calls Tryd.prog 13 #[.agg #[.int .i64 st, .bool mk, .slice A na ca, .slice P np cp]] w (AnsVp w st mk na zs np bs) := by
  have HR := Lib.hid hr
  have HL := Lib.hid hl
  have HP := Lib.hid hp
  have HPL := Lib.hid hpl
  clear hr hl hp hpl
  have hb0 := Lib.hid ((((Below.refl w.heap.size w).alloc (Nat.le_refl _) (.cells #[.int .i64 st, .bool mk, .slice A na ca, .slice P np cp] 25)).alloc (by simp) (.cells #[.int .i64 0, .bool false, .slice none 0 0, .slice none 0 0] 38)).alloc (by simp <;> omega) (.cells #[.int .i64 st, .bool mk, .slice none 0 0, .slice none 0 0] 38))
  have X0 := Lib.hid (((BoxK.new w [.int .i64 st, .bool mk, .slice A na ca, .slice P np cp] 25).alloc (by simp) (.cells #[.int .i64 0, .bool false, .slice none 0 0, .slice none 0 0] 38)).alloc (by simp <;> omega) (.cells #[.int .i64 st, .bool mk, .slice none 0 0, .slice none 0 0] 38))
  have x1 := (BoxV.new (w.alloc (.cells #[.int .i64 st, .bool mk, .slice A na ca, .slice P np cp] 25)) #[.int .i64 0, .bool false, .slice none 0 0, .slice none 0 0]).below ((Below.refl _ _).alloc (Nat.le_refl _) (.cells #[.int .i64 st, .bool mk, .slice none 0 0, .slice none 0 0] 38)) (by simp)
  simp only [World.size_alloc] at x1
  have X1 := Lib.hid x1
  have x2 := BoxV.new ((w.alloc (.cells #[.int .i64 st, .bool mk, .slice A na ca, .slice P np cp] 25)).alloc (.cells #[.int .i64 0, .bool false, .slice none 0 0, .slice none 0 0] 38)) #[.int .i64 st, .bool mk, .slice none 0 0, .slice none 0 0]
  simp only [World.size_alloc] at x2
  have X2 := Lib.hid x2
  clear x1 x2
  go_enter Tryd.func13, Tryd.ntmps13
  go_wp2_with fail
  refine (toIntS_any A na ca zs _ ((HR.out.below (Nat.le_refl _) hb0.out).more (by simp <;> omega)) HL.out (by omega)).mono ?_
  rintro e v1 ⟨A1, c1, rfl, ho1, hb1⟩
  have x0 := BoxK.below X0.out hb1 (by simp <;> omega)
  have x1 := X1.out.below hb1 (by simp <;> omega)
  have x2 := X2.out.below hb1 (by simp)
  have HO1 := Lib.hid (ho1.more (base' := w.heap.size + 3) (by simp))
  have HB1 := Lib.hid (hb0.out.trans (hb1.mono (by simp <;> omega)))
  have hz1 : w.heap.size + 2 < v1.heap.size := by have := hb1.size; simp at this; omega
  obtain ⟨V2, hV2⟩ : ∃ V, V = v1.setCell ⟨w.heap.size + 1 + 1, 2, none⟩ (.slice A1 na c1) := ⟨_, rfl⟩
  have p2 : v1.cell? ⟨w.heap.size + 1 + 1, 2, none⟩ = some (.slice none 0 0) := x2.cell 2
  have g2 : v1.frozen? ⟨w.heap.size + 1 + 1, 2, none⟩ = false := x2.free 2
  have X2a := Lib.hid (show BoxV V2 (w.heap.size + 1 + 1) _ by rw [hV2]; exact x2.set2 (.slice A1 na c1))
  have X1a := Lib.hid (show BoxV V2 (w.heap.size + 1) _ by rw [hV2]; exact x1.other (b' := w.heap.size + 1 + 1) (j := 2) (v := .slice A1 na c1) (by omega))
  have HO1a := Lib.hid (show OwnI V2 (w.heap.size + 3) A1 na c1 zs by rw [hV2]; exact setI HO1.out (w.heap.size + 1 + 1) 2 _ (by omega))
  have HB1a := Lib.hid (show Below w.heap.size w V2 by rw [hV2]; exact HB1.out.setCell (by simp <;> omega) _)
  have hz2 : w.heap.size + 2 < V2.heap.size := by rw [hV2]; simpa using hz1
  have q3 : V2.cell? ⟨w.heap.size, 3, none⟩ = some (.slice P np cp) := by rw [hV2]; exact (Only.cell_ (S := fun i => i = w.heap.size + 1 + 1) v1 (w.heap.size + 1 + 1) 2 _ rfl).cell (x0 3 _ rfl) (by omega)
  have HV2 := Lib.hid hV2.symm
  clear hb1 ho1 x0 x1 x2 X0 X1 X2 hV2
  go_upto_region 5 with fail
  rw [HV2.out]
  clear p2 g2
  go_wp2_with fail
  refine (toByteS_any P np cp bs _ ((HP.out.below (Nat.le_refl _) HB1a.out).more (by omega)) HPL.out (by omega)).mono ?_
  rintro e v3 ⟨A3, c3, rfl, ho3, hb3⟩
  have x1 := X1a.out.below hb3 (by omega)
  have x2 := X2a.out.below hb3 (by omega)
  have HO3 := Lib.hid (HO1a.out.below (Nat.le_refl _) hb3)
  have HP3 := Lib.hid (ho3.more (base' := w.heap.size + 3) (by omega))
  have HB3 := Lib.hid (HB1a.out.trans (hb3.mono (by omega)))
  have hz3 : w.heap.size + 2 < v3.heap.size := by have := hb3.size; omega
  have p3 : v3.cell? ⟨w.heap.size + 1 + 1, 3, none⟩ = some (.slice none 0 0) := x2.cell 3
  have g3 : v3.frozen? ⟨w.heap.size + 1 + 1, 3, none⟩ = false := x2.free 3
  obtain ⟨V4, hV4⟩ : ∃ V, V = v3.setCell ⟨w.heap.size + 1 + 1, 3, none⟩ (.slice A3 np c3) := ⟨_, rfl⟩
  have hx2 : BoxV V4 (w.heap.size + 1 + 1) #[.int .i64 st, .bool mk, .slice A1 na c1, .slice A3 np c3] := by rw [hV4]; exact x2.set3 (.slice A3 np c3)
  have hx1 : BoxV V4 (w.heap.size + 1) #[.int .i64 0, .bool false, .slice none 0 0, .slice none 0 0] := by rw [hV4]; exact x1.other (b' := w.heap.size + 1 + 1) (j := 3) (v := .slice A3 np c3) (by omega)
  have HO4 := Lib.hid (show OwnI V4 (w.heap.size + 3) A1 na c1 zs by rw [hV4]; exact setI HO3.out (w.heap.size + 1 + 1) 3 _ (by omega))
  have HP4 := Lib.hid (show Own V4 (w.heap.size + 3) A3 np c3 bs by rw [hV4]; exact setB HP3.out (w.heap.size + 1 + 1) 3 _ (by omega))
  have HB4 := Lib.hid (show Below w.heap.size w V4 by rw [hV4]; exact HB3.out.setCell (by simp <;> omega) _)
  have HV4 := Lib.hid hV4.symm
  clear hb3 ho3 x1 x2 X1a X2a hV4 HB1a q3
  go_upto_region 6 with fail
  rw [HV4.out]
  clear p3 g3
  have c0 : V4.cell? ⟨w.heap.size + 1 + 1, 0, none⟩ = some (.int .i64 st) := hx2.cell 0
  have c1_ : V4.cell? ⟨w.heap.size + 1 + 1, 1, none⟩ = some (.bool mk) := hx2.cell 1
  have c2_ : V4.cell? ⟨w.heap.size + 1 + 1, 2, none⟩ = some (.slice A1 na c1) := hx2.cell 2
  have c3_ : V4.cell? ⟨w.heap.size + 1 + 1, 3, none⟩ = some (.slice A3 np c3) := hx2.cell 3
  have r0 : V4.cell? ⟨w.heap.size + 1, 0, none⟩ = some (.int .i64 0) := hx1.cell 0
  have r1 : V4.cell? ⟨w.heap.size + 1, 1, none⟩ = some (.bool false) := hx1.cell 1
  have r2 : V4.cell? ⟨w.heap.size + 1, 2, none⟩ = some (.slice none 0 0) := hx1.cell 2
  have r3 : V4.cell? ⟨w.heap.size + 1, 3, none⟩ = some (.slice none 0 0) := hx1.cell 3
  have f0 : V4.frozen? ⟨w.heap.size + 1, 0, none⟩ = false := hx1.free 0
  have f1 : V4.frozen? ⟨w.heap.size + 1, 1, none⟩ = false := hx1.free 1
  have f2 : V4.frozen? ⟨w.heap.size + 1, 2, none⟩ = false := hx1.free 2
  have f3 : V4.frozen? ⟨w.heap.size + 1, 3, none⟩ = false := hx1.free 3
  clear hx1 hx2
  go_wp2_with fail
  refine bodyPost_ret (v := .agg #[.int .i64 st, .bool mk, .slice A1 na c1, .slice A3 np c3]) (by simp [results, Tryd.results13, go_sem, r0, r1, r2, r3]) rfl ⟨A1, c1, A3, c3, rfl, ?_, ?_, ?_⟩
  · exact (setI (setI (setI (setI HO4.out (w.heap.size + 1) 0 _ (by omega)) (w.heap.size + 1) 1 _ (by omega)) (w.heap.size + 1) 2 _ (by omega)) (w.heap.size + 1) 3 _ (by omega)).more (by omega)
  · exact (setB (setB (setB (setB HP4.out (w.heap.size + 1) 0 _ (by omega)) (w.heap.size + 1) 1 _ (by omega)) (w.heap.size + 1) 2 _ (by omega)) (w.heap.size + 1) 3 _ (by omega)).more (by omega)
  · exact (((HB4.out.setCell (by simp) _).setCell (by simp) _).setCell (by simp) _).setCell (by simp) _
set_option maxRecDepth 100000 in
set_option maxHeartbeats 1600000 in
theorem eqVp_yes (st : Int) (mk : Bool) (A A' : Option Addr) (na ca ca' : Nat) (zs : List Int) (P P' : Option Addr) (np cp cp' : Nat) (bs : List Int) (w : World) (hr : RdI w w.heap.size A zs) (hr' : RdI w w.heap.size A' zs) (hl : zs.length = na) (hp : Rd w w.heap.size P bs) (hp' : Rd w w.heap.size P' bs) (hpl : bs.length = np) (hn : na ≤ 2097152) (hpn : np ≤ 2097152) :
    Calls Tryd.prog 15 #[.agg #[.int .i64 st, .bool mk, .slice A na ca, .slice P np cp], .agg #[.int .i64 st, .bool mk, .slice A' na ca', .slice P' np cp']] w fun e w' => e = .returned (.bool true) ∧ Below w.heap.size w w' := by
  have e1 : (st != st) = false := by simp
  have e2 : (mk != mk) = false := by simp
  have hb0 := Lib.hid (((Below.refl w.heap.size w).alloc (Nat.le_refl _) (.cells #[.int .i64 st, .bool mk, .slice A na ca, .slice P np cp] 38)).alloc (by simp) (.cells #[.int .i64 st, .bool mk, .slice A' na ca', .slice P' np cp'] 38))
  have X0 := Lib.hid ((BoxV.new w #[.int .i64 st, .bool mk, .slice A na ca, .slice P np cp]).below ((Below.refl _ _).alloc (Nat.le_refl _) (.cells #[.int .i64 st, .bool mk, .slice A' na ca', .slice P' np cp'] 38)) (by simp))
  have x1 := BoxV.new (w.alloc (.cells #[.int .i64 st, .bool mk, .slice A na ca, .slice P np cp] 38)) #[.int .i64 st, .bool mk, .slice A' na ca', .slice P' np cp']
  simp only [World.size_alloc] at x1
  have X1 := Lib.hid x1
  have HI := Lib.hid (fun V (h : Below w.heap.size w V) => eqIntS_yes A A' na ca ca' zs V ((hr.below (Nat.le_refl _) h).more h.size) ((hr'.below (Nat.le_refl _) h).more h.size) hl hn)
  have HJ := Lib.hid (fun V (h : Below w.heap.size w V) => eqByteS_yes P P' np cp np cp' bs V ((hp.below (Nat.le_refl _) h).more h.size) ((hp'.below (Nat.le_refl _) h).more h.size) hpl hpl (by omega))
  clear hr hr' hl hp hp' hpl x1
  go_enter Tryd.func15, Tryd.ntmps15
  go_wp2_with fail
  refine (HI.out _ hb0.out).mono ?_
  rintro e v1 ⟨rfl, hb1⟩
  have HB1 := Lib.hid (hb0.out.trans (hb1.mono (by simp <;> omega)))
  have q0 := (X0.out.below hb1 (by simp <;> omega)).cell 3
  have q1 : v1.cell? ⟨w.heap.size + 1, 3, none⟩ = some (.slice P' np cp') := (X1.out.below hb1 (by simp)).cell 3
  clear hb1
  go_wp2_with fail
  refine (HJ.out _ HB1.out).mono ?_
  rintro e v2 ⟨rfl, hb2⟩
  have HB2 := Lib.hid (HB1.out.trans (hb2.mono HB1.out.size))
  clear hb2
  go_wp2_with fail
  go_ret
  exact ⟨rfl, HB2.out⟩
theorem undrew {W v : World} {B : Nat} (h : Below B W.drew v) : Below B W v := ⟨h.os, h.tape, h.output, h.size, h.block⟩
structure OwnV (w : World) (base : Nat) (F : Option Addr) (na d : Nat) (zs : List Int) (G : Option Addr) (np d' : Nat) (bs : List Int) : Prop where
  i : OwnI w base F na d zs
  b : Own w base G np d' bs
theorem OwnV.below {w w' : World} {base B : Nat} {F : Option Addr} {na d : Nat} {zs : List Int} {G : Option Addr} {np d' : Nat} {bs : List Int} (h : OwnV w base F na d zs G np d' bs) (hB : w.heap.size ≤ B) (hb : Below B w w') : OwnV w' base F na d zs G np d' bs := ⟨h.i.below hB hb, h.b.below hB hb⟩
theorem OwnV.more {w : World} {base base' : Nat} {F : Option Addr} {na d : Nat} {zs : List Int} {G : Option Addr} {np d' : Nat} {bs : List Int} (h : OwnV w base F na d zs G np d' bs) (hB : base' ≤ base) : OwnV w base' F na d zs G np d' bs := ⟨h.i.more hB, h.b.more hB⟩
theorem toV {W w : World} (st : Int) (mk : Bool) (A : Option Addr) (na ca : Nat) (zs : List Int) (P : Option Addr) (np cp : Nat) (bs : List Int) (hr : RdI w w.heap.size A zs) (hl : zs.length = na) (hp : Rd w w.heap.size P bs) (hpl : bs.length = np) (hn : na + np ≤ 1048576) (h : Below w.heap.size w W) :
    Calls Tryd.prog 13 #[.agg #[.int .i64 st, .bool mk, .slice A na ca, .slice P np cp]] W fun e w' => ∃ F d G d', e = .returned (.agg #[.int .i64 st, .bool mk, .slice F na d, .slice G np d']) ∧ OwnV w' W.heap.size F na d zs G np d' bs ∧ Below W.heap.size W w' :=
  (toVp_any st mk A na ca zs P np cp bs W ((hr.below (Nat.le_refl _) h).more h.size) hl ((hp.below (Nat.le_refl _) h).more h.size) hpl hn).mono fun e w' ⟨F, d, G, d', he, h1, h2, hb⟩ => ⟨F, d, G, d', he, ⟨h1, h2⟩, hb⟩
theorem eqV {w : World} {b1 b2 : Nat} (st : Int) (mk : Bool) {F F' : Option Addr} {na d e : Nat} {zs : List Int} {G G' : Option Addr} {np d' e' : Nat} {bs : List Int} (h1 : OwnV w b1 F na d zs G np d' bs) (h2 : OwnV w b2 F' na e zs G' np e' bs) (hn : na + np ≤ 1048576) :
    Calls Tryd.prog 15 #[.agg #[.int .i64 st, .bool mk, .slice F na d, .slice G np d'], .agg #[.int .i64 st, .bool mk, .slice F' na e, .slice G' np e']] w fun e w' => e = .returned (.bool true) ∧ Below w.heap.size w w' :=
  eqVp_yes st mk F F' na d e zs G G' np d' e' bs w h1.i.rd h2.i.rd h1.i.len h1.b.rd h2.b.rd h1.b.len (by omega) (by omega)
theorem spec_VpOk_own (st : Int) (mk : Bool) {W : World} {B : Nat} {F : Option Addr} {na d : Nat} {zs : List Int} {G : Option Addr} {np d' : Nat} {bs : List Int} (h : OwnV W B F na d zs G np d' bs) (hg : Rng bs) (hn : na + np ≤ 1048576) :
    Calls Tryd.prog 30 #[.agg #[.int .i64 st, .bool mk, .slice F na d, .slice G np d']] W fun e w' => e = .returned (.bool (okVp st mk zs bs)) ∧ Below W.heap.size W w' :=
  spec_VpOk_any st mk F na d zs G np d' bs W h.i.rd h.i.len (by omega) h.b.rd hg h.b.len (own_none h.b) (by omega) h.b.cap
theorem impl_VpOk_own (st : Int) (mk : Bool) {W : World} {B : Nat} {F : Option Addr} {na d : Nat} {zs : List Int} {G : Option Addr} {np d' : Nat} {bs : List Int} (h : OwnV W B F na d zs G np d' bs) (hT : Dec.Tabs8 W) (hg : Rng bs) (hn : na + np ≤ 1048576) :
    Calls Tryd.prog 33 #[.agg #[.int .i64 st, .bool mk, .slice F na d, .slice G np d']] W fun e w' => e = .returned (.bool (okVp st mk zs bs)) ∧ Below W.heap.size W w' :=
  impl_VpOk_any st mk F na d zs G np d' bs W hT h.i.rd h.i.len (by omega) h.b.rd hg h.b.len (by omega)
end Go.Proofs.YtfdbmhelcmifoaaDoor.Vp
