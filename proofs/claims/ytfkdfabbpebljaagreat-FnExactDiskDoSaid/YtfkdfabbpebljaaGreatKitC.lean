/- Texts that lay in modules of their own: ImplKept, ImplMap, ImplTurns, ImplIds, ImplOk. -/
import Derived.Test.YtfkdfabbpebljaaGreatImplFiles
import Derived.Maps.OwnOps
import Derived.Maps.OwnSet
import Derived.Maps.Views
import Derived.StringKeys
import Derived.Outline
namespace Go.Proofs.YtfkdfabbpebljaaGreat.DOk
open Go.RowKit Go.Proofs.YtfkdfabbpebljaaGreat.Bytes Go.Proofs.YtfkdfabbpebljaaGreat.Rows_
open Go.Proofs.YtfkdfabbpebljaaGreat.Made (madeB nb)
set_option linter.unusedVariables false

def leB (a b : List UInt8) : Bool := Op.bytesLess a b || a == b
def KeptAtI (ks : List LinkD) (j : Nat) (h : j < ks.length) : Prop :=
  madeB nb 16 ks[j].1.data.toList = true ∧ ∀ _ : 0 < j, leB ks[j].1.toList (ks[j - 1]'(by omega)).1.toList = false
theorem le_f {a b : List UInt8} (h : leB a b = false) : Op.bytesLess a b = false ∧ (a == b) = false := by
  unfold leB at h; simp only [Bool.or_eq_false_iff] at h; exact h

set_option maxRecDepth 100000 in
set_option maxHeartbeats 3200000 in
theorem keptOk_any (K : Option Addr) (nk ck : Nat) (ks : List LinkD) (w : World) (hk : RdL w w.heap.size K ks) (hkl : ks.length = nk) (hn : nk ≤ 1099511627776) (hks : ∀ x ∈ ks, x.1.size ≤ maxLen) :
    Calls Tryz.prog 62 #[.slice K nk ck] w (Ans' (∀ j h, KeptAtI ks j h) w.heap.size w) := by
  have HK := Lib.hid hk
  have HKL := Lib.hid hkl
  have HKS := Lib.hid hks
  clear hk hkl hks
  go_enter Tryz.func62, Tryz.ntmps62
  go_wp2_with fail
  go_loopw [7] (fun i wr => ∃ k : Nat, k ≤ nk ∧ i = .int .i64 k ∧ Below w.heap.size w wr ∧ Hid (∀ j (hj : j < ks.length), j < k → KeptAtI ks j hj)) (fun i _ => nk - (intOf i).toNat)
  case atStart => exact ⟨0, Nat.zero_le _, rfl, Below.refl _ _, Lib.hid (fun j _ h => absurd h (by omega))⟩
  case round =>
    obtain ⟨k, hk, rfl, hb, HA⟩ := hrel
    have hz : w.heap.size ≤ wr.heap.size := hb.size
    by_cases hlt : k < nk
    · have hlt' : k < ks.length := by rw [HKL.out]; exact hlt
      obtain ⟨b, o, rfl, hB, hc0, hc1⟩ := (HK.out.below (Nat.le_refl _) hb).at_ hlt'
      have HB := Lib.hid hb
      have hN := Lib.hid (fun W => fnExactNameOk.impl_any ks[k].1 W (HKS.out _ (List.getElem_mem hlt')))
      have HKA := Lib.hid (show KeptAtI ks k hlt' ↔ (madeB nb 16 ks[k].1.data.toList = true ∧ ∀ _ : 0 < k, leB ks[k].1.toList (ks[k - 1]'(by omega)).1.toList = false) from Iff.rfl)
      have HBad := Lib.hid (show ¬ KeptAtI ks k hlt' → ¬ (∀ j h, KeptAtI ks j h) from fun hn h => hn (h k hlt'))
      have HBr := Lib.hid (fun (o : Obj) => HB.out.alloc hz o)
      clear hb
      rcases Nat.eq_zero_or_pos k with hk0 | hk0
      · have g0 : ¬ (0 : Int) < (k : Int) := by omega
        have dk : decide ((0 : Int) < (k : Int)) = false := decide_eq_false g0
        have dk' : decide (0 < k) = false := decide_eq_false (by omega)
        generalize madeB nb 16 ks[k].1.data.toList = nkb at *
        generalize ks[k].1 = x0 at *
        generalize ks[k].2 = x1 at *
        have hk0' : k ≤ 0 := by omega
        clear hk0
        cases nkb
        · have HN := Lib.hid (HBad.out (fun h => by have := (HKA.out.1 h).1; cases this))
          go_wp2_with fail
          go_quiet ((go_at_call 65; exact Calls.quiet_of_same ((hN.out _).mono fun _ _ ⟨a, b⟩ => ⟨a, b.symm⟩)))
          go_wp2_with fail
          go_ret
          exact ansI_no HN.out (below_drewN (HBr.out _) _)
        · have HG := Lib.hid (upto' HA.out (fun h => HKA.out.2 ⟨rfl, fun h => absurd h (by omega)⟩))
          go_wp2_with fail
          go_quiet ((go_at_call 65; exact Calls.quiet_of_same ((hN.out _).mono fun _ _ ⟨a, b⟩ => ⟨a, b.symm⟩)))
          go_wp2_with fail
          exact ⟨⟨k + 1, by omega, by go_num, below_drewN (HBr.out _) _, HG⟩, by simp [intOf]; omega⟩
      · have hp : k - 1 < ks.length := by omega
        obtain ⟨b', o', e', _, pc0, _⟩ := (HK.out.below (Nat.le_refl _) HB.out).at_ hp
        obtain ⟨rfl, rfl⟩ : b' = b ∧ o' = o := by cases e'; exact ⟨rfl, rfl⟩
        clear e'
        have hBr : b' < wr.heap.size := by omega
        generalize madeB nb 16 ks[k].1.data.toList = nkb at *
        generalize ks[k].1 = x0 at *
        generalize ks[k].2 = x1 at *
        generalize hy : (ks[k - 1]'hp).1 = y at *
        have HYy := Lib.hid (show ∀ h : 0 < k, (ks[k - 1]'(by omega)).1 = y from fun _ => hy)
        clear hy
        have IW := Lib.hid (show IntKind.i64.wrap ((k : Int) - 1) = (k : Int) - 1 ∧ (0 : Int) ≤ (k : Int) - 1 ∧ (1 : Int) ≤ (k : Int) ∧ (k : Int) - 1 < (nk : Int) ∧ ((k : Int) - 1).toNat = k - 1 from ⟨IntWalk.i64_in _ (by omega), by omega, by omega, by omega, by omega⟩)
        have g0 : (0 : Int) < (k : Int) := by omega
        have dk : decide ((0 : Int) < (k : Int)) = true := decide_eq_true g0
        have dk' : decide (0 < k) = true := decide_eq_true hk0
        cases nkb
        · have HN := Lib.hid (HBad.out (fun h => by have := (HKA.out.1 h).1; cases this))
          go_wp2_with fail
          go_quiet ((go_at_call 65; exact Calls.quiet_of_same ((hN.out _).mono fun _ _ ⟨a, b⟩ => ⟨a, b.symm⟩)))
          go_wp2_with fail
          go_ret
          exact ansI_no HN.out (below_drewN (HBr.out _) _)
        · cases hl1 : Op.bytesLess x0.toList y.toList <;> cases hl2 : (x0.toList == y.toList)
          · have HG := Lib.hid (upto' HA.out (fun h => HKA.out.2 ⟨rfl, fun h => by rw [HYy.out h]; unfold leB; rw [hl1, hl2]; rfl⟩))
            go_wp2_with fail
            obtain ⟨iw0, iw1, iw2, iw3, iw4⟩ := IW.out
            go_quiet ((go_at_call 65; exact Calls.quiet_of_same ((hN.out _).mono fun _ _ ⟨a, b⟩ => ⟨a, b.symm⟩)))
            clear iw0 iw1 iw2 iw3 iw4
            go_wp2_with fail
            exact ⟨⟨k + 1, by omega, by go_num, below_drewN (HBr.out _) _, HG⟩, by simp [intOf]; omega⟩
          all_goals
            have HN := Lib.hid (HBad.out (fun h => by have h1 := (HKA.out.1 h).2 hk0; rw [HYy.out hk0] at h1; have h2 := le_f h1; first | (rw [hl1] at h2; exact absurd h2.1 (by decide)) | (rw [hl2] at h2; exact absurd h2.2 (by decide))))
            go_wp2_with fail
            obtain ⟨iw0, iw1, iw2, iw3, iw4⟩ := IW.out
            go_quiet ((go_at_call 65; exact Calls.quiet_of_same ((hN.out _).mono fun _ _ ⟨a, b⟩ => ⟨a, b.symm⟩)))
            clear iw0 iw1 iw2 iw3 iw4
            go_wp2_with fail
            go_ret
            exact ansI_no HN.out (below_drewN (HBr.out _) _)
    · obtain rfl : nk = k := by omega
      have HAK := Lib.hid (show ∀ j h, KeptAtI ks j h from fun j h => HA.out j h (by have := HKL.out; omega))
      have HB := Lib.hid hb
      clear hb
      go_wp2_with fail
      go_ret
      exact ansI_yes HAK.out HB.out

/-! ### turnOk -/
def tokI (nk tk te : Bool) (kind id : Int) : Bool :=
  nk && (if kind = 1 then te else if kind = 4 then tk && decide (id = 0) else if kind = 5 then te && decide (id = 0) else false)
theorem tokI_no {nk tk te : Bool} {kind id : Int} (h1 : kind ≠ 1) (h4 : kind ≠ 4) (h5 : kind ≠ 5) : tokI nk tk te kind id = false := by
  unfold tokI; rw [if_neg h1, if_neg h4, if_neg h5]; simp
def turnOkI (t : TurnD) : Bool := tokI (madeB nb 16 t.name.data.toList) (madeB nb 16 t.to_.data.toList) t.to_.toList.isEmpty t.kind t.id

set_option maxRecDepth 100000 in
set_option maxHeartbeats 3200000 in
theorem turnOk_any (kind : Int) (name to_ : ByteArray) (id : Int) (w : World) (h1 : name.size ≤ maxLen) (h2 : to_.size ≤ maxLen) :
    Calls Tryz.prog 83 #[.agg #[.int .i64 kind, .string name, .string to_, .int .i64 id]] w fun e w' => e = .returned (.bool (turnOkI ⟨kind, name, to_, id⟩)) ∧ Below w.heap.size w w' := by
  have hN := Lib.hid (fun W => fnExactNameOk.impl_any name W h1)
  have hT := Lib.hid (fun W => fnExactNameOk.impl_any to_ W h2)
  unfold turnOkI
  simp only
  generalize madeB nb 16 name.data.toList = nk at *
  generalize madeB nb 16 to_.data.toList = tk at *
  clear h1 h2
  have hb0 := Lib.hid ((Below.refl w.heap.size w).alloc (Nat.le_refl _) (.cells #[.int .i64 kind, .string name, .string to_, .int .i64 id] 60))
  by_cases k1 : kind = 1
  · subst k1
    go_enter Tryz.func83, Tryz.ntmps83
    go_wp2_with fail
    refine (hN.out _).mono ?_
    rintro e w' ⟨rfl, rfl⟩
    cases nk
    all_goals
      go_wp2_with fail
      all_goals (go_ret; exact ⟨Bytes.ret_bool (by unfold tokI; simp_all <;> (rw [Bool.eq_iff_iff]; simp)), hb0.out⟩)
  · by_cases k4 : kind = 4
    · subst k4
      go_enter Tryz.func83, Tryz.ntmps83
      go_wp2_with fail
      refine (hN.out _).mono ?_
      rintro e w' ⟨rfl, rfl⟩
      cases nk
      · go_wp2_with fail
        go_ret
        exact ⟨Bytes.ret_bool (by unfold tokI; simp), hb0.out⟩
      · go_wp2_with fail
        refine (hT.out _).mono ?_
        rintro e w' ⟨rfl, rfl⟩
        cases tk
        all_goals
          go_wp2_with fail
          all_goals (go_ret; exact ⟨Bytes.ret_bool (by unfold tokI; simp_all <;> (rw [Bool.eq_iff_iff]; simp)), hb0.out⟩)
    · by_cases k5 : kind = 5
      · subst k5
        go_enter Tryz.func83, Tryz.ntmps83
        go_wp2_with fail
        refine (hN.out _).mono ?_
        rintro e w' ⟨rfl, rfl⟩
        cases nk
        all_goals
          go_wp2_with fail
          all_goals (go_ret; exact ⟨Bytes.ret_bool (by unfold tokI; simp_all <;> (rw [Bool.eq_iff_iff]; simp)), hb0.out⟩)
      · have HV := Lib.hid (tokI_no (nk := nk) (tk := tk) (te := to_.toList.isEmpty) (id := id) k1 k4 k5)
        have e1 : (kind == 1) = false := by simp; omega
        have e4 : (kind == 4) = false := by simp; omega
        have e5 : (kind == 5) = false := by simp; omega
        clear k1 k4 k5
        go_enter Tryz.func83, Tryz.ntmps83
        go_wp2_with fail
        go_ret
        exact ⟨Bytes.ret_bool HV.out.symm, hb0.out⟩
end Go.Proofs.YtfkdfabbpebljaaGreat.DOk
namespace Go.Proofs.YtfkdfabbpebljaaGreat.DOk
open Go.RowKit Go.Proofs.YtfkdfabbpebljaaGreat.Bytes Go.Proofs.YtfkdfabbpebljaaGreat.Rows_ Go.Maps Go.WideMaps
set_option linter.unusedVariables false

abbrev Dat := DataW Unit
theorem skey : Keyed Tryz.prog 9 := string_keyed Tryz.underlying9
theorem zeroI (w : World) : (zeroValue 3).run Tryz.prog w = .ok (.int .i64 0) w := by kernel_rfl
def kS (s : ByteArray) : Lit := .string s.data.toList
def vI (z : Int) : Dat := .lit (.int .i64 z)
def OwnM (w : World) (b n : Nat) (D : Dat) : Prop := w.ownsMap Tryz.prog 9 (plainElem Tryz.prog 3) b n D
theorem OwnM.lt {w : World} {b n : Nat} {D : Dat} (h : OwnM w b n D) : b < w.heap.size := World.ownsMap.lt h
theorem OwnM.alloc {w : World} {b n : Nat} {D : Dat} (h : OwnM w b n D) (o : Obj) : OwnM (w.alloc o) b n D := World.ownsMap.alloc h o
theorem OwnM.more {w : World} {b n n' : Nat} {D : Dat} (h : OwnM w b n D) (hn : n ≤ n') : OwnM w b n' D := World.ownsMap.mono h hn
theorem OwnM.below {w w' : World} {B b n : Nat} {D : Dat} (h : OwnM w b n D) (hb : Below B w w') (hB : w.heap.size ≤ B) : OwnM w' b n D := by
  have hlt := h.lt
  obtain ⟨es, clock, hg, F, hs, rfl⟩ := h
  exact ⟨es, clock, by rw [hb.block b (by omega)]; exact hg, F, hs, rfl⟩
theorem keyS {s : ByteArray} (h : s.size ≤ maxLen) : keyOf Tryz.prog 9 (.string s) = some (kS s) := keyOf_string_mk Tryz.underlying9 h

/-- what one turn makes of the directory -/
def applyD (D : Dat) (t : TurnD) : Dat :=
  if t.kind = 1 then D.put (kS t.name) (vI t.id)
  else if t.kind = 4 then (D.put (kS t.to_) (D.atKey (kS t.name) (vI 0))).del (kS t.name)
  else if t.kind = 5 then D.del (kS t.name) else D
def acceptsB (D : Dat) (t : TurnD) : Bool := if t.kind = 1 then !has D (kS t.name) else has D (kS t.name) && !(t.to_.toList == t.name.toList)

set_option maxRecDepth 100000 in
set_option maxHeartbeats 3200000 in
theorem apply_any (b m : Nat) (D : Dat) (kind : Int) (name to_ : ByteArray) (id : Int) (w : World) (ho : OwnM w b m D) (hm : m ≤ 1099511627776) (h1 : name.size ≤ maxLen) (h2 : to_.size ≤ maxLen) (hw : (Lit.int .i64 id).wf = true) :
    Calls Tryz.prog 70 #[.map (some b), .agg #[.int .i64 kind, .string name, .string to_, .int .i64 id]] w fun e w' => e = .returned (.tuple #[]) ∧ OwnM w' b (m + 1) (applyD D ⟨kind, name, to_, id⟩) ∧ w.grownBy w' (some b) := by
  have hk1 := Lib.hid (keyS h1)
  have hk2 := Lib.hid (keyS h2)
  have hv := Lib.hid (plainElem_int (H := Unit) Tryz.underlying3 hw)
  have hlt := ho.lt
  have hA := Lib.hid (World.grownBy_alloc w (.cells #[.int .i64 kind, .string name, .string to_, .int .i64 id] 60) (some b))
  have hoA := Lib.hid (ho.alloc (.cells #[.int .i64 kind, .string name, .string to_, .int .i64 id] 60))
  clear h1 h2 hw ho
  by_cases k1 : kind = 1
  · subst k1
    have hT := Lib.hid (show applyD D ⟨1, name, to_, id⟩ = D.put (kS name) (vI id) by simp [applyD])
    go_enter Tryz.func70, Tryz.ntmps70
    go_wp2_with (at_mapUpdate; refine wpList_mapUpdate_own _ rfl _ _ _ 67 rfl 9 3 skey Tryz.underlying67 _ b m _ rfl hoA.out (by unfold maxLen; omega) _ _ _ rfl rfl hk1.out _ [] hv.out ?_)
    intro w1 hown1 hgrow1
    have HO := Lib.hid (show OwnM w1 b (m + 1) (applyD D ⟨1, name, to_, id⟩) by rw [hT.out]; exact hown1)
    have HG := Lib.hid (grown_trans hA.out hgrow1)
    clear hown1 hgrow1
    go_wp2_with fail
    go_end0
    exact ⟨rfl, HO.out, HG.out⟩
  · have e1 : (kind == 1) = false := by simp; omega
    by_cases k4 : kind = 4
    · subst k4
      have hT := Lib.hid (show applyD D ⟨4, name, to_, id⟩ = (D.put (kS to_) (D.atKey (kS name) (vI 0))).del (kS name) by simp [applyD])
      clear k1 e1
      have hne : some w.heap.size ≠ some b := fun e => by injection e with e; omega
      go_enter Tryz.func70, Tryz.ntmps70
      go_wp2_with (at_lookup; refine wpList_lookup_own_int _ rfl _ _ 67 rfl 9 3 .i64 skey Tryz.underlying67 Tryz.underlying3 (zeroI _) b m D rfl hoA.out _ _ rfl hk1.out ?_)
      intro c hat hwc
      have hat' := Lib.hid hat
      have hvc := Lib.hid (plainElem_int (H := Unit) Tryz.underlying3 hwc)
      clear hat hwc
      go_wp2_with (at_mapUpdate; refine wpList_mapUpdate_own _ rfl _ _ _ 67 rfl 9 3 skey Tryz.underlying67 _ b m _ rfl hoA.out (by unfold maxLen; omega) _ _ _ rfl rfl hk2.out _ [] hvc.out ?_)
      intro w1 hown1 hgrow1
      have q1 : w1.cell? ⟨w.heap.size, 1, none⟩ = some (.string name) := hgrow1.cell (a := ⟨w.heap.size, 1, none⟩) (by rw [World.cell?_alloc_at _ _ _ _ rfl]; rfl) hne
      have q0 : w1.cell? ⟨w.heap.size, 0, none⟩ = some (.int .i64 4) := hgrow1.cell (a := ⟨w.heap.size, 0, none⟩) (by rw [World.cell?_alloc_at _ _ _ _ rfl]; rfl) hne
      have HG1 := Lib.hid (grown_trans hA.out hgrow1)
      have HO1 := Lib.hid hown1
      clear hown1 hgrow1 hne
      go_wp2_with (at_delete; refine wpList_delete_own _ rfl _ _ 67 9 rfl 3 skey Tryz.underlying67 _ b _ _ rfl HO1.out _ _ rfl hk1.out ?_)
      intro w2 hown2 hturn2
      have HO := Lib.hid (show OwnM w2 b (m + 1) (applyD D ⟨4, name, to_, id⟩) by rw [hT.out, vI, hat'.out]; exact hown2)
      have HG := Lib.hid (grown_trans HG1.out hturn2.grown)
      clear hown2 hturn2
      go_wp2_with fail
      go_end0
      exact ⟨rfl, HO.out, HG.out⟩
    · have e4 : (kind == 4) = false := by simp; omega
      by_cases k5 : kind = 5
      · subst k5
        have hT := Lib.hid (show applyD D ⟨5, name, to_, id⟩ = D.del (kS name) by simp [applyD])
        clear k1 e1 k4 e4
        go_enter Tryz.func70, Tryz.ntmps70
        go_wp2_with (at_delete; refine wpList_delete_own _ rfl _ _ 67 9 rfl 3 skey Tryz.underlying67 _ b _ _ rfl hoA.out _ _ rfl hk1.out ?_)
        intro w2 hown2 hturn2
        have HO := Lib.hid (show OwnM w2 b (m + 1) (applyD D ⟨5, name, to_, id⟩) by rw [hT.out]; exact OwnM.more hown2 (by omega))
        have HG := Lib.hid (grown_trans hA.out hturn2.grown)
        clear hown2 hturn2
        go_wp2_with fail
        go_end0
        exact ⟨rfl, HO.out, HG.out⟩
      · have e5 : (kind == 5) = false := by simp; omega
        have hT := Lib.hid (show applyD D ⟨kind, name, to_, id⟩ = D by simp [applyD, k1, k4, k5])
        clear k1 k4 k5
        go_enter Tryz.func70, Tryz.ntmps70
        go_wp2_with fail
        go_end0
        exact ⟨rfl, by rw [hT.out]; exact hoA.out.more (by omega), hA.out⟩

set_option maxRecDepth 100000 in
set_option maxHeartbeats 3200000 in
theorem accepts_any (b m : Nat) (D : Dat) (kind : Int) (name to_ : ByteArray) (id : Int) (w : World) (ho : OwnM w b m D) (h1 : name.size ≤ maxLen) :
    Calls Tryz.prog 84 #[.map (some b), .agg #[.int .i64 kind, .string name, .string to_, .int .i64 id]] w fun e w' => e = .returned (.bool (acceptsB D ⟨kind, name, to_, id⟩)) ∧ Below w.heap.size w w' := by
  have hk1 := Lib.hid (keyS h1)
  have hoA := Lib.hid (ho.alloc (.cells #[.int .i64 kind, .string name, .string to_, .int .i64 id] 60))
  have hb0 := Lib.hid ((Below.refl w.heap.size w).alloc (Nat.le_refl _) (.cells #[.int .i64 kind, .string name, .string to_, .int .i64 id] 60))
  clear h1 ho
  unfold acceptsB
  simp only
  generalize hh : has D (kS name) = h at *
  have HH := Lib.hid hh
  clear hh
  by_cases k1 : kind = 1
  · subst k1
    rw [if_pos rfl]
    go_enter Tryz.func84, Tryz.ntmps84
    go_wp2_with (at_lookup; refine wpList_lookup_own_ok_int _ rfl _ _ 67 rfl 9 3 .i64 skey Tryz.underlying67 Tryz.underlying3 (zeroI _) b m D rfl hoA.out _ _ rfl hk1.out ?_)
    intro c hat hwc
    rw [HH.out]
    clear hat hwc
    go_wp2_with fail
    go_ret
    exact ⟨rfl, hb0.out⟩
  · rw [if_neg k1]
    have e1 : (kind == 1) = false := by simp; omega
    clear k1
    cases heq : (to_.toList == name.toList)
    all_goals
      have hne : (!(to_.toList == name.toList)) = !(to_.toList == name.toList) := rfl
      rw [heq] at hne
      go_enter Tryz.func84, Tryz.ntmps84
      go_wp2_with (at_lookup; refine wpList_lookup_own_ok_int _ rfl _ _ 67 rfl 9 3 .i64 skey Tryz.underlying67 Tryz.underlying3 (zeroI _) b m D rfl hoA.out _ _ rfl hk1.out ?_)
      intro c hat hwc
      rw [HH.out]
      clear hat hwc HH
      cases h
      all_goals
        go_wp2_with fail
        go_ret
        exact ⟨rfl, hb0.out⟩
end Go.Proofs.YtfkdfabbpebljaaGreat.DOk
namespace Go.Proofs.YtfkdfabbpebljaaGreat.DOk
open Go.RowKit Go.Proofs.YtfkdfabbpebljaaGreat.Bytes Go.Proofs.YtfkdfabbpebljaaGreat.Rows_ Go.Maps Go.WideMaps
set_option linter.unusedVariables false

def putL (D : Dat) (x : LinkD) : Dat := D.put (kS x.1) (vI x.2)
def dirL (ks : List LinkD) : Dat := ks.foldl putL (.map [])
def dirM (ks : List LinkD) (ts : List TurnD) : Dat := ts.foldl applyD (dirL ks)
theorem dirL_snoc (ks : List LinkD) (k : Nat) (h : k < ks.length) : dirL (ks.take (k + 1)) = (dirL (ks.take k)).put (kS ks[k].1) (vI ks[k].2) := by
  rw [List.take_succ_eq_append_getElem h]; unfold dirL; rw [List.foldl_append]; rfl
theorem dirM_snoc (ks : List LinkD) (ts : List TurnD) (k : Nat) (h : k < ts.length) : dirM ks (ts.take (k + 1)) = applyD (dirM ks (ts.take k)) ⟨ts[k].kind, ts[k].name, ts[k].to_, ts[k].id⟩ := by
  rw [List.take_succ_eq_append_getElem h]; unfold dirM; rw [List.foldl_append]; rfl
theorem grown_new {w a c : World} {b B : Nat} (hb : Below B w a) (hg : a.grownBy c (some b)) (hB : B ≤ b) (hz : B ≤ a.heap.size) : Below B w c :=
  hb.grown hg hz (fun g h => by injection h with h; omega)
theorem rdl_map {w w' : World} {B b : Nat} {A : Option Addr} {ks : List LinkD} (h : RdL w B A ks) (hb : Below B w w') : RdL w' B A ks := h.below (Nat.le_refl _) hb

set_option maxRecDepth 100000 in
set_option maxHeartbeats 3200000 in
theorem directoryOf_any (K : Option Addr) (nk ck : Nat) (T : Option Addr) (nt ct : Nat) (ks : List LinkD) (ts : List TurnD) (w : World)
    (hk : RdL w w.heap.size K ks) (hkl : ks.length = nk) (hkn : nk ≤ 2000000) (hks : ∀ x ∈ ks, x.1.size ≤ maxLen ∧ (Lit.int .i64 x.2).wf = true)
    (ht : RdT w w.heap.size T ts) (htl : ts.length = nt) (htn : nt ≤ 2000000) (hts : ∀ x ∈ ts, x.name.size ≤ maxLen ∧ x.to_.size ≤ maxLen ∧ (Lit.int .i64 x.id).wf = true) :
    Calls Tryz.prog 35 #[.slice K nk ck, .slice T nt ct] w fun e w' => e = .returned (.map (some w.heap.size)) ∧ OwnM w' w.heap.size (nk + nt) (dirM ks ts) ∧ Below w.heap.size w w' := by
  have HK := Lib.hid hk
  have HKL := Lib.hid hkl
  have HKS := Lib.hid hks
  have HT := Lib.hid ht
  have HTL := Lib.hid htl
  have HTS := Lib.hid hts
  clear hk hkl hks ht htl hts
  have hmm := @run_makeMap Tryz.prog
  go_enter Tryz.func35, Tryz.ntmps35
  go_wp2_with fail
  go_loopw [13] (fun i wr => ∃ k : Nat, k ≤ nk ∧ i = .int .i64 k ∧ OwnM wr w.heap.size k (dirL (ks.take k)) ∧ Below w.heap.size w wr) (fun i _ => nk - (intOf i).toNat)
  case atStart => exact ⟨0, Nat.zero_le _, rfl, World.ownsMap_made _ _ _ _, (Below.refl _ _).alloc (Nat.le_refl _) _⟩
  case round =>
    clear hmm
    obtain ⟨k, hk, rfl, ho, hb⟩ := hrel
    have hz : w.heap.size ≤ wr.heap.size := hb.size
    have hlm := ho.lt
    by_cases hlt : k < nk
    · have hlt' : k < ks.length := by rw [HKL.out]; exact hlt
      obtain ⟨b, o, rfl, hB, hc0, hc1⟩ := (HK.out.below (Nat.le_refl _) hb).at_ hlt'
      have HB := Lib.hid hb
      have HS := Lib.hid (dirL_snoc ks k hlt')
      have hx := HKS.out _ (List.getElem_mem hlt')
      have hkey := Lib.hid (keyS hx.1)
      have hval := Lib.hid (plainElem_int (H := Unit) Tryz.underlying3 hx.2)
      clear hb hx
      generalize ks[k].1 = x0 at *
      generalize ks[k].2 = x1 at *
      have ho1 := Lib.hid (ho.alloc (.cells #[.string x0, .int .i64 x1] 86))
      clear ho
      go_wp2_with (at_mapUpdate; refine wpList_mapUpdate_own _ rfl _ _ _ 67 rfl 9 3 skey Tryz.underlying67 _ w.heap.size k _ rfl ho1.out (by unfold maxLen; omega) _ _ _ rfl rfl hkey.out _ [] hval.out ?_)
      intro w1 hown1 hgrow1
      have HO := Lib.hid (show OwnM w1 w.heap.size (k + 1) (dirL (ks.take (k + 1))) by rw [HS.out]; exact hown1)
      have HB1 := Lib.hid (grown_new (HB.out.alloc hz _) hgrow1 (Nat.le_refl _) (by simp; omega))
      clear hown1 hgrow1
      go_wp2_with fail
      exact ⟨⟨k + 1, by omega, by go_num, HO.out, HB1.out⟩, by simp [intOf]; omega⟩
    · obtain rfl : nk = k := by omega
      have e : ks.take nk = ks := List.take_of_length_le (by rw [HKL.out]; exact Nat.le_refl _)
      rw [e] at ho
      have HO := Lib.hid ho
      have HB := Lib.hid hb
      clear ho hb hlt hk hlm e
      obtain ⟨wo, rfl⟩ : ∃ wo : World, wo = wr := ⟨_, rfl⟩
      go_wp2_with fail
      go_loopw [25] (fun i wr => ∃ k : Nat, k ≤ nt ∧ i = .int .i64 k ∧ OwnM wr w.heap.size (nk + k) (dirM ks (ts.take k)) ∧ Below w.heap.size w wr) (fun i _ => nt - (intOf i).toNat)
      case atStart => exact ⟨0, Nat.zero_le _, rfl, HO.out, HB.out⟩
      case round =>
        clear HO HB hz
        obtain ⟨k, hk, rfl, ho, hb⟩ := hrel
        have hz : w.heap.size ≤ wr.heap.size := hb.size
        have hlm := ho.lt
        by_cases hlt : k < nt
        · have hlt' : k < ts.length := by rw [HTL.out]; exact hlt
          obtain ⟨b, o, rfl, hB, hc0, hc1, hc2, hc3⟩ := (HT.out.below (Nat.le_refl _) hb).at_ hlt'
          have HB := Lib.hid hb
          have HS := Lib.hid (dirM_snoc ks ts k hlt')
          have hx := HTS.out _ (List.getElem_mem hlt')
          clear hb
          generalize ts[k].kind = x0 at *
          generalize ts[k].name = x1 at *
          generalize ts[k].to_ = x2 at *
          generalize ts[k].id = x3 at *
          have hAp := Lib.hid (fun W (h : OwnM W w.heap.size (nk + k) (dirM ks (ts.take k))) => apply_any w.heap.size (nk + k) (dirM ks (ts.take k)) x0 x1 x2 x3 W h (by omega) hx.1 hx.2.1 hx.2.2)
          have ho1 := Lib.hid (ho.alloc (.cells #[.int .i64 x0, .string x1, .string x2, .int .i64 x3] 60))
          clear ho hx
          go_wp2_with fail
          refine (hAp.out _ ho1.out).mono ?_
          rintro e w1 ⟨rfl, hown1, hgrow1⟩
          have HO := Lib.hid (show OwnM w1 w.heap.size (nk + (k + 1)) (dirM ks (ts.take (k + 1))) by rw [HS.out]; exact hown1)
          have HB1 := Lib.hid (grown_new (HB.out.alloc hz _) hgrow1 (Nat.le_refl _) (by simp; omega))
          clear hown1 hgrow1
          go_wp2_with fail
          exact ⟨⟨k + 1, by omega, by go_num, HO.out, HB1.out⟩, by simp [intOf]; omega⟩
        · obtain rfl : nt = k := by omega
          have e : ts.take nt = ts := List.take_of_length_le (by rw [HTL.out]; exact Nat.le_refl _)
          rw [e] at ho
          have HO := Lib.hid ho
          have HB := Lib.hid hb
          clear ho hb
          go_wp2_with fail
          go_ret
          exact ⟨rfl, HO.out, HB.out⟩

def TurnAtI (ks : List LinkD) (ts : List TurnD) (j : Nat) (h : j < ts.length) : Prop := turnOkI ts[j] = true ∧ acceptsB (dirM ks (ts.take j)) ts[j] = true
def TurnsOkI (ks : List LinkD) (ts : List TurnD) : Prop := ts.length ≤ 30 ∧ ∀ j h, TurnAtI ks ts j h

set_option maxRecDepth 100000 in
set_option maxHeartbeats 3200000 in
theorem turnsOk_any (K : Option Addr) (nk ck : Nat) (T : Option Addr) (nt ct : Nat) (ks : List LinkD) (ts : List TurnD) (w : World)
    (hk : RdL w w.heap.size K ks) (hkl : ks.length = nk) (hkn : nk ≤ 2000000) (hks : ∀ x ∈ ks, x.1.size ≤ maxLen ∧ (Lit.int .i64 x.2).wf = true)
    (ht : RdT w w.heap.size T ts) (htl : ts.length = nt) (hts : ∀ x ∈ ts, x.name.size ≤ maxLen ∧ x.to_.size ≤ maxLen ∧ (Lit.int .i64 x.id).wf = true) :
    Calls Tryz.prog 63 #[.slice K nk ck, .slice T nt ct] w (Ans' (TurnsOkI ks ts) w.heap.size w) := by
  by_cases h30 : nt ≤ 30
  · have hD := Lib.hid (directoryOf_any K nk ck none 0 0 ks [] w hk hkl hkn hks (fun h => absurd h (by simp)) rfl (by omega) (fun x hx => by cases hx))
    have HBad := Lib.hid (show ∀ k h, ¬ TurnAtI ks ts k h → ¬ TurnsOkI ks ts from fun k h hn h' => hn (h'.2 k h))
    have HAll := Lib.hid (show (∀ j h, TurnAtI ks ts j h) → TurnsOkI ks ts from fun a => ⟨by omega, a⟩)
    have HT := Lib.hid ht
    have HTL := Lib.hid htl
    have HTS := Lib.hid hts
    clear hk hkl hks ht htl hts
    go_enter Tryz.func63, Tryz.ntmps63
    go_wp2_with fail
    refine hD.out.mono ?_
    rintro e v1 ⟨rfl, ho1, hb1⟩
    have HO1 := Lib.hid ho1
    have HB1 := Lib.hid hb1
    clear ho1 hb1 hD
    go_wp2_with fail
    go_loopw [15] (fun i wr => ∃ k : Nat, k ≤ nt ∧ i = .int .i64 k ∧ OwnM wr w.heap.size (nk + k) (dirM ks (ts.take k)) ∧ Below w.heap.size w wr ∧ Hid (∀ j (hj : j < ts.length), j < k → TurnAtI ks ts j hj)) (fun i _ => nt - (intOf i).toNat)
    case atStart => exact ⟨0, Nat.zero_le _, rfl, HO1.out, HB1.out, Lib.hid (fun j _ h => absurd h (by omega))⟩
    case round =>
      clear HO1 HB1
      obtain ⟨k, hk, rfl, ho, hb, HA⟩ := hrel
      have hz : w.heap.size ≤ wr.heap.size := hb.size
      have hlm := ho.lt
      by_cases hlt : k < nt
      · have hlt' : k < ts.length := by rw [HTL.out]; exact hlt
        obtain ⟨b, o, rfl, hB, hc0, hc1, hc2, hc3⟩ := (HT.out.below (Nat.le_refl _) hb).at_ hlt'
        have HB := Lib.hid hb
        have HS := Lib.hid (dirM_snoc ks ts k hlt')
        have hTA := Lib.hid (show TurnAtI ks ts k hlt' ↔ (turnOkI ⟨ts[k].kind, ts[k].name, ts[k].to_, ts[k].id⟩ = true ∧ acceptsB (dirM ks (ts.take k)) ⟨ts[k].kind, ts[k].name, ts[k].to_, ts[k].id⟩ = true) from Iff.rfl)
        have hBad := Lib.hid (HBad.out k hlt')
        have hx := HTS.out _ (List.getElem_mem hlt')
        clear hb
        generalize ts[k].kind = x0 at *
        generalize ts[k].name = x1 at *
        generalize ts[k].to_ = x2 at *
        generalize ts[k].id = x3 at *
        have hOk := Lib.hid (fun W => turnOk_any x0 x1 x2 x3 W hx.1 hx.2.1)
        have hAc := Lib.hid (fun W (h : OwnM W w.heap.size (nk + k) (dirM ks (ts.take k))) => accepts_any w.heap.size (nk + k) (dirM ks (ts.take k)) x0 x1 x2 x3 W h hx.1)
        have hAp := Lib.hid (fun W (h : OwnM W w.heap.size (nk + k) (dirM ks (ts.take k))) => apply_any w.heap.size (nk + k) (dirM ks (ts.take k)) x0 x1 x2 x3 W h (by omega) hx.1 hx.2.1 hx.2.2)
        have ho1 := Lib.hid (ho.alloc (.cells #[.int .i64 x0, .string x1, .string x2, .int .i64 x3] 60))
        have hBx := Lib.hid (HB.out.alloc hz (.cells #[.int .i64 x0, .string x1, .string x2, .int .i64 x3] 60))
        generalize hD0 : dirM ks (ts.take k) = D0 at *
        clear ho hx hD0
        cases hok : turnOkI ⟨x0, x1, x2, x3⟩
        · have HOK := Lib.hid hok
          clear hok
          have HN := Lib.hid (hBad.out (fun h => by have := (hTA.out.1 h).1; rw [HOK.out] at this; cases this))
          go_wp2_with fail
          refine (hOk.out _).mono ?_
          rintro e v2 ⟨rfl, hb2⟩
          rw [HOK.out]
          have HB2 := Lib.hid (hBx.out.trans (hb2.mono (by simp; omega)))
          clear hb2
          go_wp2_with fail
          go_ret
          exact ansI_no HN.out HB2.out
        · have HOK := Lib.hid hok
          clear hok
          cases hac : acceptsB D0 ⟨x0, x1, x2, x3⟩
          all_goals
            have HAC := Lib.hid hac
            clear hac
            go_wp2_with fail
            refine (hOk.out _).mono ?_
            rintro e v2 ⟨rfl, hb2⟩
            rw [HOK.out]
            obtain ⟨hcc, _⟩ := bcell hb2
            have p0 : v2.cell? ⟨wr.heap.size, 0, none⟩ = some (.int .i64 x0) := by rw [hcc _ _ (by simp), World.cell?_alloc_at _ _ _ _ rfl]; rfl
            have p1 : v2.cell? ⟨wr.heap.size, 1, none⟩ = some (.string x1) := by rw [hcc _ _ (by simp), World.cell?_alloc_at _ _ _ _ rfl]; rfl
            have p2 : v2.cell? ⟨wr.heap.size, 2, none⟩ = some (.string x2) := by rw [hcc _ _ (by simp), World.cell?_alloc_at _ _ _ _ rfl]; rfl
            have p3 : v2.cell? ⟨wr.heap.size, 3, none⟩ = some (.int .i64 x3) := by rw [hcc _ _ (by simp), World.cell?_alloc_at _ _ _ _ rfl]; rfl
            have hsz2 : wr.heap.size < v2.heap.size := by have := hb2.size; simp at this; omega
            have HB2 := Lib.hid (hBx.out.trans (hb2.mono (by simp; omega)))
            have ho2 := Lib.hid (ho1.out.below hb2 (Nat.le_refl _))
            clear hb2 hcc
            go_wp2_with fail
            refine (hAc.out _ ho2.out).mono ?_
            rintro e v3 ⟨rfl, hb3⟩
            rw [HAC.out]
            have r0 : v3.cell? ⟨wr.heap.size, 0, none⟩ = some (.int .i64 x0) := (hb3.cell (p := ⟨wr.heap.size, 0, none⟩) hsz2).trans p0
            have r1 : v3.cell? ⟨wr.heap.size, 1, none⟩ = some (.string x1) := (hb3.cell (p := ⟨wr.heap.size, 1, none⟩) hsz2).trans p1
            have r2 : v3.cell? ⟨wr.heap.size, 2, none⟩ = some (.string x2) := (hb3.cell (p := ⟨wr.heap.size, 2, none⟩) hsz2).trans p2
            have r3 : v3.cell? ⟨wr.heap.size, 3, none⟩ = some (.int .i64 x3) := (hb3.cell (p := ⟨wr.heap.size, 3, none⟩) hsz2).trans p3
            have HB3 := Lib.hid (HB2.out.trans (hb3.mono (by omega)))
            have ho3 := Lib.hid (ho2.out.below hb3 (Nat.le_refl _))
            have hsz3 : w.heap.size ≤ v3.heap.size := by have := hb3.size; omega
            clear hb3 p0 p1 p2 p3
          · have HN := Lib.hid (hBad.out (fun h => by have := (hTA.out.1 h).2; rw [HAC.out] at this; cases this))
            go_wp2_with fail
            go_ret
            exact ansI_no HN.out HB3.out
          · have HG := Lib.hid (upto' HA.out (fun h => hTA.out.2 ⟨HOK.out, HAC.out⟩))
            go_wp2_with fail
            refine (hAp.out _ ho3.out).mono ?_
            rintro e w1 ⟨rfl, hown1, hgrow1⟩
            have HO := Lib.hid (show OwnM w1 w.heap.size (nk + (k + 1)) (dirM ks (ts.take (k + 1))) by rw [HS.out]; exact hown1)
            have HB1 := Lib.hid (grown_new HB3.out hgrow1 (Nat.le_refl _) hsz3)
            clear hown1 hgrow1 r0 r1 r2 r3
            go_wp2_with fail
            exact ⟨⟨k + 1, by omega, by go_num, HO.out, HB1.out, HG⟩, by simp [intOf]; omega⟩
      · obtain rfl : nt = k := by omega
        have HAF := Lib.hid (HAll.out (fun j h => HA.out j h (by have := HTL.out; omega)))
        have HB := Lib.hid hb
        clear hb ho
        go_wp2_with fail
        go_ret
        exact ansI_yes HAF.out HB.out
  · have HN := Lib.hid (show ¬ TurnsOkI ks ts from fun h => h30 (by have := h.1; omega))
    have h30' : (30 : Int) < nt := by omega
    clear h30 hk hkl hks ht htl hts
    go_enter Tryz.func63, Tryz.ntmps63
    go_wp2_with fail
    go_ret
    exact ansI_no HN.out (Below.refl _ _)
end Go.Proofs.YtfkdfabbpebljaaGreat.DOk
namespace Go.Proofs.YtfkdfabbpebljaaGreat.DOk
open Go.RowKit Go.Proofs.YtfkdfabbpebljaaGreat.Bytes Go.Proofs.YtfkdfabbpebljaaGreat.Rows_ Go.Maps Go.WideMaps
set_option linter.unusedVariables false

theorem ikey : Keyed Tryz.prog 3 := int_keyed Tryz.underlying3
theorem zeroB (w : World) : (zeroValue 4).run Tryz.prog w = .ok (.bool false) w := by kernel_rfl
def kI (z : Int) : Lit := .int .i64 z
def tru : Dat := .lit (.bool true)
def idMap (ids : List Int) : Dat := setOf tru (ids.map kI)
theorem idMap_snoc (ids : List Int) (z : Int) : idMap (ids ++ [z]) = (idMap ids).put (kI z) tru := by unfold idMap; rw [List.map_append]; exact setOf_snoc _ _ _
theorem idMap_lits (ids : List Int) : ∀ x ∈ ids.map kI, WideAt.IsKeyLit x := by intro x hx; simp at hx; obtain ⟨z, _, rfl⟩ := hx; trivial
theorem idMap_tidy (ids : List Int) : Tidy (idMap ids) := tidy_setOf tru _ (idMap_lits ids)
theorem kI_ne {a b : Int} (h : a ≠ b) : kI a ≠ kI b := fun e => h (by unfold kI at e; injection e)
theorem idMap_at_rev (z : Int) : ∀ (r : List Int), (idMap r.reverse).atKey (kI z) (.lit (.bool false)) = .lit (.bool (has (idMap r.reverse) (kI z)))
  | [] => rfl
  | x :: r => by
    rw [List.reverse_cons, idMap_snoc]
    by_cases h : z = x
    · subst h
      rw [atKey_put_same (k := kI z) (idMap_tidy _).isMap (show WideAt.IsKeyLit (kI z) from trivial), has_put_same (k := kI z) (idMap_tidy _).isMap (show WideAt.IsKeyLit (kI z) from trivial)]; rfl
    · rw [atKey_put_other (kI_ne h), has_put_other (kI_ne h)]
      exact idMap_at_rev z r
theorem idMap_at (ids : List Int) (z : Int) : (idMap ids).atKey (kI z) (.lit (.bool false)) = .lit (.bool (has (idMap ids) (kI z))) := by
  have := idMap_at_rev z ids.reverse; rw [List.reverse_reverse] at this; exact this
def OwnB (w : World) (b n : Nat) (D : Dat) : Prop := w.ownsMap Tryz.prog 3 (plainElem Tryz.prog 4) b n D
theorem OwnB.lt {w : World} {b n : Nat} {D : Dat} (h : OwnB w b n D) : b < w.heap.size := World.ownsMap.lt h
theorem OwnB.alloc {w : World} {b n : Nat} {D : Dat} (h : OwnB w b n D) (o : Obj) : OwnB (w.alloc o) b n D := World.ownsMap.alloc h o
set_option maxRecDepth 100000 in
theorem plainElem_bool_inv {v : Value} {z : Dat × List MemPlace} (h : plainElem Tryz.prog 4 v = some z) : ∃ x, v = .bool x ∧ z = (.lit (.bool x), []) := by
  unfold plainElem at h
  rw [Tryz.underlying4] at h
  cases v <;> simp at h
  exact ⟨_, rfl, h.symm⟩

set_option maxRecDepth 100000 in
/-- 'linked[x]' on the call's own set of ids -/
theorem lookup_ids {w : World} {ops : Array Oper} {rest : List Oper} {o : Oper} {a : Act} {Q : Exit → Act → World → Prop} (hg : o.guard = none) (m x : Operand) (hop : o.op = Op.lookup 116 m x false)
    {b n : Nat} {ids : List Int} {z : Int} (hm : a.eval m = .map (some b)) (hown : OwnB w b n (idMap ids)) (hx : a.eval x = .int .i64 z) (hw : (Lit.int .i64 z).wf = true) {y : Bool} (hyy : has (idMap ids) (kI z) = y)
    (hK : wpList Tryz.prog ops Q rest (a.put o.dst (.bool y)) w) : wpList Tryz.prog ops Q (o :: rest) a w := by
  refine wpList_plain hg fun K' hK' => ?_
  obtain ⟨v, ps, hrun, hv⟩ := World.ownsMap.lookup hown ikey Tryz.underlying116 (zeroB w) (plainElem_bool (H := Unit) Tryz.underlying4 false) (keyOf_int_mk Tryz.underlying3 hw)
  obtain ⟨y', rfl, hy⟩ := plainElem_bool_inv hv
  have hat := idMap_at ids z
  unfold kI at hat
  have hyy' : has (idMap ids) (kI z) = y' := by
    have h1 := congrArg Prod.fst hy
    simp only at h1
    rw [hat] at h1
    injection h1 with h1; injection h1
  obtain rfl : y' = y := hyy'.symm.trans hyy
  unfold Oper.wp
  simp [execOp, hop, hm, hx, hrun, Result.andThen]
  exact hK' _ _ hK

theorem len_ids {w : World} {ops : Array Oper} {rest : List Oper} {o : Oper} {a : Act} {Q : Exit → Act → World → Prop} (hg : o.guard = none) (m : Operand) (hop : o.op = Op.call { callee := Callee.builtin Builtin.len, args := #[m], argTypes := #[116] })
    {b n : Nat} {ids : List Int} (hm : a.eval m = .map (some b)) (hown : OwnB w b n (idMap ids)) {S : Nat} (hS : Maps.size (idMap ids) = S)
    (hK : wpList Tryz.prog ops Q rest (a.put o.dst (.int .i64 S)) w) : wpList Tryz.prog ops Q (o :: rest) a w :=
  wpList_len_own _ hg m 116 hop 3 4 Tryz.underlying116 _ b n (idMap ids) hm hown (by rw [hS]; exact hK)

def IdsOkI (fs : List FileD) (ks : List LinkD) (ts : List TurnD) : Prop :=
  (∀ j (h : j < fs.length), has (idMap (idsD ks ts)) (kI fs[j].id) = true) ∧ (idsD ks ts).length = Maps.size (idMap (idsD ks ts)) ∧ (idsD ks ts).length = fs.length

set_option maxRecDepth 100000 in
set_option maxHeartbeats 6400000 in
theorem idsOk_any (room fuse next : Int) (F : Option Addr) (nf cf : Nat) (K : Option Addr) (nk ck : Nat) (T : Option Addr) (nt ct : Nat) (fs : List FileD) (ks : List LinkD) (ts : List TurnD) (w : World)
    (hf : RdF w w.heap.size F fs) (hfl : fs.length = nf) (hfn : nf ≤ 2000000) (hfs : ∀ x ∈ fs, (Lit.int .i64 x.id).wf = true)
    (hk : RdL w w.heap.size K ks) (hkl : ks.length = nk) (hkn : nk ≤ 2000000) (hks : ∀ x ∈ ks, (Lit.int .i64 x.2).wf = true)
    (ht : RdT w w.heap.size T ts) (htl : ts.length = nt) (htn : nt ≤ 2000000) (hts : ∀ x ∈ ts, (Lit.int .i64 x.id).wf = true) :
    Calls Tryz.prog 64 #[.agg #[.int .i64 room, .int .i64 fuse, .int .i64 next, .slice F nf cf, .slice K nk ck, .slice T nt ct]] w (Ans' (IdsOkI fs ks ts) w.heap.size w) := by
  have HF := Lib.hid hf
  have HFL := Lib.hid hfl
  have HFS := Lib.hid hfs
  have HK := Lib.hid hk
  have HKL := Lib.hid hkl
  have HKS := Lib.hid hks
  have HT := Lib.hid ht
  have HTL := Lib.hid htl
  have HTS := Lib.hid hts
  have hmm := @run_makeMap Tryz.prog
  have hb0 := Lib.hid ((Below.refl w.heap.size w).alloc (Nat.le_refl _) (.cells #[.int .i64 room, .int .i64 fuse, .int .i64 next, .slice F nf cf, .slice K nk ck, .slice T nt ct] 36))
  have hbS := Lib.hid (show (w.alloc (.cells #[.int .i64 room, .int .i64 fuse, .int .i64 next, .slice F nf cf, .slice K nk ck, .slice T nt ct] 36)).heap.size = w.heap.size + 1 by simp)
  have hbC := Lib.hid (show ∀ j v, #[Value.int .i64 room, .int .i64 fuse, .int .i64 next, .slice F nf cf, .slice K nk ck, .slice T nt ct][j]? = some v → (w.alloc (.cells #[.int .i64 room, .int .i64 fuse, .int .i64 next, .slice F nf cf, .slice K nk ck, .slice T nt ct] 36)).cell? ⟨w.heap.size, j, none⟩ = some v from fun j v h => by rw [World.cell?_alloc_at _ _ _ _ rfl]; exact h)
  have hom := Lib.hid (show OwnB ((w.alloc (.cells #[.int .i64 room, .int .i64 fuse, .int .i64 next, .slice F nf cf, .slice K nk ck, .slice T nt ct] 36)).alloc (.map #[] 0)) (w.heap.size + 1) 0 (idMap []) by
    have := World.ownsMap_made (w.alloc (.cells #[.int .i64 room, .int .i64 fuse, .int .i64 next, .slice F nf cf, .slice K nk ck, .slice T nt ct] 36)) Tryz.prog 3 (plainElem (H := Unit) Tryz.prog 4)
    rw [hbS.out] at this
    exact this)
  have hbm := Lib.hid ((Below.refl (w.heap.size + 1) (w.alloc (.cells #[.int .i64 room, .int .i64 fuse, .int .i64 next, .slice F nf cf, .slice K nk ck, .slice T nt ct] 36))).alloc (by simp) (.map #[] 0))
  have HBad1 := Lib.hid (show ∀ j (h : j < fs.length), has (idMap (idsD ks ts)) (kI fs[j].id) = false → ¬ IdsOkI fs ks ts from fun j h hn h' => by have := h'.1 j h; rw [hn] at this; cases this)
  have hv := Lib.hid (plainElem_bool (H := Unit) Tryz.underlying4 true)
  clear hf hfl hfs hk hkl hks ht htl hts
  go_enter Tryz.func64, Tryz.ntmps64
  go_wp2_with fail
  generalize w.alloc (.cells #[.int .i64 room, .int .i64 fuse, .int .i64 next, .slice F nf cf, .slice K nk ck, .slice T nt ct] 36) = W0 at *
  go_loopw [4, 15] (fun u i wr => ∃ k : Nat, k ≤ nk ∧ i = .int .i64 k ∧ u = .int .i64 k ∧ OwnB wr (w.heap.size + 1) k (idMap ((ks.take k).map (·.2))) ∧ Below (w.heap.size + 1) W0 wr) (fun _ i _ => nk - (intOf i).toNat)
  case atStart => exact ⟨0, Nat.zero_le _, rfl, rfl, hom.out, hbm.out⟩
  case round =>
    clear hom hbm hmm
    obtain ⟨k, hk, rfl, rfl, ho, hb⟩ := hrel
    have hz : w.heap.size + 1 ≤ wr.heap.size := by have := hb.size; rw [hbS.out] at this; omega
    have hzr : w.heap.size < wr.heap.size := by omega
    by_cases hlt : k < nk
    · have hlt' : k < ks.length := by rw [HKL.out]; exact hlt
      obtain ⟨b, o, rfl, hB, hc0, hc1⟩ := (HK.out.below (Nat.le_refl _) (hb0.out.trans (hb.mono (by omega)))).at_ hlt'
      have HB := Lib.hid hb
      have HS := Lib.hid (show idMap ((ks.take (k + 1)).map (·.2)) = (idMap ((ks.take k).map (·.2))).put (kI ks[k].2) tru by rw [kids_snoc ks k hlt']; exact idMap_snoc _ _)
      have hx := Lib.hid (keyOf_int_mk (k := 3) Tryz.underlying3 (HKS.out _ (List.getElem_mem hlt')))
      clear hb
      generalize ks[k].1 = x0 at *
      generalize ks[k].2 = x1 at *
      have ho1 := Lib.hid (ho.alloc (.cells #[.string x0, .int .i64 x1] 86))
      clear ho
      go_wp2_with (at_mapUpdate; refine wpList_mapUpdate_own _ rfl _ _ _ 116 rfl 3 4 ikey Tryz.underlying116 _ (w.heap.size + 1) k _ rfl ho1.out (by unfold maxLen; omega) _ _ _ rfl rfl hx.out _ [] hv.out ?_)
      intro w1 hown1 hgrow1
      have HO := Lib.hid (show OwnB w1 (w.heap.size + 1) (k + 1) (idMap ((ks.take (k + 1)).map (·.2))) by rw [HS.out, List.map_take]; exact hown1)
      have HB1 := Lib.hid (grown_new (HB.out.alloc hz _) hgrow1 (Nat.le_refl _) (by simp; omega))
      clear hown1 hgrow1
      go_wp2_with fail
      exact ⟨⟨k + 1, by omega, by go_num, by go_num, HO.out, HB1.out⟩, by simp [intOf]; omega⟩
    · obtain rfl : nk = k := by omega
      have e : ks.take nk = ks := List.take_of_length_le (by rw [HKL.out]; exact Nat.le_refl _)
      rw [e] at ho
      have q5 : wr.cell? ⟨w.heap.size, 5, none⟩ = some (.slice T nt ct) := (hb.cell (p := ⟨w.heap.size, 5, none⟩) (by show w.heap.size < w.heap.size + 1; omega)).trans (hbC.out 5 _ rfl)
      have HO := Lib.hid (show OwnB wr (w.heap.size + 1) (nk + 0) (idMap (ks.map (·.2) ++ tids (ts.take 0))) by
        have e0 : tids (ts.take 0) = [] := rfl
        rw [e0, List.append_nil]; exact ho)
      have HB := Lib.hid hb
      have HL0 := Lib.hid (show (nk : Int) = ((nk + (tids (ts.take 0)).length : Nat) : Int) by simp [tids])
      clear ho hb hlt hk e
      obtain ⟨wo, rfl⟩ : ∃ wo : World, wo = wr := ⟨_, rfl⟩
      go_wp2_with fail
      go_loopw [4, 28] (fun u i wr => ∃ k : Nat, k ≤ nt ∧ i = .int .i64 k ∧ u = .int .i64 ((nk + (tids (ts.take k)).length : Nat) : Int) ∧ OwnB wr (w.heap.size + 1) (nk + k) (idMap (ks.map (·.2) ++ tids (ts.take k))) ∧ Below (w.heap.size + 1) W0 wr) (fun _ i _ => nt - (intOf i).toNat)
      case atStart => exact ⟨0, Nat.zero_le _, rfl, by rw [← HL0.out], HO.out, HB.out⟩
      case round =>
        clear HO HB q5 hz hzr
        obtain ⟨k, hk, rfl, rfl, ho, hb⟩ := hrel
        have hz : w.heap.size + 1 ≤ wr.heap.size := by have := hb.size; rw [hbS.out] at this; omega
        have hzr : w.heap.size < wr.heap.size := by omega
        have hle : (tids (ts.take k)).length ≤ k := by have h1 := tids_le (ts.take k); have h2 := take_le' ts k; omega
        by_cases hlt : k < nt
        · have hlt' : k < ts.length := by rw [HTL.out]; exact hlt
          obtain ⟨b, o, rfl, hB, hc0, hc1, hc2, hc3⟩ := (HT.out.below (Nat.le_refl _) (hb0.out.trans (hb.mono (by omega)))).at_ hlt'
          have hS := tids_snoc ts k hlt'
          have HB := Lib.hid hb
          have hx := Lib.hid (keyOf_int_mk (k := 3) Tryz.underlying3 (HTS.out _ (List.getElem_mem hlt')))
          clear hb
          cases hkd : (ts[k].kind == 1)
          · rw [hkd] at hS
            have HS := Lib.hid (show tids (ts.take (k + 1)) = tids (ts.take k) by rw [hS]; rfl)
            clear hS
            generalize ts[k].kind = x0 at *
            generalize ts[k].name = x1 at *
            generalize ts[k].to_ = x2 at *
            generalize ts[k].id = x3 at *
            have HO := Lib.hid (ho.alloc (.cells #[.int .i64 x0, .string x1, .string x2, .int .i64 x3] 60))
            clear ho
            go_wp2_with fail
            exact ⟨⟨k + 1, by omega, by go_num, by rw [HS.out], by rw [HS.out]; exact World.ownsMap.mono HO.out (by omega), HB.out.alloc hz _⟩, by simp [intOf]; omega⟩
          · rw [hkd] at hS
            have HS := Lib.hid (show tids (ts.take (k + 1)) = tids (ts.take k) ++ [ts[k].id] by rw [hS]; rfl)
            have HSm := Lib.hid (show idMap (ks.map (·.2) ++ tids (ts.take (k + 1))) = (idMap (ks.map (·.2) ++ tids (ts.take k))).put (kI ts[k].id) tru by rw [hS, if_pos rfl, ← List.append_assoc]; exact idMap_snoc _ _)
            have HN := Lib.hid (show (((nk + (tids (ts.take k)).length : Nat) : Int) + 1) = ((nk + (tids (ts.take (k + 1))).length : Nat) : Int) by rw [hS, if_pos rfl, List.length_append]; simp; omega)
            clear hS
            generalize ts[k].kind = x0 at *
            generalize ts[k].name = x1 at *
            generalize ts[k].to_ = x2 at *
            generalize ts[k].id = x3 at *
            generalize hLL : (tids (ts.take k)).length = LL at *
            clear hLL
            have ho1 := Lib.hid (ho.alloc (.cells #[.int .i64 x0, .string x1, .string x2, .int .i64 x3] 60))
            clear ho
            go_wp2_with (at_mapUpdate; refine wpList_mapUpdate_own _ rfl _ _ _ 116 rfl 3 4 ikey Tryz.underlying116 _ (w.heap.size + 1) (nk + k) _ rfl ho1.out (by unfold maxLen; omega) _ _ _ rfl rfl hx.out _ [] hv.out ?_)
            intro w1 hown1 hgrow1
            have HO := Lib.hid (show OwnB w1 (w.heap.size + 1) (nk + (k + 1)) (idMap (ks.map (·.2) ++ tids (ts.take (k + 1)))) by rw [HSm.out]; exact hown1)
            have HB1 := Lib.hid (grown_new (HB.out.alloc hz _) hgrow1 (Nat.le_refl _) (by simp; omega))
            clear hown1 hgrow1
            go_wp2_with fail
            exact ⟨⟨k + 1, by omega, by go_num, by rw [← HN.out]; go_num, HO.out, HB1.out⟩, by simp [intOf]; omega⟩
        · obtain rfl : nt = k := by omega
          have e : ts.take nt = ts := List.take_of_length_le (by rw [HTL.out]; exact Nat.le_refl _)
          rw [e] at ho hle ⊢
          have hLI : nk + (tids ts).length = (idsD ks ts).length := by rw [← HKL.out]; simp [idsD]
          have q3 : wr.cell? ⟨w.heap.size, 3, none⟩ = some (.slice F nf cf) := (hb.cell (p := ⟨w.heap.size, 3, none⟩) (by show w.heap.size < w.heap.size + 1; omega)).trans (hbC.out 3 _ rfl)
          have HO := Lib.hid (show OwnB wr (w.heap.size + 1) (nk + nt) (idMap (idsD ks ts)) from ho)
          have HB := Lib.hid hb
          rw [hLI]
          have hLn : (idsD ks ts).length ≤ 4000000 := by omega
          have HAll := Lib.hid (show (∀ j (h : j < fs.length), has (idMap (idsD ks ts)) (kI fs[j].id) = true) → (idsD ks ts).length = Maps.size (idMap (idsD ks ts)) → (idsD ks ts).length = nf → IdsOkI fs ks ts from fun a b c => ⟨a, b, by rw [HFL.out]; exact c⟩)
          have HBad2 := Lib.hid (show ¬ (idsD ks ts).length = Maps.size (idMap (idsD ks ts)) → ¬ IdsOkI fs ks ts from fun a b => a b.2.1)
          have HBad3 := Lib.hid (show ¬ (idsD ks ts).length = nf → ¬ IdsOkI fs ks ts from fun a b => a (by rw [← HFL.out]; exact b.2.2))
          have hSz : Maps.size (idMap (idsD ks ts)) ≤ nk + nt := World.ownsMap.size_le ho
          generalize hIDS : idsD ks ts = IDS at *
          clear hIDS hLI ho hb hlt hk e hle
          obtain ⟨wo2, rfl⟩ : ∃ wo2 : World, wo2 = wr := ⟨_, rfl⟩
          go_wp2_with fail
          go_loopw [44] (fun i wr => ∃ k : Nat, k ≤ nf ∧ i = .int .i64 k ∧ OwnB wr (w.heap.size + 1) (nk + nt) (idMap IDS) ∧ Below (w.heap.size + 1) W0 wr ∧ Hid (∀ j (hj : j < fs.length), j < k → has (idMap IDS) (kI fs[j].id) = true)) (fun i _ => nf - (intOf i).toNat)
          case atStart => exact ⟨0, Nat.zero_le _, rfl, HO.out, HB.out, Lib.hid (fun j _ h => absurd h (by omega))⟩
          case round =>
            clear HO HB q3 hz hzr
            obtain ⟨k, hk, rfl, ho, hb, HA⟩ := hrel
            have hz : w.heap.size + 1 ≤ wr.heap.size := by have := hb.size; rw [hbS.out] at this; omega
            have hzr : w.heap.size < wr.heap.size := by omega
            by_cases hlt : k < nf
            · have hlt' : k < fs.length := by rw [HFL.out]; exact hlt
              obtain ⟨b, o, rfl, hB, hc0, hc1, hc2⟩ := (HF.out.below (Nat.le_refl _) (hb0.out.trans (hb.mono (by omega)))).at_ hlt'
              have HB := Lib.hid hb
              have hx := Lib.hid (HFS.out _ (List.getElem_mem hlt'))
              have hBad := Lib.hid (HBad1.out k hlt')
              have hUp := Lib.hid (fun (h : has (idMap IDS) (kI fs[k].id) = true) => upto' (P := fun j hj => has (idMap IDS) (kI fs[j].id) = true) HA.out (fun _ => h))
              clear hb
              generalize fs[k].id = x0 at *
              generalize fs[k].A = x1 at *
              generalize fs[k].n = x2 at *
              generalize fs[k].c = x3 at *
              generalize fs[k].safe = x4 at *
              have ho1 := Lib.hid (ho.alloc (.cells #[.int .i64 x0, .slice x1 x2 x3, .int .i64 x4] 58))
              clear ho
              cases hh : has (idMap IDS) (kI x0)
              · have HH := Lib.hid hh
                have HN := Lib.hid (hBad.out hh)
                clear hh
                go_wp2_with (at_lookup; refine lookup_ids rfl _ _ rfl rfl ho1.out rfl hx.out HH.out ?_)
                go_wp2_with fail
                go_ret
                exact ansI_no HN.out (hb0.out.trans ((HB.out.alloc hz _).mono (by omega)))
              · have HH := Lib.hid hh
                have HG := Lib.hid (hUp.out hh)
                clear hh
                go_wp2_with (at_lookup; refine lookup_ids rfl _ _ rfl rfl ho1.out rfl hx.out HH.out ?_)
                go_wp2_with fail
                exact ⟨⟨k + 1, by omega, by go_num, ho1.out, HB.out.alloc hz _, HG⟩, by simp [intOf]; omega⟩
            · obtain rfl : nf = k := by omega
              have HAF := Lib.hid (show ∀ j (h : j < fs.length), has (idMap IDS) (kI fs[j].id) = true from fun j h => HA.out j h (by have := HFL.out; omega))
              have q3 : wr.cell? ⟨w.heap.size, 3, none⟩ = some (.slice F nf cf) := (hb.cell (p := ⟨w.heap.size, 3, none⟩) (by show w.heap.size < w.heap.size + 1; omega)).trans (hbC.out 3 _ rfl)
              have HO := Lib.hid ho
              have HB := Lib.hid (hb0.out.trans (hb.mono (by omega)))
              clear ho hb hlt hk
              generalize hSzz : Maps.size (idMap IDS) = S at *
              have HSS := Lib.hid hSzz
              clear hSzz
              generalize hLL : IDS.length = L at *
              clear hLL
              by_cases c1 : L = S
              · have d1 : ((L : Int) == (S : Int)) = true := by simp [c1]
                have d1' : (L == S) = true := by simp [c1]
                by_cases c2 : L = nf
                · have d2 : ((L : Int) == (nf : Int)) = true := by simp [c2]
                  have d2' : (L == nf) = true := by simp [c2]
                  have HFin := Lib.hid (HAll.out HAF.out c1 c2)
                  clear c1 c2
                  go_wp2_with (at_len; refine len_ids rfl _ rfl rfl HO.out HSS.out ?_)
                  go_wp2_with fail
                  go_ret
                  exact ansI_yes HFin.out HB.out
                · have d2 : ((L : Int) == (nf : Int)) = false := by simp; omega
                  have d2' : (L == nf) = false := by simp [c2]
                  have HFin := Lib.hid (HBad3.out c2)
                  clear c1 c2
                  go_wp2_with (at_len; refine len_ids rfl _ rfl rfl HO.out HSS.out ?_)
                  go_wp2_with fail
                  go_ret
                  exact ansI_no HFin.out HB.out
              · have d1 : ((L : Int) == (S : Int)) = false := by simp; omega
                have d1' : (L == S) = false := by simp [c1]
                have HFin := Lib.hid (HBad2.out c1)
                clear c1
                go_wp2_with (at_len; refine len_ids rfl _ rfl rfl HO.out HSS.out ?_)
                go_wp2_with fail
                go_ret
                exact ansI_no HFin.out HB.out
end Go.Proofs.YtfkdfabbpebljaaGreat.DOk
namespace Go.Proofs.YtfkdfabbpebljaaGreat.DOk
open Go.RowKit Go.Proofs.YtfkdfabbpebljaaGreat.Bytes Go.Proofs.YtfkdfabbpebljaaGreat.Rows_
set_option linter.unusedVariables false

def NumI (room fuse next : Int) : Prop := 0 ≤ room ∧ room ≤ 400000 ∧ -1 ≤ fuse ∧ fuse ≤ 1000 ∧ 1 ≤ next ∧ next ≤ 1000000
def OkI (room fuse next : Int) (fs : List FileD) (ks : List LinkD) (ts : List TurnD) : Prop :=
  NumI room fuse next ∧ FilesOkI room next fs ∧ (∀ j h, KeptAtI ks j h) ∧ TurnsOkI ks ts ∧ IdsOkI fs ks ts

set_option maxRecDepth 100000 in
set_option maxHeartbeats 6400000 in
theorem implOk_any (room fuse next : Int) (F : Option Addr) (nf cf : Nat) (K : Option Addr) (nk ck : Nat) (T : Option Addr) (nt ct : Nat) (fs : List FileD) (ks : List LinkD) (ts : List TurnD) (w : World)
    (hf : RdF w w.heap.size F fs) (hfl : fs.length = nf) (hfn : nf ≤ 2000000) (hfs : ∀ x ∈ fs, (Lit.int .i64 x.id).wf = true) (hu : usedD fs ≤ 1099511627776)
    (hk : RdL w w.heap.size K ks) (hkl : ks.length = nk) (hkn : nk ≤ 2000000) (hks : ∀ x ∈ ks, x.1.size ≤ maxLen ∧ (Lit.int .i64 x.2).wf = true)
    (ht : RdT w w.heap.size T ts) (htl : ts.length = nt) (htn : nt ≤ 2000000) (hts : ∀ x ∈ ts, x.name.size ≤ maxLen ∧ x.to_.size ≤ maxLen ∧ (Lit.int .i64 x.id).wf = true) :
    Calls Tryz.prog 32 #[.agg #[.int .i64 room, .int .i64 fuse, .int .i64 next, .slice F nf cf, .slice K nk ck, .slice T nt ct]] w (Ans' (OkI room fuse next fs ks ts) w.heap.size w) := by
  have hb0 := Lib.hid ((Below.refl w.heap.size w).alloc (Nat.le_refl _) (.cells #[.int .i64 room, .int .i64 fuse, .int .i64 next, .slice F nf cf, .slice K nk ck, .slice T nt ct] 36))
  have hbS := Lib.hid (show (w.alloc (.cells #[.int .i64 room, .int .i64 fuse, .int .i64 next, .slice F nf cf, .slice K nk ck, .slice T nt ct] 36)).heap.size = w.heap.size + 1 by simp)
  have hbC := Lib.hid (show ∀ j v, #[Value.int .i64 room, .int .i64 fuse, .int .i64 next, .slice F nf cf, .slice K nk ck, .slice T nt ct][j]? = some v → (w.alloc (.cells #[.int .i64 room, .int .i64 fuse, .int .i64 next, .slice F nf cf, .slice K nk ck, .slice T nt ct] 36)).cell? ⟨w.heap.size, j, none⟩ = some v from fun j v h => by rw [World.cell?_alloc_at _ _ _ _ rfl]; exact h)
  by_cases hd : NumI room fuse next
  · have HF := Lib.hid (fun W (h : RdF W W.heap.size F fs) => filesOk_any room fuse next F nf cf K nk ck T nt ct fs W h hfl (by omega) hu)
    have HK := Lib.hid (fun W (h : RdL W W.heap.size K ks) => keptOk_any K nk ck ks W h hkl (by omega) (fun x hx => (hks x hx).1))
    have HT := Lib.hid (fun W (h : RdL W W.heap.size K ks) (h' : RdT W W.heap.size T ts) => turnsOk_any K nk ck T nt ct ks ts W h hkl hkn hks h' htl hts)
    have HI := Lib.hid (fun W (h : RdF W W.heap.size F fs) (h' : RdL W W.heap.size K ks) (h'' : RdT W W.heap.size T ts) => idsOk_any room fuse next F nf cf K nk ck T nt ct fs ks ts W h hfl hfn hfs h' hkl hkn (fun x hx => (hks x hx).2) h'' htl htn (fun x hx => (hts x hx).2.2))
    have RF := Lib.hid (fun W (h : Below w.heap.size w W) => (hf.below (Nat.le_refl _) h).more h.size)
    have RL := Lib.hid (fun W (h : Below w.heap.size w W) => (hk.below (Nat.le_refl _) h).more h.size)
    have RT := Lib.hid (fun W (h : Below w.heap.size w W) => (ht.below (Nat.le_refl _) h).more h.size)
    have HB1 := Lib.hid (show ¬ FilesOkI room next fs → ¬ OkI room fuse next fs ks ts from fun a b => a b.2.1)
    have HB2 := Lib.hid (show ¬ (∀ j h, KeptAtI ks j h) → ¬ OkI room fuse next fs ks ts from fun a b => a b.2.2.1)
    have HB3 := Lib.hid (show ¬ TurnsOkI ks ts → ¬ OkI room fuse next fs ks ts from fun a b => a b.2.2.2.1)
    have HB4 := Lib.hid (show ¬ IdsOkI fs ks ts → ¬ OkI room fuse next fs ks ts from fun a b => a b.2.2.2.2)
    have HAll := Lib.hid (show FilesOkI room next fs → (∀ j h, KeptAtI ks j h) → TurnsOkI ks ts → IdsOkI fs ks ts → OkI room fuse next fs ks ts from fun a b c d => ⟨hd, a, b, c, d⟩)
    obtain ⟨n0, n1, n2, n3, n4, n5⟩ := hd
    clear hf hfl hfs hu hk hkl hks ht htl hts
    go_enter Tryz.func32, Tryz.ntmps32
    go_wp2_with fail
    refine (HF.out _ (RF.out _ hb0.out)).mono ?_
    rintro e v1 ⟨b1, rfl, i1, hb1⟩
    have I1 := Lib.hid i1
    have hbm1 : Below (w.heap.size + 1) _ v1 := hb1.mono (by simp)
    have hcell1 : ∀ j v, #[Value.int .i64 room, .int .i64 fuse, .int .i64 next, .slice F nf cf, .slice K nk ck, .slice T nt ct][j]? = some v → v1.cell? ⟨w.heap.size, j, none⟩ = some v := fun j v h => (hbm1.cell (p := ⟨w.heap.size, j, none⟩) (by show w.heap.size < w.heap.size + 1; omega)).trans (hbC.out j v h)
    have BW1 := Lib.hid (hb0.out.trans (hbm1.mono (by omega)))
    have HC1 := Lib.hid hcell1
    have hz1 : w.heap.size < v1.heap.size := by have := hb1.size; simp at this; omega
    have p4 := hcell1 4 _ rfl
    have p5 := hcell1 5 _ rfl
    clear hb1 hbm1 hcell1 i1
    cases b1
    · have HN := Lib.hid (HB1.out (fun h => by have := I1.out.2 h; cases this))
      go_wp2_with fail
      go_ret
      exact ansI_no HN.out BW1.out
    · have P1 := Lib.hid (I1.out.1 rfl)
      go_wp2_with fail
      refine (HK.out _ (RL.out _ BW1.out)).mono ?_
      rintro e v2 ⟨b2, rfl, i2, hb2⟩
      have I2 := Lib.hid i2
      have hcell2 : ∀ j v, #[Value.int .i64 room, .int .i64 fuse, .int .i64 next, .slice F nf cf, .slice K nk ck, .slice T nt ct][j]? = some v → v2.cell? ⟨w.heap.size, j, none⟩ = some v := fun j v h => (hb2.cell (p := ⟨w.heap.size, j, none⟩) hz1).trans (HC1.out j v h)
      have BW2 := Lib.hid (BW1.out.trans (hb2.mono (by omega)))
      have HC2 := Lib.hid hcell2
      have hz2 : w.heap.size < v2.heap.size := by have := hb2.size; omega
      clear p4 p5
      have p4 := hcell2 4 _ rfl
      have p5 := hcell2 5 _ rfl
      clear hb2 hcell2 i2
      cases b2
      · have HN := Lib.hid (HB2.out (fun h => by have := I2.out.2 h; cases this))
        go_wp2_with fail
        go_ret
        exact ansI_no HN.out BW2.out
      · have P2 := Lib.hid (I2.out.1 rfl)
        go_wp2_with fail
        refine (HT.out _ (RL.out _ BW2.out) (RT.out _ BW2.out)).mono ?_
        rintro e v3 ⟨b3, rfl, i3, hb3⟩
        have I3 := Lib.hid i3
        have hcell3 : ∀ j v, #[Value.int .i64 room, .int .i64 fuse, .int .i64 next, .slice F nf cf, .slice K nk ck, .slice T nt ct][j]? = some v → v3.cell? ⟨w.heap.size, j, none⟩ = some v := fun j v h => (hb3.cell (p := ⟨w.heap.size, j, none⟩) hz2).trans (HC2.out j v h)
        have BW3 := Lib.hid (BW2.out.trans (hb3.mono (by omega)))
        clear p4 p5
        have p0 := hcell3 0 _ rfl
        have p1 := hcell3 1 _ rfl
        have p2 := hcell3 2 _ rfl
        have p3 := hcell3 3 _ rfl
        have p4 := hcell3 4 _ rfl
        have p5 := hcell3 5 _ rfl
        clear hb3 hcell3 i3
        cases b3
        · have HN := Lib.hid (HB3.out (fun h => by have := I3.out.2 h; cases this))
          go_wp2_with fail
          go_ret
          exact ansI_no HN.out BW3.out
        · have P3 := Lib.hid (I3.out.1 rfl)
          go_wp2_with fail
          refine (HI.out _ (RF.out _ BW3.out) (RL.out _ BW3.out) (RT.out _ BW3.out)).mono ?_
          rintro e v4 ⟨b4, rfl, i4, hb4⟩
          have I4 := Lib.hid i4
          have hz3 : w.heap.size ≤ v3.heap.size := BW3.out.size
          have BW4 := Lib.hid (BW3.out.trans (hb4.mono (by omega)))
          clear hb4 i4 p0 p1 p2 p3 p4 p5
          cases b4
          · have HN := Lib.hid (HB4.out (fun h => by have := I4.out.2 h; cases this))
            go_wp2_with fail
            go_ret
            exact ansI_no HN.out BW4.out
          · have P4 := Lib.hid (I4.out.1 rfl)
            have HY := Lib.hid (HAll.out P1.out P2.out P3.out P4.out)
            go_wp2_with fail
            go_ret
            exact ansI_yes HY.out BW4.out
  · have HN := Lib.hid (show ¬ OkI room fuse next fs ks ts from fun h => hd h.1)
    have hd' : ¬ (0 ≤ room ∧ room ≤ 400000 ∧ -1 ≤ fuse ∧ fuse ≤ 1000 ∧ 1 ≤ next ∧ next ≤ 1000000) := hd
    have HD := Lib.hid hd'
    clear hd hd' hf hfl hfs hu hk hkl hks ht htl hts
    go_enter Tryz.func32, Tryz.ntmps32
    go_wp2_with fail
    all_goals first
      | (exfalso; have h := HD.out; omega)
      | (go_ret; exact ansI_no HN.out hb0.out)
end Go.Proofs.YtfkdfabbpebljaaGreat.DOk
