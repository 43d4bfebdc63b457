/- Texts that lay in modules of their own: With, TurnS, TurnD. -/
import Derived.Test.YtfkdfabbpebljaaGreatKitA
import Derived.Test.YtfkdfabbpebljaaGreatNameOk
import Derived.Deep.RegionWith
namespace Go.Proofs.YtfkdfabbpebljaaGreat.DOk
open Go.RowKit Go.Proofs.YtfkdfabbpebljaaGreat.Bytes Go.Proofs.YtfkdfabbpebljaaGreat.Rows_
set_option linter.unusedVariables false

def gtB (a b : List UInt8) : Bool := !(Op.bytesLess a b || a == b)
def withStep (s : ByteArray) (id : Int) (acc : List LinkD × Bool) (x : LinkD) : List LinkD × Bool :=
  if (!acc.2 && gtB x.1.toList s.toList) = true then (acc.1 ++ [(s, id)] ++ [(x.1, x.2)], true) else (acc.1 ++ [(x.1, x.2)], acc.2)
def withGo (s : ByteArray) (id : Int) (ks : List LinkD) : List LinkD × Bool := ks.foldl (withStep s id) ([], false)
def withD (ks : List LinkD) (s : ByteArray) (id : Int) : List LinkD := if (withGo s id ks).2 = true then (withGo s id ks).1 else (withGo s id ks).1 ++ [(s, id)]
theorem withGo_snoc (s : ByteArray) (id : Int) (ks : List LinkD) (k : Nat) (h : k < ks.length) : withGo s id (ks.take (k + 1)) = withStep s id (withGo s id (ks.take k)) ks[k] := by
  rw [List.take_succ_eq_append_getElem h]; unfold withGo; rw [List.foldl_append]; rfl
theorem withGo_len (s : ByteArray) (id : Int) : ∀ (ks : List LinkD) (acc : List LinkD × Bool), (ks.foldl (withStep s id) acc).1.length + (if (ks.foldl (withStep s id) acc).2 = true then 0 else 1) = acc.1.length + (if acc.2 = true then 0 else 1) + ks.length
  | [], acc => by rw [List.foldl_nil, List.length_nil, Nat.add_zero]
  | x :: r, acc => by
    rw [List.foldl_cons, withGo_len s id r]
    unfold withStep
    obtain ⟨l, d⟩ := acc
    cases d <;> cases hg : gtB x.1.toList s.toList <;> simp <;> omega
theorem withGo_le (s : ByteArray) (id : Int) (ks : List LinkD) : (withGo s id ks).1.length ≤ ks.length + 1 := by
  have := withGo_len s id ks ([], false)
  unfold withGo
  simp at this
  omega
theorem withD_len (ks : List LinkD) (s : ByteArray) (id : Int) : (withD ks s id).length = ks.length + 1 := by
  have := withGo_len s id ks ([], false)
  unfold withD withGo
  simp at this
  split <;> rename_i h <;> simp [h] at this ⊢ <;> omega

set_option maxRecDepth 100000 in
set_option maxHeartbeats 3200000 in
theorem l02With_any (A : Option Addr) (n c : Nat) (ks : List LinkD) (s : ByteArray) (id : Int) (w : World) (hr : RdL w w.heap.size A ks) (hl : ks.length = n) (hn : n ≤ 1099511627776) :
    Calls Tryz.prog 80 #[.slice A n c, .string s, .int .i64 id] w fun e w' => ∃ A' c', e = .returned (.slice A' (n + 1) c') ∧ OwnL w' w.heap.size A' (n + 1) c' (withD ks s id) ∧ Below w.heap.size w w' := by
  have HL := Lib.hid hl
  have HR := Lib.hid hr
  clear hl hr
  go_enter Tryz.func80, Tryz.ntmps80
  go_wp2_with fail
  go_loopw [7, 8, 14] (fun v d i wr => ∃ k A' c', k ≤ n ∧ i = .int .i64 (k : Nat) ∧ d = .bool (withGo s id (ks.take k)).2 ∧ v = .slice A' (withGo s id (ks.take k)).1.length c' ∧ OwnL wr w.heap.size A' (withGo s id (ks.take k)).1.length c' (withGo s id (ks.take k)).1 ∧ Below w.heap.size w wr) (fun _ _ i _ => n - (intOf i).toNat)
  case atStart => exact ⟨0, _, _, Nat.zero_le _, rfl, rfl, rfl, own_empty w _ _, (Below.refl _ _).alloc (Nat.le_refl _) _⟩
  case round =>
    obtain ⟨k, A', c', hk, rfl, rfl, rfl, ho, hb⟩ := hrel
    have hz : w.heap.size ≤ wr.heap.size := hb.size
    have hle : (withGo s id (ks.take k)).1.length ≤ k + 1 := by have := withGo_le s id (ks.take k); have := take_le' ks k; omega
    by_cases hlt : k < n
    · have hlt' : k < ks.length := by rw [HL.out]; exact hlt
      have hS := withGo_snoc s id ks k hlt'
      obtain ⟨b, o, rfl, hB, hc0, hc1⟩ := (HR.out.below (Nat.le_refl _) hb).at_ hlt'
      have HB := Lib.hid hb
      clear hb
      generalize hL : withGo s id (ks.take k) = L at *
      obtain ⟨L, d⟩ := L
      simp only at ho hle
      cases d
      · cases h1 : Op.bytesLess ks[k].1.toList s.toList <;> cases h2 : (ks[k].1.toList == s.toList)
        · have HS := Lib.hid (show withGo s id (ks.take (k + 1)) = (L ++ [(s, id)] ++ [(ks[k].1, ks[k].2)], true) by rw [hS]; unfold withStep gtB; rw [h1, h2]; rfl)
          clear hS
          generalize ks[k].1 = nm at *
          generalize ks[k].2 = kid at *
          have ho1 := ho.alloc (.cells #[.string nm, .int .i64 kid] 86)
          go_wp2_with (at_builtin; refine append_link rfl _ _ rfl rfl (wr.heap.size + 1) rfl (by simp) ho1 (by omega) (by simp; omega) ?_)
          intro A2 c2 w2 ho2 hb2 hg2
          have HB2 := Lib.hid ((HB.out.alloc hz _).trans hb2)
          have hne : some wr.heap.size ≠ (Value.slice A' L.length c').ownBlock := fun e => by have := (ho.blk _ e.symm).2; omega
          have q0 : w2.cell? ⟨wr.heap.size, 0, none⟩ = some (.string nm) := hg2.cell (a := ⟨wr.heap.size, 0, none⟩) (by simp) hne
          have q1 : w2.cell? ⟨wr.heap.size, 1, none⟩ = some (.int .i64 kid) := hg2.cell (a := ⟨wr.heap.size, 1, none⟩) (by simp) hne
          have hz2 : w.heap.size ≤ w2.heap.size := HB2.out.size
          clear ho ho1 hb2 hg2 hne
          go_wp2_with (at_builtin; refine append_link rfl _ _ rfl rfl w2.heap.size rfl rfl ho2 (by omega) hz2 ?_)
          intro A3 c3 w3 ho3 hb3 hg3
          have HO := Lib.hid (show OwnL w3 w.heap.size A3 (withGo s id (ks.take (k + 1))).1.length c3 (withGo s id (ks.take (k + 1))).1 by rw [HS.out]; simp only [List.append_assoc, List.cons_append, List.nil_append, List.length_append, List.length_cons, List.length_nil]; exact ho3)
          have HN := Lib.hid (show L.length + 1 + 1 = (withGo s id (ks.take (k + 1))).1.length by rw [HS.out, List.length_append, List.length_append]; rfl)
          have HD := Lib.hid (show (true : Bool) = (withGo s id (ks.take (k + 1))).2 by rw [HS.out])
          have HB3 := Lib.hid (HB2.out.trans hb3)
          clear ho2 ho3 hb3 hg3 q0 q1
          go_wp2_with fail
          exact ⟨⟨k + 1, A3, c3, by omega, by go_num, by rw [HD.out], by rw [HN.out], HO.out, HB3.out⟩, by simp [intOf]; omega⟩
        all_goals
          have HS := Lib.hid (show withGo s id (ks.take (k + 1)) = (L ++ [(ks[k].1, ks[k].2)], false) by rw [hS]; unfold withStep gtB; rw [h1, h2]; rfl)
          clear hS
          generalize ks[k].1 = nm at *
          generalize ks[k].2 = kid at *
          have ho1 := ho.alloc (.cells #[.string nm, .int .i64 kid] 86)
          go_wp2_with (at_builtin; refine append_link rfl _ _ rfl rfl (wr.heap.size + 1) rfl (by simp) ho1 (by omega) (by simp; omega) ?_)
          intro A3 c3 w3 ho3 hb3 hg3
          have HO := Lib.hid (show OwnL w3 w.heap.size A3 (withGo s id (ks.take (k + 1))).1.length c3 (withGo s id (ks.take (k + 1))).1 by rw [HS.out, List.length_append]; exact ho3)
          have HN := Lib.hid (show L.length + 1 = (withGo s id (ks.take (k + 1))).1.length by rw [HS.out, List.length_append]; rfl)
          have HD := Lib.hid (show (false : Bool) = (withGo s id (ks.take (k + 1))).2 by rw [HS.out])
          have HB3 := Lib.hid ((HB.out.alloc hz _).trans hb3)
          clear ho ho1 ho3 hb3 hg3
          go_wp2_with fail
          exact ⟨⟨k + 1, A3, c3, by omega, by go_num, by rw [HD.out], by rw [HN.out], HO.out, HB3.out⟩, by simp [intOf]; omega⟩
      · have HS := Lib.hid (show withGo s id (ks.take (k + 1)) = (L ++ [(ks[k].1, ks[k].2)], true) by rw [hS]; unfold withStep; rfl)
        clear hS
        generalize ks[k].1 = nm at *
        generalize ks[k].2 = kid at *
        have ho1 := ho.alloc (.cells #[.string nm, .int .i64 kid] 86)
        go_wp2_with (at_builtin; refine append_link rfl _ _ rfl rfl (wr.heap.size + 1) rfl (by simp) ho1 (by omega) (by simp; omega) ?_)
        intro A3 c3 w3 ho3 hb3 hg3
        have HO := Lib.hid (show OwnL w3 w.heap.size A3 (withGo s id (ks.take (k + 1))).1.length c3 (withGo s id (ks.take (k + 1))).1 by rw [HS.out, List.length_append]; exact ho3)
        have HN := Lib.hid (show L.length + 1 = (withGo s id (ks.take (k + 1))).1.length by rw [HS.out, List.length_append]; rfl)
        have HD := Lib.hid (show (true : Bool) = (withGo s id (ks.take (k + 1))).2 by rw [HS.out])
        have HB3 := Lib.hid ((HB.out.alloc hz _).trans hb3)
        clear ho ho1 ho3 hb3 hg3
        go_wp2_with fail
        exact ⟨⟨k + 1, A3, c3, by omega, by go_num, by rw [HD.out], by rw [HN.out], HO.out, HB3.out⟩, by simp [intOf]; omega⟩
    · obtain rfl : n = k := by omega
      have e : ks.take n = ks := List.take_of_length_le (by rw [HL.out]; exact Nat.le_refl _)
      have hW := withD_len ks s id
      rw [HL.out] at hW
      have hWD : withD ks s id = if (withGo s id ks).2 = true then (withGo s id ks).1 else (withGo s id ks).1 ++ [(s, id)] := rfl
      rw [e] at ho hle ⊢
      generalize hL : withGo s id ks = L at *
      obtain ⟨L, d⟩ := L
      simp only at ho hle
      have HB := Lib.hid hb
      clear hb
      cases d
      · have HW := Lib.hid (show withD ks s id = L ++ [(s, id)] from hWD)
        have hlen : L.length + 1 = n + 1 := by rw [HW.out, List.length_append] at hW; simpa using hW
        have HN := Lib.hid hlen
        clear hWD hL hW hlen
        go_wp2_with (at_builtin; refine append_link rfl _ _ rfl rfl wr.heap.size rfl rfl ho (by omega) hz ?_)
        intro A3 c3 w3 ho3 hb3 hg3
        have HO := Lib.hid (show OwnL w3 w.heap.size A3 (n + 1) c3 (withD ks s id) by rw [HW.out, ← HN.out]; exact ho3)
        have HB3 := Lib.hid (HB.out.trans hb3)
        clear ho ho3 hb3 hg3
        go_wp2_with fail
        go_ret
        exact ⟨A3, c3, Eq.trans rfl (congrArg (fun m => Ending.returned (Value.slice A3 m c3)) HN.out), HO.out, HB3.out⟩
      · have HW := Lib.hid (show withD ks s id = L from hWD)
        have HN := Lib.hid (show L.length = n + 1 by rw [HW.out] at hW; exact hW)
        have HO := Lib.hid (show OwnL wr w.heap.size A' (n + 1) c' (withD ks s id) by rw [HW.out, ← HN.out]; exact ho)
        clear hWD hL hW ho
        go_wp2_with fail
        go_ret
        exact ⟨A', c', Eq.trans rfl (congrArg (fun m => Ending.returned (Value.slice A' m c')) HN.out), HO.out, HB.out⟩
end Go.Proofs.YtfkdfabbpebljaaGreat.DOk
namespace Go.Proofs.YtfkdfabbpebljaaGreat.DOk
open Go.RowKit Go.Proofs.YtfkdfabbpebljaaGreat.Bytes Go.Proofs.YtfkdfabbpebljaaGreat.Rows_
open Go.Proofs.YtfkdfabbpebljaaGreat.Made (madeB nb)
set_option linter.unusedVariables false

def tokS (there nk tk te eq : Bool) (kind id : Int) : Bool :=
  nk && (if kind = 1 then te && decide (0 < id) && !there else if kind = 4 then tk && !eq && decide (id = 0) && there else if kind = 5 then te && decide (id = 0) && there else false)
def turnOkS (ks : List LinkD) (t : TurnD) : Bool :=
  tokS (decide (0 < findD ks t.name.toList)) (madeB nb 16 t.name.data.toList) (madeB nb 16 t.to_.data.toList) t.to_.toList.isEmpty (t.to_.toList == t.name.toList) t.kind t.id
theorem tokS_no {nk tk te eq there : Bool} {kind id : Int} (h1 : kind ≠ 1) (h4 : kind ≠ 4) (h5 : kind ≠ 5) : tokS there nk tk te eq kind id = false := by
  unfold tokS; rw [if_neg h1, if_neg h4, if_neg h5]; simp

set_option maxRecDepth 100000 in
set_option maxHeartbeats 3200000 in
theorem l02TurnOk_any (A : Option Addr) (n c : Nat) (ks : List LinkD) (kind : Int) (name to_ : ByteArray) (id : Int) (w : World) (hr : RdL w w.heap.size A ks) (hl : ks.length = n) (hn : n ≤ 1099511627776) (h1 : name.size ≤ maxLen) (h2 : to_.size ≤ maxLen) :
    Calls Tryz.prog 55 #[.slice A n c, .agg #[.int .i64 kind, .string name, .string to_, .int .i64 id]] w fun e w' => e = .returned (.bool (turnOkS ks ⟨kind, name, to_, id⟩)) ∧ Below w.heap.size w w' := by
  have hF := Lib.hid (fun W (h : RdL W W.heap.size A ks) => l02Find_any A n c ks name W h hl hn)
  have hN := Lib.hid (fun W => fnExactNameOk.spec_any name W h1)
  have hT := Lib.hid (fun W => fnExactNameOk.spec_any to_ W h2)
  have HR := Lib.hid hr
  unfold turnOkS
  simp only
  generalize findD ks name.toList = f at *
  generalize madeB nb 16 name.data.toList = nk at *
  generalize madeB nb 16 to_.data.toList = tk at *
  clear hl hr h1 h2
  have hb0 := Lib.hid ((Below.refl w.heap.size w).alloc (Nat.le_refl _) (.cells #[.int .i64 kind, .string name, .string to_, .int .i64 id] 60))
  by_cases hf : 0 < f
  all_goals
    have hfd : decide (0 < f) = decide (0 < f) := rfl
    first | rw [decide_eq_true hf] | rw [decide_eq_false hf]
    go_enter Tryz.func55, Tryz.ntmps55
    go_wp2_with fail
    refine (hF.out _ ((HR.out.below (Nat.le_refl _) hb0.out).more (by simp))).mono ?_
    rintro e v1 ⟨rfl, hb1⟩
    obtain ⟨hc1, _⟩ := bcell hb1
    have hz1 : w.heap.size < v1.heap.size := by have := hb1.size; simp at this; omega
    have q0 : v1.cell? ⟨w.heap.size, 0, none⟩ = some (.int .i64 kind) := by rw [hc1 _ _ (by simp), World.cell?_alloc_at _ _ _ _ rfl]; rfl
    have q1 : v1.cell? ⟨w.heap.size, 1, none⟩ = some (.string name) := by rw [hc1 _ _ (by simp), World.cell?_alloc_at _ _ _ _ rfl]; rfl
    have q2 : v1.cell? ⟨w.heap.size, 2, none⟩ = some (.string to_) := by rw [hc1 _ _ (by simp), World.cell?_alloc_at _ _ _ _ rfl]; rfl
    have q3 : v1.cell? ⟨w.heap.size, 3, none⟩ = some (.int .i64 id) := by rw [hc1 _ _ (by simp), World.cell?_alloc_at _ _ _ _ rfl]; rfl
    have HB1 := Lib.hid (hb0.out.trans (hb1.mono (by simp)))
    clear hb1 hc1 hfd
    go_wp2_with fail
    refine (hN.out _).mono ?_
    rintro e w' ⟨rfl, rfl⟩
    cases nk
    · go_wp2_with fail
      go_ret
      exact ⟨ret_bool (by simp [tokS]), HB1.out⟩
    · by_cases k1 : kind = 1
      · subst k1
        go_wp2_with fail
        all_goals (first | (exfalso; omega) | (go_ret; exact ⟨ret_bool (by unfold tokS; simp_all), HB1.out⟩))
      · by_cases k4 : kind = 4
        · subst k4
          go_wp2_with fail
          refine (hT.out _).mono ?_
          rintro e w' ⟨rfl, rfl⟩
          cases tk
          · go_wp2_with fail
            go_ret
            exact ⟨ret_bool (by simp [tokS]), HB1.out⟩
          · cases heq : (to_.toList == name.toList)
            all_goals
              have hne : (!(to_.toList == name.toList)) = !(to_.toList == name.toList) := rfl
              go_wp2_with fail
              all_goals (first | (exfalso; omega) | (go_ret; exact ⟨ret_bool (by unfold tokS; simp_all), HB1.out⟩))
        · by_cases k5 : kind = 5
          · subst k5
            go_wp2_with fail
            all_goals (first | (exfalso; omega) | (go_ret; exact ⟨ret_bool (by unfold tokS; simp_all), HB1.out⟩))
          · have HV := Lib.hid (tokS_no (nk := true) (tk := tk) (te := to_.toList.isEmpty) (eq := to_.toList == name.toList) (there := decide (0 < f)) (id := id) k1 k4 k5)
            have e1 : (kind == 1) = false := by simp; omega
            have e4 : (kind == 4) = false := by simp; omega
            have e5 : (kind == 5) = false := by simp; omega
            clear k1 k4 k5
            first | (rw [decide_eq_true hf] at HV) | (rw [decide_eq_false (by omega : ¬ 0 < f)] at HV)
            go_wp2_with fail
            go_ret
            exact ⟨ret_bool HV.out.symm, HB1.out⟩
end Go.Proofs.YtfkdfabbpebljaaGreat.DOk
namespace Go.Proofs.YtfkdfabbpebljaaGreat.DOk
open Go.RowKit Go.Proofs.YtfkdfabbpebljaaGreat.Bytes Go.Proofs.YtfkdfabbpebljaaGreat.Rows_
set_option linter.unusedVariables false

def turnD (ks : List LinkD) (t : TurnD) : List LinkD :=
  if t.kind = 1 then withD ks t.name t.id
  else if t.kind = 4 then withD (lessD (lessD ks t.name.toList) t.to_.toList) t.to_ (findD ks t.name.toList) else lessD ks t.name.toList
theorem turnD_le (ks : List LinkD) (t : TurnD) : (turnD ks t).length ≤ ks.length + 1 := by
  unfold turnD
  split
  · rw [withD_len]; exact Nat.le_refl _
  · split
    · rw [withD_len]; have := lessD_le (lessD ks t.name.toList) t.to_.toList; have := lessD_le ks t.name.toList; omega
    · have := lessD_le ks t.name.toList; omega
theorem OwnL.rdB {w w' : World} {base B : Nat} {A : Option Addr} {n c : Nat} {ks : List LinkD} (h : OwnL w base A n c ks) (hb : Below w.heap.size w w') : RdL w' w'.heap.size A ks :=
  (h.rd.below (Nat.le_refl _) hb).more hb.size

set_option maxRecDepth 100000 in
set_option maxHeartbeats 3200000 in
theorem l02Turn_any (A : Option Addr) (n c : Nat) (ks : List LinkD) (kind : Int) (name to_ : ByteArray) (id : Int) (w : World) (hr : RdL w w.heap.size A ks) (hl : ks.length = n) (hn : n ≤ 1000000) :
    Calls Tryz.prog 56 #[.slice A n c, .agg #[.int .i64 kind, .string name, .string to_, .int .i64 id]] w fun e w' => ∃ A' c', e = .returned (.slice A' (turnD ks ⟨kind, name, to_, id⟩).length c') ∧ OwnL w' w.heap.size A' (turnD ks ⟨kind, name, to_, id⟩).length c' (turnD ks ⟨kind, name, to_, id⟩) ∧ Below w.heap.size w w' := by
  have hb0 := Lib.hid ((Below.refl w.heap.size w).alloc (Nat.le_refl _) (.cells #[.int .i64 kind, .string name, .string to_, .int .i64 id] 60))
  have HR := Lib.hid hr
  have HL := Lib.hid hl
  by_cases k1 : kind = 1
  · subst k1
    have hT : turnD ks ⟨1, name, to_, id⟩ = withD ks name id := by simp [turnD]
    have hlen := withD_len ks name id
    rw [hl] at hlen
    rw [hT, hlen]
    have hW := Lib.hid (fun W (h : RdL W W.heap.size A ks) => l02With_any A n c ks name id W h hl (by omega))
    clear hl hr hT hlen
    go_enter Tryz.func56, Tryz.ntmps56
    go_wp2_with fail
    refine (hW.out _ ((HR.out.below (Nat.le_refl _) hb0.out).more (by simp))).mono ?_
    rintro e v1 ⟨A1, c1, rfl, ho1, hb1⟩
    have HO := Lib.hid (ho1.more (base' := w.heap.size) (by simp))
    have HB := Lib.hid (hb0.out.trans (hb1.mono (by simp)))
    clear ho1 hb1
    go_wp2_with fail
    go_ret
    exact ⟨_, _, rfl, HO.out, HB.out⟩
  · have e1 : (kind == 1) = false := by simp; omega
    have hF := Lib.hid (fun W (h : RdL W W.heap.size A ks) => l02Find_any A n c ks name W h hl (by omega))
    have hS := Lib.hid (fun W (h : RdL W W.heap.size A ks) => l02Less_any A n c ks name W h hl (by omega))
    by_cases k4 : kind = 4
    · subst k4
      have hT : turnD ks ⟨4, name, to_, id⟩ = withD (lessD (lessD ks name.toList) to_.toList) to_ (findD ks name.toList) := by simp [turnD]
      rw [hT]
      have hle : (lessD ks name.toList).length ≤ n := by rw [← hl]; exact lessD_le _ _
      have hle2 : (lessD (lessD ks name.toList) to_.toList).length ≤ (lessD ks name.toList).length := lessD_le _ _
      have hlen := Lib.hid (withD_len (lessD (lessD ks name.toList) to_.toList) to_ (findD ks name.toList))
      generalize findD ks name.toList = f at *
      have hS2 := Lib.hid (fun W A' c' (h : RdL W W.heap.size A' (lessD ks name.toList)) => l02Less_any A' (lessD ks name.toList).length c' (lessD ks name.toList) to_ W h rfl (by omega))
      have hW := Lib.hid (fun W A' c' (h : RdL W W.heap.size A' (lessD (lessD ks name.toList) to_.toList)) => l02With_any A' (lessD (lessD ks name.toList) to_.toList).length c' (lessD (lessD ks name.toList) to_.toList) to_ f W h rfl (by omega))
      generalize lessD ks name.toList = L1 at *
      generalize hL2 : lessD L1 to_.toList = L2 at *
      clear hl hr hT k1 hL2
      go_enter Tryz.func56, Tryz.ntmps56
      go_wp2_with fail
      refine (hF.out _ ((HR.out.below (Nat.le_refl _) hb0.out).more (by simp))).mono ?_
      rintro e v1 ⟨rfl, hb1⟩
      obtain ⟨hc1, _⟩ := bcell hb1
      have hz1 : w.heap.size < v1.heap.size := by have := hb1.size; simp at this; omega
      have q1 : v1.cell? ⟨w.heap.size, 1, none⟩ = some (.string name) := by rw [hc1 _ _ (by simp), World.cell?_alloc_at _ _ _ _ rfl]; rfl
      have q0 : v1.cell? ⟨w.heap.size, 0, none⟩ = some (.int .i64 4) := by rw [hc1 _ _ (by simp), World.cell?_alloc_at _ _ _ _ rfl]; rfl
      have q2 : v1.cell? ⟨w.heap.size, 2, none⟩ = some (.string to_) := by rw [hc1 _ _ (by simp), World.cell?_alloc_at _ _ _ _ rfl]; rfl
      have HB1 := Lib.hid (hb0.out.trans (hb1.mono (by simp)))
      clear hb1 hc1
      go_wp2_with fail
      refine (hS.out _ ((HR.out.below (Nat.le_refl _) HB1.out).more (by omega))).mono ?_
      rintro e v2 ⟨A2, c2, rfl, ho2, hb2⟩
      have p0 : v2.cell? ⟨w.heap.size, 0, none⟩ = some (.int .i64 4) := (hb2.cell (p := ⟨w.heap.size, 0, none⟩) hz1).trans q0
      have p2 : v2.cell? ⟨w.heap.size, 2, none⟩ = some (.string to_) := (hb2.cell (p := ⟨w.heap.size, 2, none⟩) hz1).trans q2
      have HB2 := Lib.hid (HB1.out.trans (hb2.mono (by omega)))
      have HO2 := Lib.hid ho2.rd
      have hz2 : w.heap.size < v2.heap.size := by have := hb2.size; omega
      clear q0 q1 q2 ho2 hb2
      go_wp2_with fail
      go_region_with (first
        | (go_at_call 81; refine (hS2.out _ A2 c2 ?_).mono ?_; exact HO2.out; rintro e v3 ⟨A3, c3, rfl, ho3, hb3'⟩; have hb3 : Below v2.heap.size v2 v3 := undrew hb3'; clear hb3'; have HO3 := Lib.hid ho3.rd; have HB3 := Lib.hid (HB2.out.trans (hb3.mono (by omega))); have r2 : v3.cell? ⟨w.heap.size, 2, none⟩ = some (.string to_) := (hb3.cell (p := ⟨w.heap.size, 2, none⟩) hz2).trans p2; have hz3 : w.heap.size < v3.heap.size := (by have := hb3.size; omega); clear ho3 hb3)
        | (go_at_call 80; refine (hW.out _ _ _ ?_).mono ?_; exact HO3.out; rintro e v4 ⟨A4, c4, rfl, ho4, hb4⟩))
      all_goals
        have HO4 := Lib.hid (ho4.more (base' := w.heap.size) (by omega))
        have HB4 := Lib.hid (HB3.out.trans (hb4.mono (by omega)))
        clear ho4 hb4
        go_wp2_with fail
        go_ret
        exact ⟨_, _, Eq.trans rfl (congrArg (fun m => Ending.returned (Value.slice A4 m c4)) hlen.out.symm), by rw [hlen.out]; exact HO4.out, HB4.out⟩
    · have e4 : (kind == 4) = false := by simp; omega
      have hT : turnD ks ⟨kind, name, to_, id⟩ = lessD ks name.toList := by simp [turnD, k1, k4]
      rw [hT]
      have hle : (lessD ks name.toList).length ≤ n := by rw [← hl]; exact lessD_le _ _
      generalize findD ks name.toList = f at *
      generalize lessD ks name.toList = L1 at *
      clear hl hr hT k1 k4
      go_enter Tryz.func56, Tryz.ntmps56
      go_wp2_with fail
      refine (hF.out _ ((HR.out.below (Nat.le_refl _) hb0.out).more (by simp))).mono ?_
      rintro e v1 ⟨rfl, hb1⟩
      obtain ⟨hc1, _⟩ := bcell hb1
      have hz1 : w.heap.size < v1.heap.size := by have := hb1.size; simp at this; omega
      have q1 : v1.cell? ⟨w.heap.size, 1, none⟩ = some (.string name) := by rw [hc1 _ _ (by simp), World.cell?_alloc_at _ _ _ _ rfl]; rfl
      have q0 : v1.cell? ⟨w.heap.size, 0, none⟩ = some (.int .i64 kind) := by rw [hc1 _ _ (by simp), World.cell?_alloc_at _ _ _ _ rfl]; rfl
      have HB1 := Lib.hid (hb0.out.trans (hb1.mono (by simp)))
      clear hb1 hc1
      go_wp2_with fail
      refine (hS.out _ ((HR.out.below (Nat.le_refl _) HB1.out).more (by omega))).mono ?_
      rintro e v2 ⟨A2, c2, rfl, ho2, hb2⟩
      have p0 : v2.cell? ⟨w.heap.size, 0, none⟩ = some (.int .i64 kind) := (hb2.cell (p := ⟨w.heap.size, 0, none⟩) hz1).trans q0
      have HB2 := Lib.hid (HB1.out.trans (hb2.mono (by omega)))
      have HO2 := Lib.hid (ho2.more (base' := w.heap.size) (by omega))
      clear q0 q1 ho2 hb2
      go_wp2_with fail
      go_ret
      exact ⟨_, _, rfl, HO2.out, HB2.out⟩
end Go.Proofs.YtfkdfabbpebljaaGreat.DOk
