/- The laws' helpers that bound, mark and check loads: what they answer, what the marking writes and what it leaves alone. -/
import Derived.Test.YteiojpglhmikoaaLoads
namespace Go.Proofs.Yteiojpglhmikoaa.Loads
open Go.RowKit Go.Proofs.Yteiojpglhmikoaa.Bytes Go.Proofs.Yteiojpglhmikoaa.Rows_
set_option linter.unusedVariables false

/-! ### the bound -/
set_option maxRecDepth 100000 in
theorem szByteS_any (A : Option Addr) (n c : Nat) (left : Int) (w : World) (hn : n ≤ 9223372036854775807) (h0 : 0 ≤ left) (h1 : left ≤ 1048576) :
    Calls Try.prog 65 #[.slice A n c, .int .i64 left] w fun e w' => e = .returned (.int .i64 (if left < n then -1 else left - n)) ∧ w = w' := by
  by_cases h : left < n
  · rw [if_pos h]
    have h2 : left - (n : Int) < 0 := by omega
    go_enter Try.func65, Try.ntmps65
    go_wp2_with fail
    go_ret
    exact ⟨rfl, rfl⟩
  · rw [if_neg h]
    have h2 : 0 ≤ left - (n : Int) := by omega
    go_enter Try.func65, Try.ntmps65
    go_wp2_with fail
    go_ret
    exact ⟨rfl, rfl⟩
/-- what a size helper answers: -1, or what is left, which P says of -/
def Sz (P : Int → Prop) (B : Nat) (w : World) (e : Ending) (w' : World) : Prop := ∃ r, e = .returned (.int .i64 r) ∧ (r = -1 ∨ (0 ≤ r ∧ P r)) ∧ Below B w w'
theorem sz_no {P : Int → Prop} {B : Nat} {w w' : World} (hb : Below B w w') : Sz P B w (.returned (.int .i64 (-1))) w' := ⟨-1, rfl, .inl rfl, hb⟩
theorem sz_yes {P : Int → Prop} {B : Nat} {w w' : World} {r : Int} (h0 : 0 ≤ r) (h : P r) (hb : Below B w w') : Sz P B w (.returned (.int .i64 r)) w' := ⟨r, rfl, .inr ⟨h0, h⟩, hb⟩

set_option maxRecDepth 100000 in
set_option maxHeartbeats 800000 in
theorem szLoad_any (A : Option Addr) (n c : Nat) (left : Int) (w : World) (hn : n ≤ 9223372036854775807) (h0 : 0 ≤ left) (h1 : left ≤ 1048576) :
    Calls Try.prog 54 #[.agg #[.slice A n c], .int .i64 left] w (Sz (fun r => r = left - n) w.heap.size w) := by
  have hS := Lib.hid (fun W => szByteS_any A n c left W hn h0 h1)
  have hb0 := Lib.hid ((Below.refl w.heap.size w).alloc (Nat.le_refl _) (.cells #[.slice A n c] 80))
  by_cases h : left < n
  · rw [if_pos h] at hS
    go_enter Try.func54, Try.ntmps54
    go_wp2_with fail
    refine (hS.out _).mono ?_
    rintro e w' ⟨rfl, rfl⟩
    go_wp2_with fail
    go_ret
    exact sz_no hb0.out
  · rw [if_neg h] at hS
    have h2 : 0 ≤ left - n := by omega
    go_enter Try.func54, Try.ntmps54
    go_wp2_with fail
    refine (hS.out _).mono ?_
    rintro e w' ⟨rfl, rfl⟩
    go_wp2_with fail
    go_ret
    exact sz_yes h2 rfl hb0.out

set_option maxRecDepth 100000 in
set_option maxHeartbeats 1600000 in
theorem szLoadS_any (F : Option Addr) (nf cf : Nat) (fs : List LoadD) (left : Int) (w : World) (hf : RdLo w w.heap.size F fs) (hfl : fs.length = nf) (hfn : nf ≤ 9223372036854775807) (hfs : ∀ x ∈ fs, x.n ≤ 9223372036854775807) (h0 : 0 ≤ left) (h1 : left ≤ 1048576) :
    Calls Try.prog 21 #[.slice F nf cf, .int .i64 left] w (Sz (fun r => r = left - nf - (tot fs : Nat)) w.heap.size w) := by
  have HF := Lib.hid hf
  have HFL := Lib.hid hfl
  have HFS := Lib.hid hfs
  clear hf hfl hfs
  by_cases hneg : left - (nf : Int) < 0
  · go_enter Try.func21, Try.ntmps21
    go_wp2_with fail
    go_ret
    exact sz_no (Below.refl _ _)
  · have hpos : 0 ≤ left - (nf : Int) := by omega
    go_enter Try.func21, Try.ntmps21
    go_wp2_with fail
    go_loopw [1, 5] (fun l i wr => ∃ (k : Nat) (L : Int), k ≤ nf ∧ i = .int .i64 k ∧ l = .int .i64 L ∧ 0 ≤ L ∧ L ≤ 1048576 ∧ Hid (L = left - nf - (tot (fs.take k) : Nat)) ∧ Below w.heap.size w wr) (fun _ i _ => nf - (intOf i).toNat)
    case atStart => exact ⟨0, _, Nat.zero_le _, rfl, rfl, hpos, by omega, Lib.hid (by have : tot (fs.take 0) = 0 := rfl; omega), Below.refl _ _⟩
    case round =>
      obtain ⟨k, L, hk, rfl, rfl, hL0, hL1, HL, hb⟩ := hrel
      have hz : w.heap.size ≤ wr.heap.size := hb.size
      by_cases hlt : k < nf
      · have hlt' : k < fs.length := by rw [HFL.out]; exact hlt
        obtain ⟨b, o, rfl, hB, hc0⟩ := (HF.out.below (Nat.le_refl _) hb).at_ hlt'
        have HB := Lib.hid hb
        have HS := Lib.hid (tot_snoc fs k hlt')
        have hSz := Lib.hid (fun W => szLoad_any fs[k].A fs[k].n fs[k].c L W (HFS.out _ (List.getElem_mem hlt')) hL0 hL1)
        clear hb
        generalize fs[k].A = x1 at *
        generalize fs[k].n = x2 at *
        generalize fs[k].c = x3 at *
        go_wp2_with fail
        refine (hSz.out _).mono ?_
        rintro e v ⟨r, rfl, hr, hb1⟩
        have HB1 := Lib.hid (HB.out.trans (hb1.mono hz))
        clear hb1
        rcases hr with rfl | ⟨hr0, hr1⟩
        · go_wp2_with fail
          go_ret
          exact sz_no HB1.out
        · have HR1 := Lib.hid (show r = left - nf - (tot (fs.take (k + 1)) : Nat) by rw [hr1, HL.out, HS.out]; omega)
          have hr2 : r ≤ 1048576 := by omega
          clear hr1
          go_wp2_with fail
          exact ⟨⟨k + 1, r, by omega, by go_num, rfl, hr0, hr2, HR1, HB1.out⟩, by simp [intOf]; omega⟩
      · obtain rfl : nf = k := by omega
        have e : fs.take nf = fs := List.take_of_length_le (by rw [HFL.out]; exact Nat.le_refl _)
        rw [e] at HL
        have HB := Lib.hid hb
        clear hb
        go_wp2_with fail
        go_ret
        exact sz_yes hL0 HL.out HB.out

/-! ### only the blocks of S are written -/
structure Only (S : Nat → Prop) (w w' : World) : Prop where
  os : w'.os = w.os
  tape : w'.tape = w.tape
  output : w'.output = w.output
  size : w.heap.size ≤ w'.heap.size
  block : ∀ i, i < w.heap.size → ¬ S i → w'.heap[i]? = w.heap[i]?
theorem Only.refl (S : Nat → Prop) (w : World) : Only S w w := ⟨rfl, rfl, rfl, Nat.le_refl _, fun _ _ _ => rfl⟩
theorem Only.trans {S : Nat → Prop} {a b c : World} (h : Only S a b) (k : Only S b c) : Only S a c :=
  ⟨k.os.trans h.os, k.tape.trans h.tape, k.output.trans h.output, Nat.le_trans h.size k.size, fun i hi hs => (k.block i (Nat.lt_of_lt_of_le hi h.size) hs).trans (h.block i hi hs)⟩
theorem Only.grown {S : Nat → Prop} {w w' : World} {row : Option Nat} (h : w.grownBy w' row) (hS : ∀ i, row = some i → S i) : Only S w w' :=
  ⟨h.os, h.tape, h.output, h.size, fun i hi hn => h.block i hi fun e => hn (hS i e.symm)⟩
theorem Only.own {S : Nat → Prop} {w w' : World} {base K n : Nat} {E : TypeId} {v : Value} {xs : List Value} (h : w.ownsRow base E K v n xs) (ho : Only S w w') (hne : ∀ g, v.ownBlock = some g → ¬ S g) : w'.ownsRow base E K v n xs := by
  refine ⟨h.1, ?_⟩
  rcases h.2 with h0 | ⟨g, cap, cur, rfl, hb, hg, rest⟩
  · exact .inl h0
  · exact .inr ⟨g, cap, cur, rfl, hb, by rw [ho.block g (Array.getElem?_eq_some_iff.1 hg).1 (hne g rfl)]; exact hg, rest⟩
theorem Only.below {S : Nat → Prop} {a w w' : World} {B : Nat} (h : Only S w w') (hb : Below B a w) (hB : B ≤ w.heap.size) (hS : ∀ i, S i → B ≤ i) : Below B a w' :=
  ⟨h.os.trans hb.os, h.tape.trans hb.tape, h.output.trans hb.output, Nat.le_trans hb.size h.size, fun i hi => (h.block i (Nat.lt_of_lt_of_le hi hB) fun hs => by have := hS i hs; omega).trans (hb.block i hi)⟩

/-! ### the marked loads -/
def endL (k : Int) (gs : List LoadD) : Int := k + (tot gs : Nat)
def mkL (k : Int) (g : LoadD) : LoadD := ⟨g.A, g.n, g.c, marks g.n k⟩
def markL : Int → List LoadD → List LoadD
  | _, [] => []
  | k, g :: gs => mkL k g :: markL (k + g.n) gs
theorem tot_cons (g : LoadD) (gs : List LoadD) : tot (g :: gs) = g.n + tot gs := by simp [tot]
theorem endL_cons (k : Int) (g : LoadD) (gs : List LoadD) : endL k (g :: gs) = endL (k + g.n) gs := by unfold endL; rw [tot_cons]; omega
theorem markL_snoc : ∀ (l : List LoadD) (k : Int) (g : LoadD), markL k (l ++ [g]) = markL k l ++ [mkL (endL k l) g]
  | [], k, g => by simp [markL, endL, tot]
  | x :: l, k, g => by rw [List.cons_append, markL, markL_snoc l, markL, endL_cons]; rfl
theorem markL_sl : ∀ (gs : List LoadD) (k : Int), (markL k gs).map sl = gs.map sl
  | [], _ => rfl
  | g :: gs, k => by rw [markL, List.map_cons, List.map_cons, markL_sl gs]; rfl
def SL (gs : List LoadD) (i : Nat) : Prop := ∃ f ∈ gs, (sl f).ownBlock = some i
/-- the loads of which the first 't' are marked -/
def partM (k : Int) (gs : List LoadD) (t : Nat) : List LoadD := markL k (gs.take t) ++ gs.drop t
theorem partM_now (k : Int) (gs : List LoadD) (t : Nat) (ht : t < gs.length) : partM k gs t = markL k (gs.take t) ++ [gs[t]] ++ gs.drop (t + 1) := by
  unfold partM; rw [List.drop_eq_getElem_cons ht, List.append_assoc]; rfl
theorem partM_next (k : Int) (gs : List LoadD) (t : Nat) (ht : t < gs.length) : partM k gs (t + 1) = markL k (gs.take t) ++ [mkL (endL k (gs.take t)) gs[t]] ++ gs.drop (t + 1) := by
  unfold partM; rw [List.take_succ_eq_append_getElem ht, markL_snoc]
theorem endL_le (k : Int) (gs : List LoadD) (t : Nat) (ht : t < gs.length) : endL k (gs.take t) + gs[t].n ≤ endL k gs ∧ k ≤ endL k (gs.take t) := by
  have h1 := tot_snoc gs t ht
  have h2 := tot_take gs (t + 1)
  unfold endL
  constructor <;> omega
theorem sep_iff (l : List LoadD) : l.Pairwise Sep ↔ (l.map sl).Pairwise (fun a b => ∀ g, a.ownBlock = some g → b.ownBlock ≠ some g) := by
  rw [List.pairwise_map]; exact Iff.rfl
/-- one load marked: what is owned of the bodies -/
theorem bodies_next {w w' : World} {base : Nat} {pre post : List LoadD} {g g' : LoadD} (hg : sl g' = sl g) (h : OwnBs w base (pre ++ [g] ++ post)) (hgr : w.grownBy w' (sl g).ownBlock) (ho : Own w' base g'.A g'.n g'.c g'.bytes) :
    OwnBs w' base (pre ++ [g'] ++ post) := by
  obtain ⟨h1, h2⟩ := h
  have hs : ∀ x, x ∈ pre ∨ x ∈ post → ∀ b, (sl x).ownBlock = some b → (sl g).ownBlock ≠ some b := by
    intro x hx b hb hb'
    rw [List.pairwise_append, List.pairwise_append] at h2
    rcases hx with hx | hx
    · exact h2.1.2.2 x hx g (by simp) b hb hb'
    · exact h2.2.2 g (by simp) x hx b hb' hb
  have hk : ∀ x, x ∈ pre ∨ x ∈ post → Own w' base x.A x.n x.c x.bytes := by
    intro x hx
    have hm : x ∈ pre ++ [g] ++ post := by rcases hx with hx | hx <;> simp [hx]
    exact World.ownsRow.kept (h1 x hm) hgr (by
      rcases hb : (sl x).ownBlock with _ | b
      · exact .inl hb
      · exact .inr fun e => hs x hx b hb (e.symm.trans hb))
  refine ⟨fun x hx => ?_, ?_⟩
  · rcases List.mem_append.1 hx with hx | hx
    · rcases List.mem_append.1 hx with hx | hx
      · exact hk x (.inl hx)
      · rw [List.mem_singleton] at hx; subst hx
        exact ho
    · exact hk x (.inr hx)
  · rw [sep_iff] at h2 ⊢
    rw [List.map_append, List.map_append] at h2 ⊢
    simp only [List.map_cons, List.map_nil] at h2 ⊢
    rw [hg]; exact h2

set_option maxRecDepth 100000 in
set_option maxHeartbeats 3200000 in
theorem markLoadS_any (F : Option Addr) (n c base : Nat) (gs : List LoadD) (k : Int) (w : World) (ho : OwnLo w base F n c gs) (hbs : OwnBs w base gs) (h0 : 0 ≤ k) (h1 : endL k gs ≤ 1099511627776) (hn : n ≤ 1099511627776) :
    Calls Try.prog 25 #[.slice F n c, .int .i64 k] w fun e w' => e = .returned (.int .i64 (endL k gs)) ∧ OwnLo w' base F n c (markL k gs) ∧ OwnBs w' base (markL k gs) ∧ Only (SL gs) w w' := by
  have HL := Lib.hid ho.len
  have HLE := Lib.hid (endL_le k gs)
  have H1 := Lib.hid h1
  clear h1
  go_enter Try.func25, Try.ntmps25
  go_wp2_with fail
  go_loopw [1, 5] (fun m i wr => ∃ t : Nat, t ≤ n ∧ i = .int .i64 t ∧ m = .int .i64 (endL k (gs.take t)) ∧ OwnLo wr base F n c gs ∧ OwnBs wr base (partM k gs t) ∧ Only (SL gs) w wr) (fun _ i _ => n - (intOf i).toNat)
  case atStart => exact ⟨0, Nat.zero_le _, rfl, by simp [endL, tot], ho, by simpa [partM, markL] using hbs, Only.refl _ _⟩
  case round =>
    clear ho hbs
    obtain ⟨t, ht, rfl, rfl, ho, hbs, hon⟩ := hrel
    by_cases hlt : t < n
    · have hlt' : t < gs.length := by rw [HL.out]; exact hlt
      obtain ⟨l1, l2⟩ := HLE.out t hlt'
      have l3 := H1.out
      have HN := Lib.hid (partM_next k gs t hlt')
      have HE := Lib.hid (show endL k (gs.take (t + 1)) = endL k (gs.take t) + gs[t].n by unfold endL; rw [tot_snoc gs t hlt']; omega)
      rw [partM_now k gs t hlt'] at hbs
      have HG := Lib.hid (show ∀ i, (sl gs[t]).ownBlock = some i → SL gs i from fun i hi => ⟨_, List.getElem_mem hlt', hi⟩)
      have hrd := ho.rd
      obtain ⟨fb, o, rfl, hB, hc1⟩ := hrd.at_ hlt'
      have hle4 : endL k (gs.take t) + gs[t].n ≤ 1099511627776 := by omega
      have l5 : 0 ≤ endL k (gs.take t) := by omega
      clear hrd l1 l2 l3
      generalize gs[t] = g at *
      generalize markL k (gs.take t) = pre at *
      generalize gs.drop (t + 1) = post at *
      generalize endL k (gs.take t) = kt at *
      have hb1 : Own wr base g.A g.n g.c g.bytes := hbs.1 g (by simp)
      have hneb : ∀ b, (Value.slice (some ⟨fb, o, none⟩) n c).ownBlock = some b → (sl g).ownBlock ≠ some b := fun b hb hb' => own_ne hb1 ho (by decide) b hb' hb
      have HNB := Lib.hid hneb
      have HM := Lib.hid (markByteS_any g.A g.n g.c base g.bytes kt _ hb1 (by omega) (by omega) (by omega))
      have HO := Lib.hid ho
      have HB := Lib.hid hbs
      have HON := Lib.hid hon
      clear ho hb1 hbs hon hneb
      go_wp2_with fail
      refine HM.out.mono ?_
      rintro e v ⟨rfl, hom, hgr⟩
      have HO2 := Lib.hid (show OwnLo v base (some ⟨fb, o, none⟩) n c gs from World.ownsRow.kept HO.out hgr (by
        rcases hb : (Value.slice (some ⟨fb, o, none⟩) n c).ownBlock with _ | b
        · exact .inl rfl
        · exact .inr fun e => HNB.out b hb e.symm))
      have HOM := Lib.hid hom
      have HGR := Lib.hid hgr
      clear hom hgr
      go_wp2_with fail
      refine ⟨⟨t + 1, by omega, by go_num, ?_, HO2.out, ?_, ?_⟩, by simp [intOf]; omega⟩
      · rw [HE.out]
      · rw [HN.out]
        exact bodies_next (g := g) (g' := mkL kt g) rfl HB.out HGR.out HOM.out
      · exact HON.out.trans (Only.grown HGR.out (fun i hi => HG.out i hi))
    · obtain rfl : n = t := by omega
      have e : gs.take n = gs := List.take_of_length_le (by rw [HL.out]; exact Nat.le_refl _)
      have e2 : partM k gs n = markL k gs := by unfold partM; rw [e, List.drop_of_length_le (by rw [HL.out]; exact Nat.le_refl _), List.append_nil]
      rw [e2] at hbs
      rw [e]
      have HO := Lib.hid (show OwnLo wr base F n c (markL k gs) by unfold OwnLo; rw [markL_sl]; exact ho)
      have HB := Lib.hid hbs
      have HON := Lib.hid hon
      clear ho hbs hon e e2
      go_wp2_with fail
      go_ret
      exact ⟨rfl, HO.out, HB.out, HON.out⟩

end Go.Proofs.Yteiojpglhmikoaa.Loads

