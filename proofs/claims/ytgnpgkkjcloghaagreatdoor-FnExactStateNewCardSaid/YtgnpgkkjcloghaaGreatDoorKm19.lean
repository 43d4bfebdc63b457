/- Texts that lay in modules of their own: SoC, SoIn. -/
import Derived.Test.YtgnpgkkjcloghaaGreatDoorTrCd
import Derived.Test.YtgnpgkkjcloghaaGreatDoorKm9
import Derived.Test.YtgnpgkkjcloghaaGreatDoorKm18
import Derived.Test.YtgnpgkkjcloghaaGreatDoorSoV
namespace Go.Proofs.YtgnpgkkjcloghaaGreatDoor.Tr
open Go.RowKit Go.Proofs.YtgnpgkkjcloghaaGreatDoor.Bytes Go.Proofs.YtgnpgkkjcloghaaGreatDoor.Rows_ Go.Proofs.YtgnpgkkjcloghaaGreatDoor.RowK Go.Proofs.YtgnpgkkjcloghaaGreatDoor.DOk
set_option linter.unusedVariables false
def ri (zs : List Int) : List (List Value) := zs.map (fun z => [.int .i64 z])
theorem ri_flat (zs : List Int) : (ri zs).flatten = iv zs := by unfold ri iv; induction zs with | nil => rfl | cons z r ih => simp [ih]
theorem ri_len (zs : List Int) : ∀ r ∈ ri zs, r.length = 1 := by intro r hr; unfold ri at hr; rw [List.mem_map] at hr; obtain ⟨z, _, rfl⟩ := hr; rfl
theorem ri_one (zs : List Int) : ∀ r ∈ ri zs, ∀ u ∈ r, u.oneCell' = true := by intro r hr; unfold ri at hr; rw [List.mem_map] at hr; obtain ⟨z, _, rfl⟩ := hr; simp [Value.oneCell']
theorem RdI.rdK {w : World} {B : Nat} {A : Option Addr} {zs : List Int} (h : RdI w B A zs) : RdK 1 w B A (ri zs) := by
  intro hn
  have hn' : 0 < zs.length := by simpa [ri] using hn
  obtain ⟨b, o, e, hlt, hc⟩ := h hn'
  refine ⟨b, o, e, hlt, fun i r hi j v hj => ?_⟩
  unfold ri at hi
  rw [List.getElem?_map] at hi
  rcases hz : zs[i]? with _ | z
  · rw [hz] at hi; cases hi
  · rw [hz] at hi
    simp only [Option.map_some, Option.some.injEq] at hi
    subst hi
    obtain ⟨hi', e2⟩ := List.getElem?_eq_some_iff.1 hz
    cases j with
    | zero =>
      simp at hj; subst hj
      rw [Nat.mul_one, Nat.add_zero, hc i hi', e2]
    | succ j => simp at hj
theorem own_noneI {w : World} {base : Nat} {A : Option Addr} {n c : Nat} {zs : List Int} (h : OwnI w base A n c zs) : A = none → n = 0 ∧ c = 0 := by
  intro hA
  rcases h.2 with ⟨hv, h0⟩ | ⟨g, cap, cur, hv, _⟩
  · injection hv with e1 e2 e3
    exact ⟨e2, e3⟩
  · subst hA; injection hv with e1; cases e1
/-- 'out = append(out, ints...)' -/
theorem append_ints {wr : World} {ops : Array Oper} {rest : List Oper} {o : Oper} {a : Act} {Q : Exit → Act → World → Prop} (hgd : o.guard = none) (s x : Operand) (ho : o.op = .call { callee := .builtin .append, args := #[s, x], argTypes := #[61, 61] })
    {base B n c n1 c1 : Nat} {A A1 : Option Addr} {zs ys : List Int} (hs : a.eval s = .slice A n c) (hx : a.eval x = .slice A1 n1 c1)
    (hown : OwnI wr base A n c zs) (hsrc : RdI wr B A1 ys) (hA : A1 = none → n1 = 0 ∧ c1 = 0) (hl : ys.length = n1) (hn : n ≤ 1000000000) (hn1 : n1 ≤ 1000000000) (hbase : base ≤ wr.heap.size)
    (h : ∀ A' c' w', OwnI w' base A' (n + n1) c' (zs ++ ys) → Below base wr w' → wr.grownBy w' (Value.slice A n c).ownBlock → wpList Tryz.prog ops Q rest (a.put o.dst (.slice A' (n + n1) c')) w') :
    wpList Tryz.prog ops Q (o :: rest) a wr := by
  refine append_rowsT Tryz.underlying61 intInfo rfl (by decide) (by decide) hgd s x ho hs hx hown (RdI.rdK hsrc) (ri_len ys) (ri_one ys) hA (by simpa [ri] using hl) hn hn1 hbase (fun A' c' w' h1 h2 h3 => h A' c' w' ?_ h2 h3)
  unfold OwnI
  rw [show iv (zs ++ ys) = iv zs ++ (ri ys).flatten from by rw [ri_flat]; unfold iv; rw [List.map_append]]
  exact h1
/-- the parts of a concatenation of two lists of ints -/
def partI (A : Option Addr) (n c : Nat) (zs : List Int) : PartD := ⟨A, n, c, ri zs⟩
theorem okPart_int {w : World} {base : Nat} {A : Option Addr} {n c : Nat} {zs : List Int} (h : OwnI w base A n c zs) (hn : n ≤ 1000) : OkPart 1 w (partI A n c zs) :=
  ⟨RdI.rdK h.rd, ri_len zs, ri_one zs, own_noneI h, by show (ri zs).length = n; unfold ri; rw [List.length_map]; exact h.len, hn⟩
set_option maxRecDepth 100000 in
set_option maxHeartbeats 1600000 in
theorem growNilI_any (n : Nat) (w : World) (hn : n ≤ 1000000) :
    Calls Tryz.prog 105 #[.slice none 0 0, .int .i64 n] w fun e w' => ∃ A' c', e = .returned (.slice A' 0 c') ∧ w'.ownsRow w.heap.size 3 1 (.slice A' 0 c') 0 [] ∧ Below w.heap.size w w' := by
  obtain ⟨i0, hi, hz0, hz1, hz2⟩ := info_parts intInfo
  by_cases h0 : n = 0
  · subst h0
    go_enter Tryz.func105, Tryz.ntmps105
    go_wp2_with fail
    go_ret
    exact ⟨none, 0, rfl, World.ownsRow_nil _ _ _ _, Below.refl _ _⟩
  · have hpos : ¬ ((n : Int) ≤ 0) := by omega
    have hpos' : 0 < (n : Int) := by omega
    have hold : (Builtin.firstCells i0.size 0 (.slice none 0 0)).run Tryz.prog w.drew = .ok ([] : List Value).toArray w.drew := run_firstCells_none w.drew i0.size 0 0 0
    have hrz : ∀ ty, (Builtin.append_ #[61, 3] ty #[.slice none 0 0, .int .i64 (n : Int)]).run Tryz.prog w = _ := fun ty =>
      Lib.run_append_grow_zeros w 61 3 ty 3 i0 (.int .i64 0) .i64 .i64 Tryz.underlying61 Tryz.underlying3 hi hz0 none 0 0 [] hold n (by omega) (by rw [hz1]; decide) (by omega) (by omega) (by rw [hz2]; omega) (growslice_fits (by omega) (by rw [hz2]; omega))
    have hGm := grownCap_le_maxLen w (0 + n) 0 3 (by unfold maxLen; omega)
    have hGn : 0 + n ≤ grownCap w (0 + n) 0 3 := grownCap_ge w _ _ _
    rw [Nat.zero_add] at hrz hGm hGn
    obtain ⟨G, hG⟩ : ∃ G, G = grownCap w n 0 3 := ⟨_, rfl⟩
    obtain ⟨cs, hcs⟩ : ∃ cs : Array Value, cs = (([] : List Value).toArray ++ Builtin.zeroCells (Value.int .i64 0).cells n ++ Builtin.zeroCells (Value.int .i64 0).cells (grownCap w n 0 3 - n)) := ⟨_, rfl⟩
    rw [← hcs, ← hG] at hrz
    rw [← hG] at hGm hGn
    have HCS := Lib.hid (show cs.size = G * 1 by
      have hz : (Value.int .i64 0).cells.size = 1 := rfl
      rw [hcs, ← hG, Array.size_append, Array.size_append, size_zeroCells, size_zeroCells, hz]
      simp only [List.size_toArray, List.length_nil]
      omega)
    have HGM := Lib.hid hGm
    have hG63 : G ≤ 9223372036854775807 := by unfold maxLen at hGm; omega
    clear hold hG hcs hGm
    go_enter Tryz.func105, Tryz.ntmps105
    go_wp2_with (at_builtin; refine Lib.wpList_append_run _ rfl _ _ _ _ rfl _ _ rfl rfl _ _ (hrz _) ?_)
    go_ret
    refine ⟨_, _, rfl, ⟨by simp, .inr ⟨w.heap.size, G, cs, rfl, Nat.le_refl _, heap_alloc_new _ _, Nat.zero_le _, HGM.out, HCS.out, by simp⟩⟩, ?_⟩
    exact ((show Below w.heap.size w w.drew from ⟨rfl, rfl, rfl, Nat.le_refl _, fun _ _ => rfl⟩)).alloc (Nat.le_refl _) _
set_option maxRecDepth 100000 in
set_option maxHeartbeats 1600000 in
theorem concatI_any (A : Option Addr) (n c : Nat) (ps : List PartD) (w : World) (hr : RdPs 1 w A ps) (hl : ps.length = n) (hn : n ≤ 1000) (hA : A = none → n = 0) :
    Calls Tryz.prog 63 #[.slice A n c] w fun e w' => ∃ A' c', e = .returned (.slice A' (sumN ps) c') ∧ w'.ownsRow w.heap.size 3 1 (.slice A' (sumN ps) c') (sumN ps) (catD ps).flatten ∧ Below w.heap.size w w' := by
  have HR := Lib.hid hr
  have HL := Lib.hid hl
  have hsum := sumN_le ps hr.2
  rw [hl] at hsum
  clear hr hl
  go_enter Tryz.func63, Tryz.ntmps63
  go_wp2_with fail
  go_loop [3, 11] (fun s i => ∃ k : Nat, k ≤ n ∧ i = .int .i64 k ∧ s = .int .i64 (sumN (ps.take k) : Nat)) (fun _ i => n - (intOf i).toNat)
  case atStart => exact ⟨0, Nat.zero_le _, rfl, rfl⟩
  case round =>
    obtain ⟨k, hk, rfl, rfl⟩ := hrel
    by_cases hlt : k < n
    · have hlt' : k < ps.length := by rw [HL.out]; exact hlt
      obtain ⟨b, o, rfl, hlB, hc⟩ := HR.out.1.at_ hlt'
      have HS := Lib.hid (sumN_snoc ps k hlt')
      have hle := sumN_take_le ps (k + 1)
      have hle0 := sumN_take_le ps k
      rw [HS.out] at hle
      generalize ps[k].A = x0 at *
      generalize ps[k].n = x1 at *
      generalize ps[k].c = x2 at *
      generalize hS0 : sumN (ps.take k) = S0 at *
      have HS0 := Lib.hid hS0
      clear hS0
      go_wp2_with fail
      exact ⟨⟨k + 1, by omega, by go_num, by rw [HS.out]; go_num⟩, by simp [intOf]; omega⟩
    · obtain rfl : n = k := by omega
      have e : ps.take n = ps := List.take_of_length_le (by rw [HL.out]; exact Nat.le_refl _)
      rw [e]
      clear e
      generalize hS0 : sumN ps = S0 at *
      have HS0 := Lib.hid hS0
      clear hS0
      go_wp2_with (go_at_call 105; refine (growNilI_any S0 _ (by omega)).mono ?_; rintro e v1 ⟨A1, c1, rfl, ho1, hb1⟩)
      have HO1 := Lib.hid ho1
      have HB1 := Lib.hid hb1
      clear ho1 hb1
      go_loopw [6, 27] (fun v i wr => ∃ (k : Nat) (A2 : Option Addr) (c2 : Nat), k ≤ n ∧ i = .int .i64 k ∧ v = .slice A2 (sumN (ps.take k)) c2 ∧ wr.ownsRow w.heap.size 3 1 (.slice A2 (sumN (ps.take k)) c2) (sumN (ps.take k)) (catD (ps.take k)).flatten ∧ Below w.heap.size w wr) (fun _ i _ => n - (intOf i).toNat)
      case atStart => exact ⟨0, A1, c1, Nat.zero_le _, rfl, rfl, HO1.out, HB1.out⟩
      case round =>
        clear HO1 HB1
        obtain ⟨k, A2, c2, hk, rfl, rfl, ho, hb⟩ := hrel
        have hz : w.heap.size ≤ wr.heap.size := hb.size
        by_cases hlt : k < n
        · have hlt' : k < ps.length := by rw [HL.out]; exact hlt
          obtain ⟨b, o, rfl, hlB, hc⟩ := (HR.out.1.below hb).at_ hlt'
          have HS := Lib.hid (sumN_snoc ps k hlt')
          have HCt := Lib.hid (catD_snoc ps k hlt')
          have hle0 := sumN_take_le ps k
          rw [HS0.out] at hle0
          have HP := Lib.hid (HR.out.2 _ (List.getElem_mem hlt'))
          have HB := Lib.hid hb
          have HO := Lib.hid ho
          clear hb ho
          rcases hpk : ps[k] with ⟨pA, pn, pc, prows⟩
          rw [hpk] at hc HS HCt HP
          simp only at hc HS HCt HP
          generalize hS1 : sumN (ps.take k) = S1 at *
          have HS1 := Lib.hid hS1
          have HPK := Lib.hid hpk
          clear hS1 hpk
          have hbd : pn ≤ 1000 := HP.out.bd
          have HRd := Lib.hid (show RdK 1 wr w.heap.size pA prows from HP.out.rd.below (Nat.le_refl _) HB.out)
          have HPn := Lib.hid (show pA = none → pn = 0 ∧ pc = 0 from HP.out.nil)
          have HPc := Lib.hid (show prows.length = pn from HP.out.cnt)
          go_wp2_with (at_builtin; refine append_rowsT Tryz.underlying61 intInfo rfl (by decide) (by decide) rfl _ _ rfl rfl rfl HO.out HRd.out HP.out.len HP.out.one HPn.out HPc.out (by omega) (by omega) hz ?_)
          intro A3 c3 w3 ho3 hb3 hg3
          have HO3 := Lib.hid (show w3.ownsRow w.heap.size 3 1 (.slice A3 (sumN (ps.take (k + 1))) c3) (sumN (ps.take (k + 1))) (catD (ps.take (k + 1))).flatten by
            rw [HS.out, HCt.out, List.flatten_append]; exact ho3)
          have HB3 := Lib.hid (HB.out.trans hb3)
          clear ho3 hb3 hg3
          go_wp2_with fail
          exact ⟨⟨k + 1, A3, c3, by omega, by go_num, by rw [HS.out], HO3.out, HB3.out⟩, by simp [intOf]; omega⟩
        · obtain rfl : n = k := by omega
          have e : ps.take n = ps := List.take_of_length_le (by rw [HL.out]; exact Nat.le_refl _)
          rw [e, HS0.out] at ho ⊢
          have HO := Lib.hid ho
          have HB := Lib.hid hb
          clear ho hb e
          go_wp2_with fail
          go_ret
          exact ⟨A2, c2, by rw [HS0.out]; (try rfl), by rw [HS0.out]; exact HO.out, HB.out⟩
end Go.Proofs.YtgnpgkkjcloghaaGreatDoor.Tr
namespace Go.Proofs.YtgnpgkkjcloghaaGreatDoor.St
open Go.RowKit Go.Proofs.YtgnpgkkjcloghaaGreatDoor.Bytes Go.Proofs.YtgnpgkkjcloghaaGreatDoor.Rows_ Go.Proofs.YtgnpgkkjcloghaaGreatDoor.RowK Go.Proofs.YtgnpgkkjcloghaaGreatDoor.Gr Go.Proofs.YtgnpgkkjcloghaaGreatDoor.DOk Go.Proofs.YtgnpgkkjcloghaaGreatDoor.Opq Go.Proofs.YtgnpgkkjcloghaaGreatDoor.Sc
set_option linter.unusedVariables false
structure StIn (w : World) (B : Nat) (s : StS) : Prop where
  r : RdSt w w.heap.size s
  p : ∀ x ∈ s.panes, TIn w x.t
  wn : InWs w B s.wins
  e : ∀ x ∈ s.sess, ∀ z ∈ x.wins, (Lit.int .i64 z).wf = true
  n : szSt s ≤ 1048576
  en : ∀ x ∈ s.sess, x.wA = none → x.wins.length = 0 ∧ x.wc = 0
theorem StIn.below {w w' : World} {B : Nat} {s : StS} (h : StIn w B s) (hb : Below w.heap.size w w') : StIn w' B s :=
  ⟨(h.r.below (Nat.le_refl _) hb).more hb.size, fun x hx => (h.p x hx).below hb, h.wn.below hb, h.e, h.n, h.en⟩
theorem StIn.szp {w : World} {B : Nat} {s : StS} (h : StIn w B s) : ∀ x ∈ s.panes, szP x ≤ 1048576 := fun x hx => by
  have h1 := h.n; have h2 := sumN_mem szP hx; unfold szSt at h1; omega
theorem StIn.szw {w : World} {B : Nat} {s : StS} (h : StIn w B s) : ∀ x ∈ s.wins, szW x ≤ 1048576 := fun x hx => by
  have h1 := h.n; have h2 := sumN_mem szW hx; unfold szSt at h1; omega
theorem StIn.sze {w : World} {B : Nat} {s : StS} (h : StIn w B s) : ∀ x ∈ s.sess, szE x ≤ 1048576 := fun x hx => by
  have h1 := h.n; have h2 := sumN_mem szE hx; unfold szSt at h1; omega
theorem StIn.cmd {w : World} {B : Nat} {s : StS} (h : StIn w B s) : ∀ x ∈ s.panes, x.cmd.size ≤ 9223372036854775807 ∧ x.dir.size ≤ 9223372036854775807 ∧ szT x.t ≤ 1048576 := fun x hx => by
  have h1 := h.szp x hx; unfold szP at h1; omega
theorem StIn.wname {w : World} {B : Nat} {s : StS} (h : StIn w B s) : ∀ x ∈ s.wins, x.name.size ≤ maxLen := fun x hx => by
  have h1 := h.szw x hx; unfold szW at h1; unfold maxLen; omega
theorem StIn.ename {w : World} {B : Nat} {s : StS} (h : StIn w B s) : ∀ x ∈ s.sess, x.name.size ≤ maxLen ∧ x.wins.length ≤ 1048576 := fun x hx => by
  have h1 := h.sze x hx; unfold szE at h1; unfold maxLen; omega
theorem StIn.lens {w : World} {B : Nat} {s : StS} (h : StIn w B s) : s.panes.length ≤ 1048576 ∧ s.wins.length ≤ 1048576 ∧ s.sess.length ≤ 1048576 := by
  have h1 := h.n; unfold szSt at h1; omega
end Go.Proofs.YtgnpgkkjcloghaaGreatDoor.St
