/- The links of a directory, listed from its map and sorted, in the program: the list rises, and is the directory. -/
import Derived.Test.YtckiloacbanbmaaGreatLinkSort
import Derived.Maps.RangeWalk
import Derived.OwnWalk
namespace Go.Proofs.YtckiloacbanbmaaGreat.DOk
open Go.RowKit Go.Proofs.YtckiloacbanbmaaGreat.Bytes Go.Proofs.YtckiloacbanbmaaGreat.Rows_ Go.Maps Go.WideMaps
set_option linter.unusedVariables false

theorem sameS (a b : ByteArray) : (kS a).sameKey (kS b) = true ↔ a = b := by
  unfold kS Lit.sameKey
  rw [beq_iff_eq]
  constructor
  · intro h
    exact ByteArray.ext (by rw [← Array.toArray_toList (xs := a.data), h, Array.toArray_toList])
  · intro h; rw [h]
theorem toList_inj {a b : ByteArray} (h : a.toList = b.toList) : a = b := (sameS a b).1 (by rw [(kS_iff a b).2 h]; exact (sameS b b).2 rfl)

/-- how far the map's entries have come into the list -/
structure Coll (l : List LinkD) (D : Dat) (left : Lit → Bool) (acc : List LinkD) : Prop where
  sub : ∀ z ∈ acc, z ∈ l ∧ left (kS z.1) = false
  nod : acc.Nodup
  all : ∀ z ∈ l, z ∈ acc ∨ left (kS z.1) = true
  has_ : ∀ kl, left kl = true → has D kl = true
theorem coll_start (l : List LinkD) (D : Dat) (hS : Same l D) : Coll l D (has D) [] :=
  ⟨fun z hz => (by cases hz), List.nodup_nil, fun z hz => .inr ((hS.2.1 z.1).2 ⟨z, hz, rfl⟩), fun _ h => h⟩
theorem coll_in {l : List LinkD} {D : Dat} {left : Lit → Bool} {acc : List LinkD} (h : Coll l D left acc) (hS : Same l D) (hV : Val l D) {x : ByteArray} {c : Int} (hx : left (kS x) = true) (hat : ∀ zd, D.atKey (kS x) zd = vI c) : (x, c) ∈ l := by
  obtain ⟨z, hz, e⟩ := (hS.2.1 x).1 (h.has_ _ hx)
  have ex : z.1 = x := toList_inj e
  have ev := hV z hz
  rw [ex, hat] at ev
  have ec : c = z.2 := by unfold vI at ev; injection ev with ev; injection ev
  rw [← ex, ec]; exact hz
theorem coll_step {l : List LinkD} {D : Dat} {left : Lit → Bool} {acc : List LinkD} (h : Coll l D left acc) (hS : Same l D) (hV : Val l D) (hR : Ris l) {x : ByteArray} {c : Int} (hx : left (kS x) = true) (hat : ∀ zd, D.atKey (kS x) zd = vI c) :
    Coll l D (fun z => left z && !z.sameKey (kS x)) (acc ++ [(x, c)]) := by
  have hin := coll_in h hS hV hx hat
  refine ⟨fun z hz => ?_, ?_, fun z hz => ?_, fun kl hk => h.has_ kl (by rw [Bool.and_eq_true] at hk; exact hk.1)⟩
  · rcases List.mem_append.1 hz with hz | hz
    · obtain ⟨a, b⟩ := h.sub z hz
      exact ⟨a, by rw [b]; rfl⟩
    · rw [List.mem_singleton] at hz
      subst hz
      exact ⟨hin, by rw [(sameS x x).2 rfl]; simp⟩
  · rw [List.nodup_append]
    refine ⟨h.nod, List.pairwise_singleton _ _, fun a ha b hb => ?_⟩
    rw [List.mem_singleton] at hb
    rintro rfl
    subst hb
    have := (h.sub _ ha).2
    rw [hx] at this; cases this
  · rcases h.all z hz with ha | ha
    · exact .inl (List.mem_append.2 (.inl ha))
    · by_cases e : z.1 = x
      · refine .inl (List.mem_append.2 (.inr ?_))
        rw [List.mem_singleton]
        have ev := hV z hz
        rw [e, hat] at ev
        have ec : c = z.2 := by unfold vI at ev; injection ev with ev; injection ev
        rw [← e, ec]
      · refine .inr ?_
        rw [ha]
        have : (kS z.1).sameKey (kS x) = false := by
          cases hs : (kS z.1).sameKey (kS x)
          · rfl
          · exact absurd ((sameS _ _).1 hs) e
        rw [this]; rfl
theorem ris_nodup {l : List LinkD} (h : Ris l) : l.Nodup := List.Pairwise.imp (fun hab e => by subst e; rw [less_irrefl] at hab; cases hab) h
theorem coll_end {l : List LinkD} {D : Dat} {left : Lit → Bool} {acc : List LinkD} (h : Coll l D left acc) (hR : Ris l) (h0 : ∀ kl, left kl = false) : acc.Perm l :=
  (List.perm_ext_iff_of_nodup h.nod (ris_nodup hR)).2 fun a => ⟨fun ha => (h.sub a ha).1, fun ha => (h.all a ha).elim id fun hl => by rw [h0] at hl; cases hl⟩
theorem ris_inj : ∀ {l : List LinkD}, Ris l → ∀ {a b : LinkD}, a ∈ l → b ∈ l → a.1.toList = b.1.toList → a = b
  | [], _, _, _, ha, _, _ => by cases ha
  | x :: l, h, a, b, ha, hb, e => by
    obtain ⟨h1, h2⟩ := List.pairwise_cons.1 h
    rcases List.mem_cons.1 ha with rfl | ha2 <;> rcases List.mem_cons.1 hb with rfl | hb2
    · rfl
    · have := h1 _ hb2; rw [e, less_irrefl] at this; cases this
    · have := h1 _ ha2; rw [← e, less_irrefl] at this; cases this
    · exact ris_inj h2 ha2 hb2 e
theorem sorted_eq {l s acc : List LinkD} (hR : Ris l) (hp : acc.Perm l) (hs : s.Perm acc) (ho : s.Pairwise fun x y => Op.bytesLess y.1.toList x.1.toList = false) : s = l := by
  have hsl := hs.trans hp
  refine List.Perm.eq_of_pairwise (le := fun x y : LinkD => Op.bytesLess y.1.toList x.1.toList = false) ?_ ho ?_ hsl
  · intro a b ha hb h1 h2
    have hal : a ∈ l := hsl.subset ha
    have e := less_tot _ _ h2 h1
    exact ris_inj hR hal hb e
  · refine List.Pairwise.imp (fun {x y} hxy => ?_) hR
    cases h : Op.bytesLess y.1.toList x.1.toList
    · rfl
    · have := less_trans _ _ _ hxy h
      rw [less_irrefl] at this; cases this

theorem iter_ne {w : World} {R : Value → Option (Dat × List MemPlace)} {b r nn : Nat} {D : Dat} {left : Lit → Bool} {cnt base n c : Nat} {A : Option Addr} {ks : List LinkD} (h : w.ranges Tryz.prog 9 R b r nn D left cnt) (ho : OwnL w base A n c ks) :
    ∀ g, (Value.slice A n c).ownBlock = some g → g ≠ r ∧ g ≠ b := by
  intro g hg
  obtain ⟨es, clock, since, seen, c0, h1, _, _, _, h2, _⟩ := h
  rcases ho.2 with ⟨hv, _⟩ | ⟨g', cap, cur, hv, _, hg', _⟩
  · rw [hv] at hg; cases hg
  · rw [hv] at hg
    injection hg with hg
    simp only at hg
    subst hg
    exact ⟨(fun e => by rw [e, h2] at hg'; cases hg'), (fun e => by rw [e, h1] at hg'; cases hg')⟩

set_option maxRecDepth 100000 in
set_option maxHeartbeats 3200000 in
theorem links_any (b nn : Nat) (D : Dat) (l : List LinkD) (w : World) (ho : OwnM w b nn D) (hS : Same l D) (hV : Val l D) (hR : Ris l) (hn : size D ≤ 2000000) :
    Calls Tryz.prog 88 #[.map (some b)] w fun e w' => ∃ A' n' c', e = .returned (.slice A' n' c') ∧ OwnL w' w.heap.size A' n' c' l ∧ Below w.heap.size w w' := by
  obtain ⟨i0, hi, hz0, hz1, hz2⟩ := info_parts linkInfo
  have HS := Lib.hid hS
  have HV := Lib.hid hV
  have HR := Lib.hid hR
  have hblt := ho.lt
  clear hS hV hR
  go_enter Tryz.func88, Tryz.ntmps88
  go_wp2_with (first
    | (at_len; refine wpList_len_own _ rfl _ 74 rfl 9 3 Tryz.underlying74 _ b nn D rfl ho ?_)
    | (at_make; refine wpList_make_own _ rfl _ _ 33 rfl w.heap.size 97 i0 (.agg #[.string ByteArray.empty, .int .i64 0]) 2 Tryz.underlying33 hi hz0 hz1 _ _ _ (size D) rfl rfl rfl (by rw [hz2]; omega) (by unfold maxLen; omega) (Nat.le_refl _) ?_; intro w1 ho1 hg1; have hs1 := hg1.size; have hm1 := World.ownsMap.kept ho hg1 (by simp))
    | (at_range; refine wpList_range_own _ rfl _ 74 rfl 9 3 skey Tryz.underlying74 _ b nn D rfl hm1 ?_; intro w2 hrg2 hg2 hs2))
  go_frame
  go_loopw [3] (fun v wr => ∃ (left : Lit → Bool) (cnt : Nat) (acc : List LinkD) (g n2 c2 : Nat), v = .slice (some ⟨g, 0, none⟩) n2 c2 ∧ wr.ranges Tryz.prog 9 (plainElem Tryz.prog 3) b w1.heap.size nn D left cnt ∧ OwnL wr w.heap.size (some ⟨g, 0, none⟩) n2 c2 acc ∧ Coll l D left acc ∧ n2 + cnt ≤ size D ∧ Below w.heap.size w wr)
    (fun _ wr => wr.rangeLeft b w1.heap.size)
  case atStart =>
    have hb1 : Below w.heap.size w w1 := (Below.refl _ w).grown hg1 (Nat.le_refl _) (fun k h => by cases h)
    exact ⟨_, _, [], w.heap.size, 0, size D, rfl, hrg2, World.ownsRow.kept ho1 hg2 (.inr (by simp [Value.ownBlock])), coll_start l D HS.out, by omega, hb1.grown hg2 hs1 (fun k h => by cases h)⟩
  case round =>
    obtain ⟨left, cnt, acc, g, n2, c2, rfl, hrg, hown, hC, hcs, hb⟩ := hrel
    have HC := Lib.hid hC
    have HB := Lib.hid hb
    have hbs := hb.size
    have HRG := Lib.hid hrg
    clear hC hb ho hm1 hg1 hg2 hrg2 ho1
    go_wp2_with (first
      | (at_next; refine wpList_next_ranges _ rfl _ rfl 9 skey (plainElem Tryz.prog 3) Value.string (Value.int .i64) (fun key kl hkey => by obtain ⟨s, h, _⟩ := string_of_keyOf Tryz.underlying9 hkey; exact ⟨s, h⟩) (fun v y hv => by obtain ⟨a, h, _⟩ := plainElem_int_inv Tryz.underlying3 hv; exact ⟨a, h⟩) b w1.heap.size nn D left cnt rfl HRG.out ?_ ?_))
    · intro hc0 hl0
      have HP := Lib.hid (coll_end HC.out HR.out hl0)
      clear hl0 hc0
      go_wp2_with fail
      refine (sort_any g n2 c2 w.heap.size acc _ hown (by omega)).mono ?_
      rintro e w3 ⟨rfl, s, hp, hpw, hos, hgs⟩
      obtain rfl := sorted_eq HR.out HP.out hp hpw
      have HB3 := Lib.hid (HB.out.grown hgs hbs (fun k h => by injection h with h; subst h; exact (hown.blk g rfl).1))
      have HOS := Lib.hid hos
      clear hp hpw hos hgs hown
      go_wp2_with fail
      go_ret
      exact ⟨_, _, _, rfl, HOS.out, HB3.out⟩
    · intro x c kl yd yp w3 cnt1 hkey hlx hv hat hrg1 hlt hg3 hs3 hen
      obtain ⟨x', ex, rfl, _⟩ := string_of_keyOf Tryz.underlying9 hkey
      cases ex
      obtain ⟨c', ec, ey, _⟩ := plainElem_int_inv Tryz.underlying3 hv
      cases ec
      cases ey
      have HST := Lib.hid (coll_step HC.out HS.out HV.out HR.out hlx hat)
      have hne := iter_ne HRG.out hown
      have hgr0 : g ≠ w1.heap.size ∧ g ≠ b := hne g rfl
      have hown3 : OwnL w3 w.heap.size (some ⟨g, 0, none⟩) n2 c2 acc := World.ownsRow.kept hown hg3 (.inr (fun e => (hne g rfl).1 (by injection e)))
      have HB3 := Lib.hid (HB.out.grown hg3 hbs (fun k h => by injection h with h; omega))
      have hz3 : w.heap.size ≤ w3.heap.size := by omega
      have HRG1 := Lib.hid hrg1
      have hz3w : wr.heap.size ≤ w3.heap.size := by omega
      clear hat hv hkey hlx hown hrg1 hg3 hs3 hne
      go_wp2_with (at_builtin; refine append_link rfl _ _ rfl rfl w3.heap.size rfl rfl hown3 (by omega) hz3 ?_)
      intro A4 c4 w4 ho4 hb4 hgr4
      have hg34 : w3.grownBy w4 (some g) := grown_trans (World.grownBy_alloc w3 _ (some g)) hgr4
      have HRG4 := Lib.hid (HRG1.out.kept hg34 (fun e => hgr0.2 (by injection e with e; exact e.symm)) (fun e => hgr0.1 (by injection e with e; exact e.symm)))
      have HB4 := Lib.hid (HB3.out.trans hb4)
      have HO4 := Lib.hid ho4
      obtain ⟨g4, rfl⟩ : ∃ g4, A4 = some ⟨g4, 0, none⟩ := by
        rcases ho4.2 with ⟨_, h0⟩ | ⟨g', cap, cur, hv, _⟩
        · omega
        · injection hv with e1; exact ⟨g', e1⟩
      clear ho4 hb4 hgr4 hg34 hown3
      go_wp2_with fail
      exact ⟨⟨_, cnt1, _, g4, n2 + 1, c4, rfl, HRG4.out, HO4.out, HST.out, by omega, HB4.out⟩, by rw [HRG4.out.left_eq, HRG.out.left_eq]; exact hlt⟩
end Go.Proofs.YtckiloacbanbmaaGreat.DOk
