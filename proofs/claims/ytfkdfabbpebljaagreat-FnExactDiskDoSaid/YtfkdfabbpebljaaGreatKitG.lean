/- Texts that lay in modules of their own: LinkSort, LinkList, DirIds, Delete, Settle, ExecB. -/
import Derived.Test.YtfkdfabbpebljaaGreatShelf
import Derived.Test.YtfkdfabbpebljaaGreatKitA
import Derived.Test.YtfkdfabbpebljaaGreatKitE
import Derived.Shelf.SlSortCmp.WholeK
import Derived.Maps.RangeWalk
import Derived.OwnWalk
import Derived.Test.YtfkdfabbpebljaaGreatKitC
import Derived.Test.YtfkdfabbpebljaaGreatKitF
import Derived.Deep.RegionWith
import Derived.Deep.RegionLaw
import Derived.Deep.Cut
import Derived.IntWalk
import Derived.StillTailTactics
import Derived.Outline
namespace Go.Proofs.YtfkdfabbpebljaaGreat.DOk
open Go.RowKit Go.Proofs.YtfkdfabbpebljaaGreat.Bytes Go.Proofs.YtfkdfabbpebljaaGreat.Rows_ Go.Sort Go.Shelf
set_option linter.unusedVariables false

/-! ### the order -/
theorem cmp_less : ∀ a b : List UInt8, (Lib.compareBytes a b < 0) ↔ Op.bytesLess a b = true := by
  intro a
  induction a with
  | nil => intro b; cases b <;> simp [Lib.compareBytes, Op.bytesLess]
  | cons x a ih =>
    intro b
    cases b with
    | nil => simp [Lib.compareBytes, Op.bytesLess]
    | cons y b =>
      unfold Lib.compareBytes Op.bytesLess
      by_cases h1 : x < y
      · simp [h1]
      · by_cases h2 : y < x
        · have hne : ¬ x = y := by intro e; subst e; exact absurd h2 (UInt8.lt_irrefl _)
          simp [h1, h2, hne]
        · have e : x = y := UInt8.le_antisymm (UInt8.not_lt.1 h2) (UInt8.not_lt.1 h1)
          subst e
          simp [ih b]
def cfL (x y : LinkD) : Int := Lib.compareBytes x.1.data.toList y.1.data.toList
theorem ltL (x y : LinkD) : ltOf cfL x y = Op.bytesLess x.1.toList y.1.toList := by
  unfold ltOf cfL
  rw [ByteArray.toList_eq, ByteArray.toList_eq]
  cases h : Op.bytesLess x.1.data.toList y.1.data.toList
  · exact decide_eq_false (fun h2 => by rw [(cmp_less _ _).1 h2] at h; cases h)
  · exact decide_eq_true ((cmp_less _ _).2 h)
theorem less_tot : ∀ a b : List UInt8, Op.bytesLess a b = false → Op.bytesLess b a = false → a = b := by
  intro a
  induction a with
  | nil => intro b; cases b <;> simp [Op.bytesLess]
  | cons x a ih =>
    intro b
    cases b with
    | nil => simp [Op.bytesLess]
    | cons y b =>
      unfold Op.bytesLess
      by_cases h1 : x < y
      · simp [h1]
      · by_cases h2 : y < x
        · have hne : ¬ y = x := by intro e; subst e; exact absurd h2 (UInt8.lt_irrefl _)
          simp [h1, h2]
        · have e : x = y := UInt8.le_antisymm (UInt8.not_lt.1 h2) (UInt8.not_lt.1 h1)
          subst e
          simp
          exact ih b
theorem swoL : SWO (ltOf cfL) where
  irrefl x := by rw [ltL]; exact less_irrefl _
  trans x y z := by rw [ltL, ltL, ltL]; exact less_trans _ _ _
  ntrans x y z h1 h2 := by
    rw [ltL] at h1 h2 ⊢
    cases h : Op.bytesLess x.1.toList z.1.toList
    · rfl
    · exfalso
      cases h3 : Op.bytesLess y.1.toList x.1.toList
      · have e := less_tot _ _ h1 h3
        rw [e] at h; rw [h] at h2; cases h2
      · have := less_trans _ _ _ h3 h
        rw [this] at h2; cases h2

/-! ### the closure -/
set_option maxHeartbeats 1000000 in
theorem cmpLink (x y : LinkD) (W : World) : Calls Tryz.prog 95 #[.agg #[.string x.1, .int .i64 x.2], .agg #[.string y.1, .int .i64 y.2]] W fun e w' => e = .returned (.int .i64 (cfL x y)) ∧ ∃ q os', w' = grow (W.drewN q) os' := by
  have hcon := fun W' => Tryz.strings_Compare x.1 y.1 W'
  have e0 : Lib.compareBytes x.1.data.toList y.1.data.toList = cfL x y := rfl
  rw [e0] at hcon
  generalize cfL x y = r at hcon ⊢
  clear e0
  go_enter Tryz.func95, Tryz.ntmps95
  go_wp2_with (go_at_call 96; refine (hcon _).mono ?_; rintro e w' ⟨rfl, rfl⟩)
  go_ret
  exact ⟨rfl, 0, _, by rw [alloc_eq_grow, alloc_eq_grow, grow_grow]; rfl⟩
theorem cmpLays (blk off size : Nat) (w : World) : CmpLays Tryz.prog 95 #[] linkR 2 cfL blk off size w :=
  fun _ _ _ _ x y => cmpLink x y _

/-! ### the row -/
theorem flatK_list (d : Array LinkD) : (flatK linkR 2 d).toList = (d.toList.map linkR).flatten := by
  apply List.ext_getElem?
  intro j
  have hlen : ((d.toList.map linkR).flatten).length = d.size * 2 := by rw [flat_len 2 _ (link_len _), List.length_map, Array.length_toList]
  by_cases hj : j < d.size * 2
  · have h2 : j / 2 < d.size := by omega
    have hr : (d.toList.map linkR)[j / 2]? = some (linkR d[j / 2]) := by simp [h2]
    have hv : (linkR d[j / 2])[j % 2]? = some ((linkR d[j / 2])[j % 2]!) := by
      have hm : j % 2 < (linkR d[j / 2]).length := by show j % 2 < 2; omega
      rw [getElem!_pos (linkR d[j / 2]) (j % 2) hm, List.getElem?_eq_getElem hm]
    have := flat_at 2 _ (link_len _) (j / 2) _ hr (j % 2) _ hv
    rw [show j / 2 * 2 + j % 2 = j by omega] at this
    rw [this]
    have hg := get_flatK linkR 2 d j hj
    have hsz : j < (flatK linkR 2 d).size := by simpa using hj
    rw [Array.getElem?_toList, Array.getElem?_eq_getElem hsz, ← getElem!_pos (flatK linkR 2 d) j hsz, hg, getElem!_pos d (j / 2) h2]
  · rw [List.getElem?_eq_none (by simpa using Nat.le_of_not_lt hj), List.getElem?_eq_none (by rw [hlen]; omega)]
theorem holds_own {w : World} {base g n c : Nat} {ks : List LinkD} (h : OwnL w base (some ⟨g, 0, none⟩) n c ks) : HoldsK linkR 2 w g 0 ks.toArray := by
  intro j hj
  have hl := h.len
  have hj2 : j < n * 2 := by simpa [hl] using hj
  rw [Nat.zero_add]
  refine ⟨?_, World.ownsRow.frozenAt (h := h) j⟩
  rw [World.ownsRow.cellAt (h := h) j hj2, ← flatK_list ks.toArray, Array.getElem?_toList, Array.getElem?_eq_getElem hj, ← getElem!_pos (flatK linkR 2 ks.toArray) j hj]
  rfl
theorem own_sorted {w : World} {base g n c : Nat} {ks : List LinkD} (h : OwnL w base (some ⟨g, 0, none⟩) n c ks) (d : Array LinkD) (hd : d.size = n) (m : Nat) (os : Array Obj) :
    OwnL (sortWorldK linkR 2 w g 0 m d os) base (some ⟨g, 0, none⟩) n c d.toList ∧ w.grownBy (sortWorldK linkR 2 w g 0 m d os) (some g) := by
  have hlen : ((d.toList.map linkR).flatten).length = n * 2 := by rw [flat_len 2 _ (link_len _), List.length_map, Array.length_toList, hd]
  have hF : (flatK linkR 2 d).size = n * 2 := by simp [hd]
  rcases h.2 with ⟨hv, hn⟩ | ⟨g', cap, cur, hv, hb, hg, hnc, hm, hs, ht⟩
  · cases hv
  · injection hv with e1 e2 e3
    injection e1 with e1
    injection e1 with e1
    subst e1 e3
    have hlt : g < w.heap.size := (Array.getElem?_eq_some_iff.1 hg).1
    have hg2 : (sortWorldK linkR 2 w g 0 m d os).heap[g]? = some (.cells (putCells id 0 (flatK linkR 2 d) cur) 86 (0, 0)) := by
      show ((w.heap.modify g (onCells (putCells id 0 (flatK linkR 2 d)))) ++ os)[g]? = _
      rw [Array.getElem?_append_left (by simpa using hlt), Array.getElem?_modify, if_pos rfl, hg]
      rfl
    refine ⟨⟨hlen, .inr ⟨g, c, _, rfl, hb, hg2, hnc, hm, by simp [putCells, hs], ?_⟩⟩, ⟨rfl, rfl, rfl, ?_, fun k hk hne => ?_⟩⟩
    · rw [← flatK_list]
      apply List.ext_getElem?
      intro j
      rw [List.getElem?_take]
      split
      · rename_i hj
        have hjc : j < cur.size := by
          have : n * 2 ≤ c * 2 := Nat.mul_le_mul_right 2 hnc
          omega
        have hjF : j < (flatK linkR 2 d).size := by omega
        simp only [putCells, Array.getElem?_toList, Array.getElem?_mapIdx, Array.getElem?_eq_getElem hjc, Option.map_some, Nat.zero_add, Nat.zero_le, true_and, hjF, if_true, Nat.sub_zero, id]
        rw [getElem!_pos (flatK linkR 2 d) j hjF, Array.getElem?_eq_getElem hjF]
      · rename_i hj
        rw [List.getElem?_eq_none (by simp; omega)]
    · show w.heap.size ≤ ((w.heap.modify g (onCells (putCells id 0 (flatK linkR 2 d)))) ++ os).size
      simp
    · show ((w.heap.modify g (onCells (putCells id 0 (flatK linkR 2 d)))) ++ os)[k]? = _
      rw [Array.getElem?_append_left (by simpa using hk), Array.getElem?_modify, if_neg (fun e => hne (by rw [e]))]

/-- the sort: what the row holds then rises, and is what it held -/
theorem sort_any (g n c base : Nat) (ks : List LinkD) (w : World) (ho : OwnL w base (some ⟨g, 0, none⟩) n c ks) (hn : n ≤ 2000000) :
    Calls Tryz.prog 94 #[.slice (some ⟨g, 0, none⟩) n c, .func (.func 95) #[] #[]] w fun e w' =>
      e = .returned (.tuple #[]) ∧ ∃ l : List LinkD, l.Perm ks ∧ (l.Pairwise fun x y => Op.bytesLess y.1.toList x.1.toList = false) ∧ OwnL w' base (some ⟨g, 0, none⟩) n c l ∧ w.grownBy w' (some g) := by
  have eg : ∀ args w, (callFunc 95 args).run Tryz.prog w = .ok (.enter 95 args) w := enters_of Tryz.func95 (by kernel_rfl) rfl
  have hl := ho.len
  have hb := (ho.blk g rfl).2
  have hcon := AnyQ.slices_SortFunc Tryz.sortLink 2 Tryz.isAgg86 Tryz.sizeOf86 linkR (fun _ => rfl) (fun x v hv => by simp [linkR] at hv; rcases hv with rfl | rfl <;> rfl) cfL swoL 95 #[] g 0 c ks.toArray w eg (cmpLays g 0 _ w) (holds_own ho) hb (by simp; omega)
  change Calls Tryz.prog 94 _ _ _ at hcon
  have e0 : ks.toArray.size = n := by simpa using hl
  rw [e0] at hcon
  refine hcon.mono ?_
  rintro e w' ⟨rfl, d, m, os, ⟨p1, p2, p3⟩, hs, rfl⟩
  have hd : d.size = n := by rw [p1, e0]
  obtain ⟨o1, o2⟩ := own_sorted ho d hd m os
  refine ⟨rfl, d.toList, ?_, ?_, o1, o2⟩
  · have h1 : d.extract 0 n = d := by rw [← hd]; exact Array.extract_size
    have h2 : ks.toArray.extract 0 n = ks.toArray := by rw [← e0]; exact Array.extract_size
    rw [h1, h2] at p3
    simpa using p3
  · rw [List.pairwise_iff_getElem]
    intro i j hi hj hij
    have := hs i j (Nat.zero_le _) hij (by simp at hj; omega)
    rw [ltL, getElem!_pos d j (by simpa using hj), getElem!_pos d i (by simpa using hi)] at this
    simpa using this
end Go.Proofs.YtfkdfabbpebljaaGreat.DOk
namespace Go.Proofs.YtfkdfabbpebljaaGreat.DOk
open Go.RowKit Go.Proofs.YtfkdfabbpebljaaGreat.Bytes Go.Proofs.YtfkdfabbpebljaaGreat.Rows_ Go.Maps Go.WideMaps
set_option linter.unusedVariables false

theorem sameS (a b : ByteArray) : (kS a).sameKey (kS b) = true ↔ a = b := by
  unfold kS Lit.sameKey
  rw [beq_iff_eq]
  constructor
  · intro h
    exact ByteArray.ext (by rw [← Array.toArray_toList (xs := a.data), h, Array.toArray_toList])
  · intro h; rw [h]
theorem toList_inj {a b : ByteArray} (h : a.toList = b.toList) : a = b := (sameS a b).1 (by rw [(kS_iff a b).2 h]; exact (sameS b b).2 rfl)

/-- how far the map's entries have come into the list -/
structure Coll (l : List LinkD) (D : Dat) (left : Lit → Bool) (acc : List LinkD) : Prop where
  sub : ∀ z ∈ acc, z ∈ l ∧ left (kS z.1) = false
  nod : acc.Nodup
  all : ∀ z ∈ l, z ∈ acc ∨ left (kS z.1) = true
  has_ : ∀ kl, left kl = true → has D kl = true
theorem coll_start (l : List LinkD) (D : Dat) (hS : Same l D) : Coll l D (has D) [] :=
  ⟨fun z hz => (by cases hz), List.nodup_nil, fun z hz => .inr ((hS.2.1 z.1).2 ⟨z, hz, rfl⟩), fun _ h => h⟩
theorem coll_in {l : List LinkD} {D : Dat} {left : Lit → Bool} {acc : List LinkD} (h : Coll l D left acc) (hS : Same l D) (hV : Val l D) {x : ByteArray} {c : Int} (hx : left (kS x) = true) (hat : ∀ zd, D.atKey (kS x) zd = vI c) : (x, c) ∈ l := by
  obtain ⟨z, hz, e⟩ := (hS.2.1 x).1 (h.has_ _ hx)
  have ex : z.1 = x := toList_inj e
  have ev := hV z hz
  rw [ex, hat] at ev
  have ec : c = z.2 := by unfold vI at ev; injection ev with ev; injection ev
  rw [← ex, ec]; exact hz
theorem coll_step {l : List LinkD} {D : Dat} {left : Lit → Bool} {acc : List LinkD} (h : Coll l D left acc) (hS : Same l D) (hV : Val l D) (hR : Ris l) {x : ByteArray} {c : Int} (hx : left (kS x) = true) (hat : ∀ zd, D.atKey (kS x) zd = vI c) :
    Coll l D (fun z => left z && !z.sameKey (kS x)) (acc ++ [(x, c)]) := by
  have hin := coll_in h hS hV hx hat
  refine ⟨fun z hz => ?_, ?_, fun z hz => ?_, fun kl hk => h.has_ kl (by rw [Bool.and_eq_true] at hk; exact hk.1)⟩
  · rcases List.mem_append.1 hz with hz | hz
    · obtain ⟨a, b⟩ := h.sub z hz
      exact ⟨a, by rw [b]; rfl⟩
    · rw [List.mem_singleton] at hz
      subst hz
      exact ⟨hin, by rw [(sameS x x).2 rfl]; simp⟩
  · rw [List.nodup_append]
    refine ⟨h.nod, List.pairwise_singleton _ _, fun a ha b hb => ?_⟩
    rw [List.mem_singleton] at hb
    rintro rfl
    subst hb
    have := (h.sub _ ha).2
    rw [hx] at this; cases this
  · rcases h.all z hz with ha | ha
    · exact .inl (List.mem_append.2 (.inl ha))
    · by_cases e : z.1 = x
      · refine .inl (List.mem_append.2 (.inr ?_))
        rw [List.mem_singleton]
        have ev := hV z hz
        rw [e, hat] at ev
        have ec : c = z.2 := by unfold vI at ev; injection ev with ev; injection ev
        rw [← e, ec]
      · refine .inr ?_
        rw [ha]
        have : (kS z.1).sameKey (kS x) = false := by
          cases hs : (kS z.1).sameKey (kS x)
          · rfl
          · exact absurd ((sameS _ _).1 hs) e
        rw [this]; rfl
theorem ris_nodup {l : List LinkD} (h : Ris l) : l.Nodup := List.Pairwise.imp (fun hab e => by subst e; rw [less_irrefl] at hab; cases hab) h
theorem coll_end {l : List LinkD} {D : Dat} {left : Lit → Bool} {acc : List LinkD} (h : Coll l D left acc) (hR : Ris l) (h0 : ∀ kl, left kl = false) : acc.Perm l :=
  (List.perm_ext_iff_of_nodup h.nod (ris_nodup hR)).2 fun a => ⟨fun ha => (h.sub a ha).1, fun ha => (h.all a ha).elim id fun hl => by rw [h0] at hl; cases hl⟩
theorem ris_inj : ∀ {l : List LinkD}, Ris l → ∀ {a b : LinkD}, a ∈ l → b ∈ l → a.1.toList = b.1.toList → a = b
  | [], _, _, _, ha, _, _ => by cases ha
  | x :: l, h, a, b, ha, hb, e => by
    obtain ⟨h1, h2⟩ := List.pairwise_cons.1 h
    rcases List.mem_cons.1 ha with rfl | ha2 <;> rcases List.mem_cons.1 hb with rfl | hb2
    · rfl
    · have := h1 _ hb2; rw [e, less_irrefl] at this; cases this
    · have := h1 _ ha2; rw [← e, less_irrefl] at this; cases this
    · exact ris_inj h2 ha2 hb2 e
theorem sorted_eq {l s acc : List LinkD} (hR : Ris l) (hp : acc.Perm l) (hs : s.Perm acc) (ho : s.Pairwise fun x y => Op.bytesLess y.1.toList x.1.toList = false) : s = l := by
  have hsl := hs.trans hp
  refine List.Perm.eq_of_pairwise (le := fun x y : LinkD => Op.bytesLess y.1.toList x.1.toList = false) ?_ ho ?_ hsl
  · intro a b ha hb h1 h2
    have hal : a ∈ l := hsl.subset ha
    have e := less_tot _ _ h2 h1
    exact ris_inj hR hal hb e
  · refine List.Pairwise.imp (fun {x y} hxy => ?_) hR
    cases h : Op.bytesLess y.1.toList x.1.toList
    · rfl
    · have := less_trans _ _ _ hxy h
      rw [less_irrefl] at this; cases this

theorem iter_ne {w : World} {R : Value → Option (Dat × List MemPlace)} {b r nn : Nat} {D : Dat} {left : Lit → Bool} {cnt base n c : Nat} {A : Option Addr} {ks : List LinkD} (h : w.ranges Tryz.prog 9 R b r nn D left cnt) (ho : OwnL w base A n c ks) :
    ∀ g, (Value.slice A n c).ownBlock = some g → g ≠ r ∧ g ≠ b := by
  intro g hg
  obtain ⟨es, clock, since, seen, c0, h1, _, _, _, h2, _⟩ := h
  rcases ho.2 with ⟨hv, _⟩ | ⟨g', cap, cur, hv, _, hg', _⟩
  · rw [hv] at hg; cases hg
  · rw [hv] at hg
    injection hg with hg
    simp only at hg
    subst hg
    exact ⟨(fun e => by rw [e, h2] at hg'; cases hg'), (fun e => by rw [e, h1] at hg'; cases hg')⟩

set_option maxRecDepth 100000 in
set_option maxHeartbeats 3200000 in
theorem links_any (b nn : Nat) (D : Dat) (l : List LinkD) (w : World) (ho : OwnM w b nn D) (hS : Same l D) (hV : Val l D) (hR : Ris l) (hn : size D ≤ 2000000) :
    Calls Tryz.prog 89 #[.map (some b)] w fun e w' => ∃ A' n' c', e = .returned (.slice A' n' c') ∧ OwnL w' w.heap.size A' n' c' l ∧ Below w.heap.size w w' := by
  obtain ⟨i0, hi, hz0, hz1, hz2⟩ := info_parts linkInfo
  have HS := Lib.hid hS
  have HV := Lib.hid hV
  have HR := Lib.hid hR
  have hblt := ho.lt
  clear hS hV hR
  go_enter Tryz.func89, Tryz.ntmps89
  go_wp2_with (first
    | (at_len; refine wpList_len_own _ rfl _ 67 rfl 9 3 Tryz.underlying67 _ b nn D rfl ho ?_)
    | (at_make; refine wpList_make_own _ rfl _ _ 33 rfl w.heap.size 86 i0 (.agg #[.string ByteArray.empty, .int .i64 0]) 2 Tryz.underlying33 hi hz0 hz1 _ _ _ (size D) rfl rfl rfl (by rw [hz2]; omega) (by unfold maxLen; omega) (Nat.le_refl _) ?_; intro w1 ho1 hg1; have hs1 := hg1.size; have hm1 := World.ownsMap.kept ho hg1 (by simp))
    | (at_range; refine wpList_range_own _ rfl _ 67 rfl 9 3 skey Tryz.underlying67 _ b nn D rfl hm1 ?_; intro w2 hrg2 hg2 hs2))
  go_frame
  go_loopw [3] (fun v wr => ∃ (left : Lit → Bool) (cnt : Nat) (acc : List LinkD) (g n2 c2 : Nat), v = .slice (some ⟨g, 0, none⟩) n2 c2 ∧ wr.ranges Tryz.prog 9 (plainElem Tryz.prog 3) b w1.heap.size nn D left cnt ∧ OwnL wr w.heap.size (some ⟨g, 0, none⟩) n2 c2 acc ∧ Coll l D left acc ∧ n2 + cnt ≤ size D ∧ Below w.heap.size w wr)
    (fun _ wr => wr.rangeLeft b w1.heap.size)
  case atStart =>
    have hb1 : Below w.heap.size w w1 := (Below.refl _ w).grown hg1 (Nat.le_refl _) (fun k h => by cases h)
    exact ⟨_, _, [], w.heap.size, 0, size D, rfl, hrg2, World.ownsRow.kept ho1 hg2 (.inr (by simp [Value.ownBlock])), coll_start l D HS.out, by omega, hb1.grown hg2 hs1 (fun k h => by cases h)⟩
  case round =>
    obtain ⟨left, cnt, acc, g, n2, c2, rfl, hrg, hown, hC, hcs, hb⟩ := hrel
    have HC := Lib.hid hC
    have HB := Lib.hid hb
    have hbs := hb.size
    have HRG := Lib.hid hrg
    clear hC hb ho hm1 hg1 hg2 hrg2 ho1
    go_wp2_with (first
      | (at_next; refine wpList_next_ranges _ rfl _ rfl 9 skey (plainElem Tryz.prog 3) Value.string (Value.int .i64) (fun key kl hkey => by obtain ⟨s, h, _⟩ := string_of_keyOf Tryz.underlying9 hkey; exact ⟨s, h⟩) (fun v y hv => by obtain ⟨a, h, _⟩ := plainElem_int_inv Tryz.underlying3 hv; exact ⟨a, h⟩) b w1.heap.size nn D left cnt rfl HRG.out ?_ ?_))
    · intro hc0 hl0
      have HP := Lib.hid (coll_end HC.out HR.out hl0)
      clear hl0 hc0
      go_wp2_with fail
      refine (sort_any g n2 c2 w.heap.size acc _ hown (by omega)).mono ?_
      rintro e w3 ⟨rfl, s, hp, hpw, hos, hgs⟩
      obtain rfl := sorted_eq HR.out HP.out hp hpw
      have HB3 := Lib.hid (HB.out.grown hgs hbs (fun k h => by injection h with h; subst h; exact (hown.blk g rfl).1))
      have HOS := Lib.hid hos
      clear hp hpw hos hgs hown
      go_wp2_with fail
      go_ret
      exact ⟨_, _, _, rfl, HOS.out, HB3.out⟩
    · intro x c kl yd yp w3 cnt1 hkey hlx hv hat hrg1 hlt hg3 hs3 hen
      obtain ⟨x', ex, rfl, _⟩ := string_of_keyOf Tryz.underlying9 hkey
      cases ex
      obtain ⟨c', ec, ey, _⟩ := plainElem_int_inv Tryz.underlying3 hv
      cases ec
      cases ey
      have HST := Lib.hid (coll_step HC.out HS.out HV.out HR.out hlx hat)
      have hne := iter_ne HRG.out hown
      have hgr0 : g ≠ w1.heap.size ∧ g ≠ b := hne g rfl
      have hown3 : OwnL w3 w.heap.size (some ⟨g, 0, none⟩) n2 c2 acc := World.ownsRow.kept hown hg3 (.inr (fun e => (hne g rfl).1 (by injection e)))
      have HB3 := Lib.hid (HB.out.grown hg3 hbs (fun k h => by injection h with h; omega))
      have hz3 : w.heap.size ≤ w3.heap.size := by omega
      have HRG1 := Lib.hid hrg1
      have hz3w : wr.heap.size ≤ w3.heap.size := by omega
      clear hat hv hkey hlx hown hrg1 hg3 hs3 hne
      go_wp2_with (at_builtin; refine append_link rfl _ _ rfl rfl w3.heap.size rfl rfl hown3 (by omega) hz3 ?_)
      intro A4 c4 w4 ho4 hb4 hgr4
      have hg34 : w3.grownBy w4 (some g) := grown_trans (World.grownBy_alloc w3 _ (some g)) hgr4
      have HRG4 := Lib.hid (HRG1.out.kept hg34 (fun e => hgr0.2 (by injection e with e; exact e.symm)) (fun e => hgr0.1 (by injection e with e; exact e.symm)))
      have HB4 := Lib.hid (HB3.out.trans hb4)
      have HO4 := Lib.hid ho4
      obtain ⟨g4, rfl⟩ : ∃ g4, A4 = some ⟨g4, 0, none⟩ := by
        rcases ho4.2 with ⟨_, h0⟩ | ⟨g', cap, cur, hv, _⟩
        · omega
        · injection hv with e1; exact ⟨g', e1⟩
      clear ho4 hb4 hgr4 hg34 hown3
      go_wp2_with fail
      exact ⟨⟨_, cnt1, _, g4, n2 + 1, c4, rfl, HRG4.out, HO4.out, HST.out, by omega, HB4.out⟩, by rw [HRG4.out.left_eq, HRG.out.left_eq]; exact hlt⟩
end Go.Proofs.YtfkdfabbpebljaaGreat.DOk
namespace Go.Proofs.YtfkdfabbpebljaaGreat.DOk
open Go.RowKit Go.Proofs.YtfkdfabbpebljaaGreat.Bytes Go.Proofs.YtfkdfabbpebljaaGreat.Rows_ Go.Maps Go.WideMaps
set_option linter.unusedVariables false

set_option maxRecDepth 100000 in
set_option maxHeartbeats 3200000 in
theorem ids_any (b nn : Nat) (D : Dat) (l : List LinkD) (w : World) (ho : OwnM w b nn D) (hS : Same l D) (hV : Val l D) (hR : Ris l) (hw : ∀ x ∈ l, (Lit.int .i64 x.2).wf = true) (hn : size D ≤ 2000000) :
    Calls Tryz.prog 90 #[.map (some b)] w fun e w' => ∃ n' ids, e = .returned (.map (some w.heap.size)) ∧ OwnB w' w.heap.size n' (idMap ids) ∧ (∀ z, z ∈ ids ↔ z ∈ l.map (·.2)) ∧ Below w.heap.size w w' := by
  have hmm := @run_makeMap Tryz.prog
  have HS := Lib.hid hS
  have HV := Lib.hid hV
  have HR := Lib.hid hR
  have HW := Lib.hid hw
  have hblt := ho.lt
  have hom := World.ownsMap_made w Tryz.prog 3 (plainElem (H := Unit) Tryz.prog 4)
  have hb0 : Below w.heap.size w (w.alloc (.map #[] 0)) := (Below.refl _ _).alloc (Nat.le_refl _) _
  have HOM := Lib.hid (show OwnB (w.alloc (.map #[] 0)) w.heap.size 0 (idMap []) from hom)
  have HB0 := Lib.hid hb0
  have hm1 : OwnM (w.alloc (.map #[] 0)) b nn D := ho.alloc _
  have hv := Lib.hid (plainElem_bool (H := Unit) Tryz.underlying4 true)
  have e1 : (w.alloc (.map #[] 0)).heap.size = w.heap.size + 1 := by simp
  clear hS hV hR hw hom hb0
  go_enter Tryz.func90, Tryz.ntmps90
  go_wp2_with (first
    | (at_range; refine wpList_range_own _ rfl _ 67 rfl 9 3 skey Tryz.underlying67 _ b nn D rfl hm1 ?_; intro w2 hrg2 hg2 hs2))
  have hs2' : w.heap.size ≤ w2.heap.size := by omega
  have hr0 : w.heap.size < (w.alloc (.map #[] 0)).heap.size := by omega
  clear hs2 e1
  generalize hrr : (w.alloc (.map #[] 0)).heap.size = r at *
  clear hrr
  go_frame
  go_loopw [5] (fun _ wr => ∃ (left : Lit → Bool) (cnt : Nat) (acc : List LinkD) (n2 : Nat), wr.ranges Tryz.prog 9 (plainElem Tryz.prog 3) b r nn D left cnt ∧ OwnB wr w.heap.size n2 (idMap (acc.map (·.2))) ∧ Coll l D left acc ∧ n2 + cnt ≤ size D ∧ Below w.heap.size w wr)
    (fun _ wr => wr.rangeLeft b r)
  case atStart =>
    exact ⟨_, _, [], 0, hrg2, World.ownsMap.kept HOM.out hg2 (by simp), coll_start l D HS.out, by omega, HB0.out.grown hg2 (by simp) (fun k h => by cases h)⟩
  case round =>
    obtain ⟨left, cnt, acc, n2, hrg, hown, hC, hcs, hb⟩ := hrel
    have HC := Lib.hid hC
    have HB := Lib.hid hb
    have hbs := hb.size
    have HRG := Lib.hid hrg
    have HOWN := Lib.hid hown
    clear hC hb ho hm1 hg2 hrg2 hs2' hown hrg
    go_wp2_with (first
      | (at_next; refine wpList_next_ranges _ rfl _ rfl 9 skey (plainElem Tryz.prog 3) Value.string (Value.int .i64) (fun key kl hkey => by obtain ⟨s, h, _⟩ := string_of_keyOf Tryz.underlying9 hkey; exact ⟨s, h⟩) (fun v y hv => by obtain ⟨a, h, _⟩ := plainElem_int_inv Tryz.underlying3 hv; exact ⟨a, h⟩) b r nn D left cnt rfl HRG.out ?_ ?_))
    · intro hc0 hl0
      have HP := Lib.hid (coll_end HC.out HR.out hl0)
      clear hl0 hc0
      go_wp2_with fail
      go_ret
      exact ⟨n2, acc.map (·.2), rfl, HOWN.out, fun z => (HP.out.map (·.2)).mem_iff, HB.out⟩
    · intro x c kl yd yp w3 cnt1 hkey hlx hvv hat hrg1 hlt hg3 hs3 hen
      obtain ⟨x', ex, rfl, _⟩ := string_of_keyOf Tryz.underlying9 hkey
      cases ex
      obtain ⟨c', ec, ey, _⟩ := plainElem_int_inv Tryz.underlying3 hvv
      cases ec
      cases ey
      have hin := coll_in HC.out HS.out HV.out hlx hat
      have hx := Lib.hid (keyOf_int_mk (k := 3) Tryz.underlying3 (HW.out _ hin))
      have HST := Lib.hid (coll_step HC.out HS.out HV.out HR.out hlx hat)
      have hown3 : OwnB w3 w.heap.size n2 (idMap (acc.map (·.2))) := World.ownsMap.kept HOWN.out hg3 (fun e => by injection e with e; omega)
      have HB3 := Lib.hid (HB.out.grown hg3 hbs (fun k h => by injection h with h; omega))
      have HRG1 := Lib.hid hrg1
      have HLT := Lib.hid hlt
      clear hat hvv hkey hlx hrg1 hg3 hin hlt
      go_wp2_with (at_mapUpdate; refine wpList_mapUpdate_own _ rfl _ _ _ 116 rfl 3 4 ikey Tryz.underlying116 _ w.heap.size n2 _ rfl hown3 (by unfold maxLen; omega) _ _ _ rfl rfl hx.out _ [] hv.out ?_)
      intro w4 hown4 hg4
      have HRG4 := Lib.hid (HRG1.out.kept hg4 (fun e => by injection e with e; omega) (fun e => by injection e with e; omega))
      have HO4 := Lib.hid (show OwnB w4 w.heap.size (n2 + 1) (idMap ((acc ++ [(x, c)]).map (·.2))) by rw [List.map_append, List.map_cons, List.map_nil, idMap_snoc]; exact hown4)
      have HB4 := Lib.hid (HB3.out.grown hg4 (by have := HB3.out.size; omega) (fun k h => by injection h with h; omega))
      clear hown4 hg4 hown3
      go_wp2_with fail
      exact ⟨⟨_, cnt1, acc ++ [(x, c)], n2 + 1, HRG4.out, HO4.out, HST.out, by have := HLT.out; omega, HB4.out⟩, by rw [HRG4.out.left_eq, HRG.out.left_eq]; exact HLT.out⟩
end Go.Proofs.YtfkdfabbpebljaaGreat.DOk
namespace Go.Proofs.YtfkdfabbpebljaaGreat.DOk
open Go.RowKit Go.Proofs.YtfkdfabbpebljaaGreat.Bytes Go.Proofs.YtfkdfabbpebljaaGreat.Rows_ Go.Maps
set_option linter.unusedVariables false

theorem OwnB.below {w w' : World} {B b n : Nat} {D : Dat} (h : OwnB w b n D) (hb : Below B w w') (hB : b < B) : OwnB w' b n D := by
  obtain ⟨es, clock, hg, F, hs, rfl⟩ := h
  exact ⟨es, clock, by rw [hb.block b hB]; exact hg, F, hs, rfl⟩
theorem hasM (ids : List Int) (z : Int) : has (idMap ids) (kI z) = hasI ids z := by
  rw [Bool.eq_iff_iff, has_idMap, hasI_iff]
theorem kept_snoc_in {ids : List Int} {fs : List FileD} {k : Nat} (h : k < fs.length) (hi : hasI ids fs[k].id = true) : keptF ids (fs.take (k + 1)) = keptF ids (fs.take k) ++ [fs[k]] := by
  unfold keptF; rw [List.take_succ_eq_append_getElem h, List.filter_append, List.filter_cons_of_pos (by simpa using hi), List.filter_nil]
theorem kept_snoc_out {ids : List Int} {fs : List FileD} {k : Nat} (h : k < fs.length) (hi : hasI ids fs[k].id = false) : keptF ids (fs.take (k + 1)) = keptF ids (fs.take k) := by
  unfold keptF; rw [List.take_succ_eq_append_getElem h, List.filter_append, List.filter_cons_of_neg (by simp [hi]), List.filter_nil, List.append_nil]
theorem kept_all {ids : List Int} {fs : List FileD} (h : ∀ j (hj : j < fs.length), hasI ids fs[j].id = true) : keptF ids fs = fs := by
  unfold keptF; rw [List.filter_eq_self]
  intro f hf
  obtain ⟨i, hi, rfl⟩ := List.getElem_of_mem hf
  exact h i hi
theorem kept_take {ids : List Int} {fs : List FileD} {i : Nat} (hi : i ≤ fs.length) (h : ∀ j (hj : j < fs.length), j < i → hasI ids fs[j].id = true) : keptF ids (fs.take i) = fs.take i := by
  refine kept_all fun j hj => ?_
  rw [List.length_take] at hj
  rw [List.getElem_take]
  exact h j (by omega) (by omega)

set_option maxRecDepth 100000 in
theorem unlinked_any (x0 : Int) (x1 : Option Addr) (x2 x3 : Nat) (x4 : Int) (B mb n : Nat) (ids : List Int) (w : World) (hB : B < w.heap.size) (hc : w.cell? ⟨B, 0, none⟩ = some (.map (some mb))) (ho : OwnB w mb n (idMap ids)) (hw : (Lit.int .i64 x0).wf = true) :
    Calls Tryz.prog 92 #[.agg #[.int .i64 x0, .slice x1 x2 x3, .int .i64 x4], .pointer (some ⟨B, 0, none⟩)] w fun e w' => e = .returned (.bool (!hasI ids x0)) ∧ Below w.heap.size w w' := by
  have hne : B ≠ w.heap.size := by omega
  have hb0 := Lib.hid ((Below.refl w.heap.size w).alloc (Nat.le_refl _) (.cells #[.int .i64 x0, .slice x1 x2 x3, .int .i64 x4] 58))
  have ho1 := Lib.hid (ho.alloc (.cells #[.int .i64 x0, .slice x1 x2 x3, .int .i64 x4] 58))
  have HW := Lib.hid hw
  have HH := Lib.hid (hasM ids x0)
  clear ho hw
  go_enter Tryz.func92, Tryz.ntmps92
  go_wp2_with (at_lookup; refine lookup_ids rfl _ _ rfl rfl ho1.out rfl HW.out HH.out ?_)
  go_ret
  exact ⟨rfl, hb0.out⟩

/-- what the search of the first unlinked file answers -/
def FirstOut (ids : List Int) (fs : List FileD) (e : Ending) : Prop :=
  (e = .returned (.int .i64 (-1)) ∧ ∀ j (hj : j < fs.length), hasI ids fs[j].id = true) ∨
  ∃ i0 : Nat, e = .returned (.int .i64 (i0 : Nat)) ∧ ∃ h : i0 < fs.length, hasI ids fs[i0].id = false ∧ ∀ j (hj : j < fs.length), j < i0 → hasI ids fs[j].id = true
set_option maxRecDepth 100000 in
set_option maxHeartbeats 1600000 in
theorem firstOut_any (F : Option Addr) (nf cf : Nat) (fs : List FileD) (B mb n : Nat) (ids : List Int) (w : World) (hf : RdF w w.heap.size F fs) (hfl : fs.length = nf) (hfn : nf ≤ 2000) (hw : ∀ x ∈ fs, (Lit.int .i64 x.id).wf = true)
    (hB : B < w.heap.size) (hc : w.cell? ⟨B, 0, none⟩ = some (.map (some mb))) (ho : OwnB w mb n (idMap ids)) :
    Calls Tryz.prog 87 #[.slice F nf cf, .func (.func 92) #[] #[.pointer (some ⟨B, 0, none⟩)]] w fun e w' => FirstOut ids fs e ∧ Below w.heap.size w w' := by
  have eg : ∀ args w, (callFunc 92 args).run Tryz.prog w = .ok (.enter 92 args) w := enters_of Tryz.func92 (by kernel_rfl) rfl
  have hmb := ho.lt
  have HF := Lib.hid hf
  have HFL := Lib.hid hfl
  have HW := Lib.hid hw
  have HC := Lib.hid hc
  have HO := Lib.hid ho
  clear hf hfl hw hc ho
  go_enter Tryz.func87, Tryz.ntmps87
  go_wp2_with fail
  go_loopw [5, 8] (fun _ i wr => ∃ k : Nat, k ≤ nf ∧ i = .int .i64 (k : Nat) ∧ Hid (∀ j (hj : j < fs.length), j < k → hasI ids fs[j].id = true) ∧ Below w.heap.size w wr) (fun _ i _ => nf - (intOf i).toNat)
  case atStart => exact ⟨0, Nat.zero_le _, rfl, Lib.hid (fun j hj h => absurd h (by omega)), Below.refl _ _⟩
  case round =>
    obtain ⟨k, hk, rfl, HA, hb⟩ := hrel
    have hz : w.heap.size ≤ wr.heap.size := hb.size
    by_cases hlt : k < nf
    · have hlt' : k < fs.length := by rw [HFL.out]; exact hlt
      obtain ⟨b, o, rfl, hBb, hc0, hc1, hc2⟩ := (HF.out.below (Nat.le_refl _) hb).at_ hlt'
      have HB := Lib.hid hb
      have hcall := unlinked_any fs[k].id fs[k].A fs[k].n fs[k].c fs[k].safe B mb n ids wr (Nat.lt_of_lt_of_le hB hz) ((hb.cell (p := ⟨B, 0, none⟩) hB).trans HC.out) (HO.out.below hb hmb) (HW.out _ (List.getElem_mem hlt'))
      clear hb
      cases hki : hasI ids fs[k].id
      · rw [hki] at hcall
        have HCALL := Lib.hid hcall
        have HR := Lib.hid (show FirstOut ids fs (.returned (.int .i64 (k : Nat))) from .inr ⟨k, rfl, hlt', hki, HA.out⟩)
        clear hcall hki
        generalize fs[k].id = x0 at *
        generalize fs[k].A = x1 at *
        generalize fs[k].n = x2 at *
        generalize fs[k].c = x3 at *
        generalize fs[k].safe = x4 at *
        go_wp2_with (go_at_call 92; refine HCALL.out.mono ?_; rintro e w' ⟨rfl, hb'⟩)
        go_ret
        exact ⟨HR.out, HB.out.trans (hb'.mono hz)⟩
      · rw [hki] at hcall
        have HCALL := Lib.hid hcall
        have HA1 := Lib.hid (show ∀ j (hj : j < fs.length), j < k + 1 → hasI ids fs[j].id = true from fun j hj h => by
          by_cases e : j = k
          · subst e; exact hki
          · exact HA.out j hj (by omega))
        clear hcall hki
        generalize fs[k].id = x0 at *
        generalize fs[k].A = x1 at *
        generalize fs[k].n = x2 at *
        generalize fs[k].c = x3 at *
        generalize fs[k].safe = x4 at *
        go_wp2_with (go_at_call 92; refine HCALL.out.mono ?_; rintro e w' ⟨rfl, hb'⟩)
        exact ⟨⟨k + 1, by omega, by go_num, HA1, HB.out.trans (hb'.mono hz)⟩, by simp [intOf]; omega⟩
    · obtain rfl : nf = k := by omega
      have HB := Lib.hid hb
      have HR := Lib.hid (show FirstOut ids fs (.returned (.int .i64 (-1))) from .inl ⟨rfl, fun j hj => HA.out j hj (by rw [← HFL.out]; exact hj)⟩)
      clear hb
      go_wp2_with fail
      go_ret
      exact ⟨HR.out, HB.out⟩

set_option maxRecDepth 100000 in
set_option maxHeartbeats 6400000 in
theorem deleteF_any (F : Option Addr) (nf cf base : Nat) (fs : List FileD) (B mb n : Nat) (ids : List Int) (w : World) (hf : OwnF w base F nf cf fs) (hfl : fs.length = nf) (hfn : nf ≤ 2000) (hw : ∀ x ∈ fs, (Lit.int .i64 x.id).wf = true)
    (hB : B < w.heap.size) (hc : w.cell? ⟨B, 0, none⟩ = some (.map (some mb))) (ho : OwnB w mb n (idMap ids)) (hne : ∀ g, F = some ⟨g, 0, none⟩ → g ≠ B ∧ g ≠ mb) :
    Calls Tryz.prog 91 #[.slice F nf cf, .func (.func 92) #[] #[.pointer (some ⟨B, 0, none⟩)]] w fun e w' =>
      e = .returned (.slice F (keptF ids fs).length cf) ∧ OwnF w' base F (keptF ids fs).length cf (keptF ids fs) ∧ w.grownBy w' (Value.slice F nf cf).ownBlock := by
  have eg : ∀ args w, (callFunc 92 args).run Tryz.prog w = .ok (.enter 92 args) w := enters_of Tryz.func92 (by kernel_rfl) rfl
  have hmb := ho.lt
  have HF := Lib.hid hf
  have HFL := Lib.hid hfl
  have HW := Lib.hid hw
  have HC := Lib.hid hc
  have HO := Lib.hid ho
  have HNE := Lib.hid hne
  have HFirst := Lib.hid (firstOut_any F nf cf fs B mb n ids w hf.rd hfl hfn hw hB hc ho)
  clear hf hfl hw hc ho hne
  go_enter Tryz.func91, Tryz.ntmps91
  go_wp2_with fail
  refine HFirst.out.mono ?_
  rintro e w1 ⟨hout, hb1⟩
  rcases hout with ⟨rfl, hall⟩ | ⟨i0, rfl, hi, h0, hlo⟩
  · have HK := Lib.hid (kept_all hall)
    have HB1 := Lib.hid hb1
    clear hall hb1 HFirst
    go_wp2_with fail
    go_ret
    rw [HK.out, HFL.out]
    exact ⟨rfl, own_belowK HF.out (Nat.le_refl _) HB1.out, grown_any HB1.out _⟩
  · have hlt0 : i0 < nf := by rw [HFL.out] at hi; exact hi
    have hz1 : w.heap.size ≤ w1.heap.size := hb1.size
    obtain ⟨g, rfl⟩ := own_addr HF.out (by omega)
    obtain ⟨hgB, hgm⟩ := HNE.out g rfl
    have hgl := (World.ownsRow.lt HF.out g rfl)
    have HK0 := Lib.hid (show keptF ids (fs.take (i0 + 1)) = fs.take i0 by rw [kept_snoc_out hi h0, kept_take (Nat.le_of_lt hi) hlo])
    have HST := Lib.hid (show OwnF w1 base (some ⟨g, 0, none⟩) nf cf (keptF ids (fs.take (i0 + 1)) ++ [fs[i0]] ++ fs.drop (i0 + 1)) by
      rw [HK0.out]
      have e : fs.take i0 ++ [fs[i0]] ++ fs.drop (i0 + 1) = fs := by
        rw [List.append_assoc]
        have := List.drop_eq_getElem_cons hi
        rw [show [fs[i0]] ++ fs.drop (i0 + 1) = fs.drop i0 by rw [this]; rfl, List.take_append_drop]
      rw [e]; exact own_belowK HF.out (Nat.le_refl _) hb1)
    have HKL := Lib.hid (show (keptF ids (fs.take (i0 + 1))).length = i0 by rw [HK0.out, List.length_take]; omega)
    have HG1 := Lib.hid (show w.grownBy w1 (some g) from grown_any hb1 _)
    have hne1 : ((i0 : Int) == -1) = false := by simp
    clear hb1 h0 hlo HFirst HNE
    go_wp2_with fail
    go_loopw [5, 6] (fun vi vj wr => ∃ (m k : Nat) (mid : List FileD), vi = .int .i64 (m : Nat) ∧ vj = .int .i64 (k : Nat) ∧ k ≤ nf ∧ m + mid.length = k ∧ 0 < mid.length ∧ Hid ((keptF ids (fs.take k)).length = m) ∧ Hid (OwnF wr base (some ⟨g, 0, none⟩) nf cf (keptF ids (fs.take k) ++ mid ++ fs.drop k)) ∧ w.grownBy wr (some g)) (fun _ j _ => nf - (intOf j).toNat)
    case atStart => exact ⟨i0, i0 + 1, [fs[i0]], rfl, by go_num, by omega, rfl, by simp, HKL, HST, HG1.out⟩
    case round =>
      clear HST HG1 HKL HK0 hne1
      obtain ⟨m, k, mid, rfl, rfl, hk, hmk, hmid, HLen, HOw, hgr⟩ := hrel
      have hz : w.heap.size ≤ wr.heap.size := hgr.size
      by_cases hlt : k < nf
      · have hlt' : k < fs.length := by rw [HFL.out]; exact hlt
        have hkd : fs.drop k = fs[k] :: fs.drop (k + 1) := List.drop_eq_getElem_cons hlt'
        have hrow : (keptF ids (fs.take k) ++ mid ++ fs.drop k)[k]? = some fs[k] := by
          rw [List.getElem?_append_right (by rw [List.length_append, HLen.out]; omega), List.length_append, HLen.out, hmk, Nat.sub_self, hkd]; rfl
        obtain ⟨hkr, hrow'⟩ := List.getElem?_eq_some_iff.1 hrow
        obtain ⟨b', o', ea, _, hc0, hc1, hc2⟩ := (OwnF.rd HOw.out).at_ hkr
        injection ea with ea
        injection ea with ea1 ea2
        subst ea1 ea2
        rw [hrow'] at hc0 hc1 hc2
        rw [Nat.zero_add] at hc0 hc1 hc2
        obtain ⟨u0, hu0⟩ := own_there HOw.out (m * 3) (by omega)
        obtain ⟨u1, hu1⟩ := own_there HOw.out (m * 3 + 1) (by omega)
        obtain ⟨u2, hu2⟩ := own_there HOw.out (m * 3 + 2) (by omega)
        have hba : Below wr.heap.size wr (wr.alloc (.cells #[.int .i64 fs[k].id, .slice fs[k].A fs[k].n fs[k].c, .int .i64 fs[k].safe] 58)) := (Below.refl _ _).alloc (Nat.le_refl _) _
        have hcB : wr.cell? ⟨B, 0, none⟩ = some (.map (some mb)) := hgr.cell HC.out (fun e => by injection e with e; exact hgB e.symm)
        have hoB : OwnB wr mb n (idMap ids) := World.ownsMap.kept HO.out hgr (fun e => by injection e with e; exact hgm e.symm)
        have hBr : B < wr.heap.size := by omega
        have hcall := unlinked_any fs[k].id fs[k].A fs[k].n fs[k].c fs[k].safe B mb n ids (wr.alloc (.cells #[.int .i64 fs[k].id, .slice fs[k].A fs[k].n fs[k].c, .int .i64 fs[k].safe] 58)) (by simp; omega) ((hba.cell (p := ⟨B, 0, none⟩) hBr).trans hcB) (hoB.alloc _) (HW.out _ (List.getElem_mem hlt'))
        have HGR := Lib.hid hgr
        obtain ⟨m0, mid', rfl⟩ : ∃ m0 mid', mid = m0 :: mid' := by
          rcases mid with _ | ⟨a, l⟩
          · exact absurd hmid (by simp)
          · exact ⟨a, l, rfl⟩
        have hgw : g < wr.heap.size := by omega
        clear hgr hrow hrow' hcB hoB
        cases hki : hasI ids fs[k].id
        · rw [hki] at hcall
          have HCALL := Lib.hid hcall
          have HL1 := Lib.hid (show (keptF ids (fs.take (k + 1))).length = m by rw [kept_snoc_out hlt' hki]; exact HLen.out)
          have HO1 := Lib.hid (show OwnF wr base (some ⟨g, 0, none⟩) nf cf (keptF ids (fs.take (k + 1)) ++ (m0 :: mid' ++ [fs[k]]) ++ fs.drop (k + 1)) by
            rw [kept_snoc_out hlt' hki]
            have h := HOw.out
            rw [hkd] at h
            simpa using h)
          clear hcall hki hkd HOw HLen hu0 hu1 hu2
          generalize fs[k].id = x0 at *
          generalize fs[k].A = x1 at *
          generalize fs[k].n = x2 at *
          generalize fs[k].c = x3 at *
          generalize fs[k].safe = x4 at *
          go_wp2_with (go_at_call 92; refine HCALL.out.mono ?_; rintro e w' ⟨rfl, hb'⟩)
          have hbw : Below wr.heap.size wr w' := hba.trans (hb'.mono (by simp))
          exact ⟨⟨m, k + 1, _, rfl, by go_num, by omega, by simp at hmk ⊢; omega, by simp, HL1, Lib.hid (own_belowK HO1.out (Nat.le_refl _) hbw), grown_trans HGR.out (grown_any hbw _)⟩, by simp [intOf]; omega⟩
        · rw [hki] at hcall
          have HCALL := Lib.hid hcall
          have HL1 := Lib.hid (show (keptF ids (fs.take (k + 1))).length = m + 1 by rw [kept_snoc_in hlt' hki, List.length_append, HLen.out]; rfl)
          have HK1 := Lib.hid (kept_snoc_in hlt' hki)
          have HROW := Lib.hid (fun (v : World) (hv : OwnF v base (some ⟨g, 0, none⟩) nf cf (keptF ids (fs.take k) ++ m0 :: mid' ++ fs.drop k)) => by
            unfold OwnF at hv
            rw [List.map_append, List.map_append, List.map_cons, show fileR m0 :: mid'.map fileR = [[Value.int .i64 m0.id, Value.slice m0.A m0.n m0.c, Value.int .i64 m0.safe]] ++ mid'.map fileR from rfl, ← List.append_assoc, List.append_assoc] at hv
            exact row3 (.int .i64 fs[k].id) (.slice fs[k].A fs[k].n fs[k].c) (.int .i64 fs[k].safe) (file_len _) m (by rw [List.length_map]; exact HLen.out) hv)
          have HEND := Lib.hid (show (keptF ids (fs.take (k + 1)) ++ (mid' ++ [fs[k]]) ++ fs.drop (k + 1)).map fileR = (keptF ids (fs.take k)).map fileR ++ [[Value.int .i64 fs[k].id, Value.slice fs[k].A fs[k].n fs[k].c, Value.int .i64 fs[k].safe]] ++ (mid'.map fileR ++ (fs.drop k).map fileR) by
            rw [HK1.out, hkd]; simp [fileR])
          clear hcall hki hkd
          go_wp2_with (go_at_call 92; refine HCALL.out.mono ?_; rintro e w' ⟨rfl, hb'⟩; have hbw : Below wr.heap.size wr w' := hba.trans (hb'.mono (by simp)); have p0 : w'.cell? ⟨wr.heap.size, 0, none⟩ = some (.int .i64 fs[k].id) := (hb'.cell (p := ⟨wr.heap.size, 0, none⟩) (by simp)).trans (by rw [World.cell?_alloc_at _ _ _ _ rfl]; rfl); have p1 : w'.cell? ⟨wr.heap.size, 1, none⟩ = some (.slice fs[k].A fs[k].n fs[k].c) := (hb'.cell (p := ⟨wr.heap.size, 1, none⟩) (by simp)).trans (by rw [World.cell?_alloc_at _ _ _ _ rfl]; rfl); have p2 : w'.cell? ⟨wr.heap.size, 2, none⟩ = some (.int .i64 fs[k].safe) := (hb'.cell (p := ⟨wr.heap.size, 2, none⟩) (by simp)).trans (by rw [World.cell?_alloc_at _ _ _ _ rfl]; rfl); have HOW' := Lib.hid (own_belowK HOw.out (Nat.le_refl _) hbw); have v0 := (hbw.cell (p := ⟨g, m * 3, none⟩) hgw).trans hu0; have v1 := (hbw.cell (p := ⟨g, m * 3 + 1, none⟩) hgw).trans hu1; have v2 := (hbw.cell (p := ⟨g, m * 3 + 2, none⟩) hgw).trans hu2; have f0 := World.ownsRow.frozenAt (h := HOW'.out) (m * 3); have f1 := World.ownsRow.frozenAt (h := HOW'.out) (m * 3 + 1); have f2 := World.ownsRow.frozenAt (h := HOW'.out) (m * 3 + 2); have hmn : m < nf := by omega)
          have HO1 := Lib.hid (show OwnF _ base (some ⟨g, 0, none⟩) nf cf (keptF ids (fs.take (k + 1)) ++ (mid' ++ [fs[k]]) ++ fs.drop (k + 1)) by unfold OwnF; rw [HEND.out]; exact HROW.out _ HOW'.out)
          exact ⟨⟨m + 1, k + 1, mid' ++ [fs[k]], by go_num, by go_num, by omega, by simp at hmk ⊢; omega, by simp, HL1, HO1, grown_trans HGR.out (grown_trans (grown_any hbw _) (grown_trans (Go.Lib.grownBy_setCell _ _ _ _) (grown_trans (Go.Lib.grownBy_setCell _ _ _ _) (Go.Lib.grownBy_setCell _ _ _ _))))⟩, by simp [intOf]; omega⟩
      · obtain rfl : nf = k := by omega
        have e : fs.take nf = fs := List.take_of_length_le (by rw [HFL.out]; exact Nat.le_refl _)
        have hLen := HLen.out
        have hOw := HOw.out
        rw [e] at hLen hOw
        rw [List.drop_of_length_le (by rw [HFL.out]; exact Nat.le_refl _), List.append_nil] at hOw
        have hml : m < nf := by omega
        obtain ⟨w5, hcl, ho5, hg5⟩ := run_clear_files (rows := (keptF ids fs ++ mid).map fileR) hOw (file_len _) (by rw [List.length_map, List.length_append, hLen]; exact hmk) hml (cf - m)
        have HO5 := Lib.hid (show OwnF w5 base (some ⟨g, 0, none⟩) m cf (keptF ids fs) by
          unfold OwnF
          have e2 : ((keptF ids fs ++ mid).map fileR).take m = (keptF ids fs).map fileR := by
            rw [List.map_append, List.take_left' (by rw [List.length_map]; exact hLen)]
          rw [e2] at ho5; exact ho5)
        have HGE := Lib.hid (grown_trans hgr hg5)
        have HLE := Lib.hid hLen
        have hmc : m < cf := by
          have : nf ≤ cf := by
            rcases hOw.2 with ⟨h, _⟩ | ⟨_, _, _, h, _, _, h1, _⟩
            · cases h
            · injection h with _ _ h3; omega
          omega
        have hmc1 : ¬ cf = m := by omega
        have hmc2 : ¬ m = cf := by omega
        clear hOw hLen ho5 hg5 hgr HLen HOw e
        go_wp2_with fail
        go_ret
        rw [HLE.out]
        exact ⟨rfl, HO5.out, HGE.out⟩
end Go.Proofs.YtfkdfabbpebljaaGreat.DOk
namespace Go.Proofs.YtfkdfabbpebljaaGreat.DOk
open Go.RowKit Go.Proofs.YtfkdfabbpebljaaGreat.Bytes Go.Proofs.YtfkdfabbpebljaaGreat.Rows_ Go.Maps
set_option linter.unusedVariables false

theorem Only.new {S : Nat → Prop} {w v : World} (h : Below w.heap.size w v) : Only S w v := Only.grown (grown_any h none) (fun i h => by cases h)
theorem Only.cell_ {S : Nat → Prop} (w : World) (b i : Nat) (v : Value) (h : S b) : Only S w (w.setCell ⟨b, i, none⟩ v) := Only.grown (Go.Lib.grownBy_setCell w b i v) (fun j e => by injection e with e; subst e; exact h)
theorem box_ne_map {w : World} {b m n : Nat} {cs : Array Value} {k : TypeId} {R : Value → Option (Dat × List MemPlace)} {D : Dat} (h : BoxW w b cs) (hm : w.ownsMap Tryz.prog k R m n D) : m ≠ b := by
  rintro rfl
  obtain ⟨es, clock, hg, _⟩ := hm
  unfold BoxW at h
  rw [h] at hg
  cases hg

set_option maxRecDepth 100000 in
set_option maxHeartbeats 6400000 in
theorem settle_any (b base m nn : Nat) (x0 x1 x2 : Value) (F : Option Addr) (nf cf : Nat) (x4 x5 : Value) (fs : List FileD) (D : Dat) (l : List LinkD) (w : World)
    (hx : BoxW w b #[x0, x1, x2, .slice F nf cf, x4, x5]) (hf : OwnF w base F nf cf fs) (hfl : fs.length = nf) (hfn : nf ≤ 2000) (hw : ∀ x ∈ fs, (Lit.int .i64 x.id).wf = true) (hbs : OwnBs w base fs)
    (hm : OwnM w m nn D) (hS : Same l D) (hV : Val l D) (hR : Ris l) (hwl : ∀ x ∈ l, (Lit.int .i64 x.2).wf = true) (hsz : size D ≤ 2000000) :
    Calls Tryz.prog 74 #[.pointer (some ⟨b, 0, none⟩), .map (some m)] w fun e w' => ∃ K' nk' ck', e = .returned (.tuple #[]) ∧
      BoxW w' b #[x0, x1, x2, .slice F (keptF (l.map (·.2)) fs).length cf, .slice K' nk' ck', .slice none 0 0] ∧ OwnF w' base F (keptF (l.map (·.2)) fs).length cf (keptF (l.map (·.2)) fs) ∧ OwnBs w' base (keptF (l.map (·.2)) fs) ∧ OwnL w' w.heap.size K' nk' ck' l ∧ Only (fun i => i = b ∨ (Value.slice F nf cf).ownBlock = some i) w w' := by
  have hmf : ∀ (fn : Fn) (first cap : Array Value) (w : World), (Instr.makeFunc fn first cap).run Tryz.prog w = .ok (.func fn first cap) w := fun _ _ _ _ => rfl
  have hbw := hx.lt
  have hmlt := hm.lt
  have hneF := box_ne_row hx hf (by decide)
  have hneM := box_ne_map hx hm
  have hneB : ∀ f ∈ fs, (Value.slice f.A f.n f.c).ownBlock ≠ some b := fun f h => box_ne_row hx (hbs.1 f h) (by decide)
  have HX := Lib.hid hx
  have HF := Lib.hid hf
  have HFL := Lib.hid hfl
  have HW := Lib.hid hw
  have HBS := Lib.hid hbs
  have HM := Lib.hid hm
  have HNB := Lib.hid hneB
  have HLi := Lib.hid (links_any m nn D l w hm hS hV hR (by omega))
  have HId := Lib.hid (fun W (h : OwnM W m nn D) => ids_any m nn D l W h hS hV hR hwl (by omega))
  clear hx hf hfl hw hbs hm hS hV hR hwl hneB
  go_enter Tryz.func74, Tryz.ntmps74
  go_wp2_with fail
  refine HLi.out.mono ?_
  rintro e v1 ⟨K1, nk1, ck1, rfl, ho1, hb1⟩
  have hx1 := HX.out.below hb1 hbw
  have c4 := hx1.cell 4
  have f4 := hx1.free 4
  have c5 := hx1.cell 5
  have f5 := hx1.free 5
  have s1 : w.heap.size ≤ v1.heap.size := hb1.size
  have HX3 := Lib.hid ((hx1.set4 (.slice K1 nk1 ck1)).set5 (.slice none 0 0))
  have HM3 := Lib.hid (show OwnM ((v1.setCell ⟨b, 4, none⟩ (.slice K1 nk1 ck1)).setCell ⟨b, 5, none⟩ (.slice none 0 0)) m nn D from
    World.ownsMap.kept (World.ownsMap.kept (HM.out.below hb1 (Nat.le_refl _)) (Go.Lib.grownBy_setCell _ _ _ _) (fun e => by injection e with e; exact hneM e)) (Go.Lib.grownBy_setCell _ _ _ _) (fun e => by injection e with e; exact hneM e))
  have HF3 := Lib.hid (show OwnF ((v1.setCell ⟨b, 4, none⟩ (.slice K1 nk1 ck1)).setCell ⟨b, 5, none⟩ (.slice none 0 0)) base F nf cf fs from own_setNe (own_setNe (own_belowK HF.out (Nat.le_refl _) hb1) b 4 _ hneF) b 5 _ hneF)
  have HBS3 := Lib.hid (show OwnBs ((v1.setCell ⟨b, 4, none⟩ (.slice K1 nk1 ck1)).setCell ⟨b, 5, none⟩ (.slice none 0 0)) base fs from ⟨fun f h => own_setNe (own_setNe ((HBS.out.1 f h).below (Nat.le_refl _) hb1) b 4 _ (HNB.out f h)) b 5 _ (HNB.out f h), HBS.out.2⟩)
  have hneL : (Value.slice K1 nk1 ck1).ownBlock ≠ some b := fun e => by have := (World.ownsRow.lt ho1 b e).1; omega
  have HL3 := Lib.hid (show OwnL ((v1.setCell ⟨b, 4, none⟩ (.slice K1 nk1 ck1)).setCell ⟨b, 5, none⟩ (.slice none 0 0)) w.heap.size K1 nk1 ck1 l from own_setNe (own_setNe ho1 b 4 _ hneL) b 5 _ hneL)
  have HON3 := Lib.hid (show Only (fun i => i = b ∨ (Value.slice F nf cf).ownBlock = some i) w ((v1.setCell ⟨b, 4, none⟩ (.slice K1 nk1 ck1)).setCell ⟨b, 5, none⟩ (.slice none 0 0)) from ((Only.new hb1).trans (Only.cell_ _ _ _ _ (.inl rfl))).trans (Only.cell_ _ _ _ _ (.inl rfl)))
  clear hx1 ho1 hb1 HX HF HBS HM HLi
  go_wp2_with fail
  generalize hv3 : (v1.setCell ⟨b, 4, none⟩ (.slice K1 nk1 ck1)).setCell ⟨b, 5, none⟩ (.slice none 0 0) = v3 at *
  have s3 : w.heap.size ≤ v3.heap.size := HON3.out.size
  clear hv3 c4 f4 c5 f5
  refine (HId.out _ HM3.out).mono ?_
  rintro e v4 ⟨n4, ids, rfl, ho4, hiff, hb4⟩
  have s4 : v3.heap.size ≤ v4.heap.size := hb4.size
  have hmb4 := ho4.lt
  have hb3 : b < v3.heap.size := HX3.out.lt
  have hba : Below v4.heap.size v4 (v4.alloc (.cells #[.map (some v3.heap.size)] 116)) := (Below.refl _ _).alloc (Nat.le_refl _) _
  have hb5 : Below v3.heap.size v3 (v4.alloc (.cells #[.map (some v3.heap.size)] 116)) := hb4.trans (hba.mono s4)
  have HX5 := Lib.hid (HX3.out.below hb5 hb3)
  have HF5 := Lib.hid (own_belowK HF3.out (Nat.le_refl _) hb5)
  have HBS5 := Lib.hid (HBS3.out.below (Nat.le_refl _) hb5)
  have HL5 := Lib.hid (own_belowK HL3.out (Nat.le_refl _) hb5)
  have HON5 := Lib.hid (HON3.out.trans (Only.new hb5))
  have HK := Lib.hid (kept_same hiff fs)
  have c3 := HX5.out.cell 3
  have HDel := Lib.hid (deleteF_any F nf cf base fs v4.heap.size v3.heap.size n4 ids (v4.alloc (.cells #[.map (some v3.heap.size)] 116)) HF5.out HFL.out hfn HW.out (by simp) (by rw [World.cell?_alloc_at _ _ _ _ rfl]; rfl) (ho4.alloc _) (fun g e => by
    subst e
    have := (World.ownsRow.lt HF3.out g rfl).2
    omega))
  clear HX3 HF3 HBS3 HL3 HON3 HM3 hb4 hb5 hba ho4 hiff HId
  go_wp2_with fail
  refine HDel.out.mono ?_
  rintro e v6 ⟨rfl, ho6, hg6⟩
  rw [HK.out] at ho6 ⊢
  have hx6 : BoxW v6 b #[x0, x1, x2, .slice F nf cf, .slice K1 nk1 ck1, .slice none 0 0] := by
    unfold BoxW
    rw [hg6.block b HX5.out.lt (fun e => hneF e.symm)]
    exact HX5.out
  have c6 := hx6.cell 3
  have f6 := hx6.free 3
  have hneF6 : (Value.slice F (keptF (l.map (·.2)) fs).length cf).ownBlock ≠ some b := fun e => hneF ((blk_any F nf (keptF (l.map (·.2)) fs).length cf cf).trans e)
  have HX7 := Lib.hid (hx6.set3 (.slice F (keptF (l.map (·.2)) fs).length cf))
  have HF7 := Lib.hid (own_setNe ho6 b 3 (.slice F (keptF (l.map (·.2)) fs).length cf) hneF6)
  have HB7 := Lib.hid (show OwnBs (v6.setCell ⟨b, 3, none⟩ (.slice F (keptF (l.map (·.2)) fs).length cf)) base (keptF (l.map (·.2)) fs) from
    have h6 := kept_sep (ids := l.map (·.2)) (OwnBs.grow HBS5.out HF5.out hg6)
    ⟨fun f h => own_setNe (h6.1 f h) b 3 _ (HNB.out f (kept_mem h)), h6.2⟩)
  have HL7 := Lib.hid (own_setNe (World.ownsRow.kept HL5.out hg6 (by
    rcases h : (Value.slice K1 nk1 ck1).ownBlock with _ | i
    · exact .inl rfl
    · exact .inr fun e => own_ne HL5.out HF5.out (by decide) i h e.symm)) b 3 (.slice F (keptF (l.map (·.2)) fs).length cf) hneL)
  have HON7 := Lib.hid ((HON5.out.trans (Only.grown hg6 (fun i h => .inr h))).trans (Only.cell_ v6 b 3 (.slice F (keptF (l.map (·.2)) fs).length cf) (.inl rfl)))
  clear hx6 ho6 hg6
  go_wp2_with fail
  go_end0
  exact ⟨K1, nk1, ck1, rfl, HX7.out, HF7.out, HB7.out, HL7.out, HON7.out⟩
end Go.Proofs.YtfkdfabbpebljaaGreat.DOk
namespace Go.Proofs.YtfkdfabbpebljaaGreat.DOk
open Go.RowKit Go.Proofs.YtfkdfabbpebljaaGreat.Bytes Go.Proofs.YtfkdfabbpebljaaGreat.Rows_ Go.Maps Go.WideMaps
set_option linter.unusedVariables false
set_option maxRecDepth 100000 in
set_option maxHeartbeats 3200000 in
theorem exec_dir (b base mb nn : Nat) (x0 x1 x2 : Value) (F : Option Addr) (nf cf : Nat) (x4 x5 : Value) (fs : List FileD) (D : Dat) (l : List LinkD) (w : World)
    (hx : BoxW w b #[x0, x1, x2, .slice F nf cf, x4, x5]) (hf : OwnF w base F nf cf fs) (hfl : fs.length = nf) (hfn : nf ≤ 2000) (hw : ∀ x ∈ fs, (Lit.int .i64 x.id).wf = true) (hbs : OwnBs w base fs)
    (hm : OwnM w mb nn D) (hS : Same l D) (hV : Val l D) (hR : Ris l) (hwl : ∀ x ∈ l, (Lit.int .i64 x.2).wf = true) (hsz : size D ≤ 2000000) (name to_ : ByteArray) (A : Option Addr) (n c : Nat) :
    Calls Tryz.prog 37 #[.pointer (some ⟨b, 0, none⟩), .map (some mb), .agg #[.int .i64 6, .string name, .string to_, .slice A n c]] w fun e w' => ∃ K' nk' ck', e = .returned (.int .i64 0) ∧
      BoxW w' b #[x0, x1, x2, .slice F (keptF (l.map (·.2)) fs).length cf, .slice K' nk' ck', .slice none 0 0] ∧ OwnF w' base F (keptF (l.map (·.2)) fs).length cf (keptF (l.map (·.2)) fs) ∧ OwnBs w' base (keptF (l.map (·.2)) fs) ∧ OwnL w' w.heap.size K' nk' ck' l ∧ Only (fun i => i = b ∨ (Value.slice F nf cf).ownBlock = some i) w w' := by
  obtain ⟨W, hW⟩ : ∃ W, W = w.alloc (.cells #[.int .i64 6, .string name, .string to_, .slice A n c] 40) := ⟨_, rfl⟩
  have hbW : Below w.heap.size w W := by rw [hW]; exact (Below.refl _ _).alloc (Nat.le_refl _) _
  have hlt := hx.lt
  have q0 : W.cell? ⟨w.heap.size, 0, none⟩ = some (.int .i64 6) := by rw [hW, World.cell?_alloc_at _ _ _ _ rfl]; rfl
  have hON := Lib.hid (show Only (fun i => i = b ∨ (Value.slice F nf cf).ownBlock = some i) w W from Only.new hbW)
  have hs1 := hbW.size
  have HSE := Lib.hid (settle_any b base mb nn x0 x1 x2 F nf cf x4 x5 fs D l W (hx.below hbW hlt) (own_belowK hf (Nat.le_refl _) hbW) hfl hfn hw ⟨fun f h => (hbs.1 f h).below (Nat.le_refl _) hbW, hbs.2⟩ (hm.below hbW (Nat.le_refl _)) hS hV hR hwl hsz)
  have HW := Lib.hid hW.symm
  clear hW hbW hx hf hfl hw hbs hm hS hV hR hwl
  go_enter Tryz.func37, Tryz.ntmps37
  go_upto_region 1 with fail
  rw [HW.out]
  go_wp2_with fail
  refine HSE.out.mono ?_
  rintro e v1 ⟨K1, nk1, ck1, rfl, hx1, hf1, hb1, hl1, ho1⟩
  have HD := Lib.hid (And.intro hx1 (And.intro hf1 (And.intro hb1 (And.intro hl1 ho1))))
  clear hx1 hf1 hb1 hl1 ho1
  go_wp2_with fail
  go_ret
  exact ⟨_, _, _, rfl, HD.out.1, HD.out.2.1, HD.out.2.2.1, OwnL.more HD.out.2.2.2.1 hs1, hON.out.trans HD.out.2.2.2.2⟩
end Go.Proofs.YtfkdfabbpebljaaGreat.DOk
