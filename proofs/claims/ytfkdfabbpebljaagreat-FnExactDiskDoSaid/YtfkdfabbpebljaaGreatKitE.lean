/- Texts that lay in modules of their own: OkMath, TurnMath, DiskMath, MapVal, DirSpec, ReadMath, Keep, SetBase, CrashMath. -/
import Derived.Test.YtfkdfabbpebljaaGreatKitC
import Derived.Test.YtfkdfabbpebljaaGreatSpecOk
import Derived.Test.YtfkdfabbpebljaaGreatToDisk
import Derived.Test.YtfkdfabbpebljaaGreatKitB
import Derived.Test.YtfkdfabbpebljaaGreatCopySpec
namespace Go.Proofs.YtfkdfabbpebljaaGreat.DOk
open Go.RowKit Go.Proofs.YtfkdfabbpebljaaGreat.Bytes Go.Proofs.YtfkdfabbpebljaaGreat.Rows_ Go.Maps
open Go.Proofs.YtfkdfabbpebljaaGreat.Made (madeB nb)
set_option linter.unusedVariables false

theorem toList_loop (s : ByteArray) : ∀ (n i : Nat) (r : List UInt8), i + n = s.size → ByteArray.toList.loop s i r = r.reverse ++ s.data.toList.drop i
  | 0, i, r, h => by
    rw [ByteArray.toList.loop, if_neg (by omega), List.drop_of_length_le (by simp; omega), List.append_nil]
  | n + 1, i, r, h => by
    have hi : i < s.data.toList.length := by simp; omega
    rw [ByteArray.toList.loop, if_pos (by omega), toList_loop s n (i + 1) _ (by omega), List.drop_eq_getElem_cons hi, List.reverse_cons, List.append_assoc]
    congr 1
    have : s.get! i = s.data.toList[i] := by
      have h2 : i < s.data.size := by simpa using hi
      show s.data[i]! = _
      rw [getElem!_pos s.data i h2]; simp
    rw [this]; rfl
theorem toList_data (s : ByteArray) : s.toList = s.data.toList := by
  unfold ByteArray.toList
  rw [toList_loop s s.size 0 [] (by omega)]; simp
theorem less_total : ∀ a b : List UInt8, (Op.bytesLess a b || a == b) = !Op.bytesLess b a
  | [], [] => rfl
  | [], y :: s => rfl
  | x :: r, [] => rfl
  | x :: r, y :: s => by
    unfold Op.bytesLess
    have ih := less_total r s
    have e : (x :: r == y :: s) = (x == y && r == s) := rfl
    rw [e]
    rcases Nat.lt_trichotomy x.toNat y.toNat with h | h | h
    · have h1 : (x < y) = true := by simp [UInt8.lt_iff_toNat_lt, h]
      have h2 : (x == y) = false := by simp; intro e; subst e; omega
      have h3 : (y < x) = false := by simp [UInt8.lt_iff_toNat_lt]; omega
      have h4 : (y == x) = false := by simp; intro e; subst e; omega
      simp [h1, h2, h3, h4]
    · have h0 : x = y := UInt8.toNat_inj.1 h
      subst h0
      have h3 : (x < x) = false := by simp
      simp [h3, ih]
    · have h1 : (x < y) = false := by simp [UInt8.lt_iff_toNat_lt]; omega
      have h2 : (x == y) = false := by simp; intro e; subst e; omega
      have h3 : (y < x) = true := by simp [UInt8.lt_iff_toNat_lt, h]
      have h4 : (y == x) = false := by simp; intro e; subst e; omega
      simp [h1, h2, h3, h4]

/-! ### ids -/
theorem pigeon : ∀ (a b : List Int), a.Nodup → (∀ x ∈ a, x ∈ b) → a.length ≤ b.length
  | [], b, _, _ => Nat.zero_le _
  | x :: r, b, hn, hs => by
    have hx : x ∈ b := hs x (by simp)
    have hn' := List.nodup_cons.1 hn
    have := pigeon r (b.erase x) hn'.2 (fun y hy => (List.mem_erase_of_ne (by intro e; subst e; exact hn'.1 hy)).2 (hs y (by simp [hy])))
    rw [List.length_erase_of_mem hx] at this
    have hb : 0 < b.length := List.length_pos_of_mem hx
    simp; omega
theorem onto (a b : List Int) (hn : a.Nodup) (hs : ∀ x ∈ a, x ∈ b) (hl : b.length ≤ a.length) : ∀ x ∈ b, x ∈ a := by
  intro z hz
  apply Classical.byContradiction
  intro hna
  have := pigeon a (b.erase z) hn (fun y hy => (List.mem_erase_of_ne (by intro e; subst e; exact hna hy)).2 (hs y hy))
  rw [List.length_erase_of_mem hz] at this
  have hb : 0 < b.length := List.length_pos_of_mem hz
  omega
theorem hasI_iff (zs : List Int) (z : Int) : hasI zs z = true ↔ z ∈ zs := by
  unfold hasI; rw [List.any_eq_true]
  exact ⟨fun ⟨x, hx, e⟩ => by have := beq_iff_eq.1 e; subst this; exact hx, fun h => ⟨z, h, by simp⟩⟩
theorem nodup_iff (zs : List Int) : zs.Nodup ↔ ∀ j (h : j < zs.length), hasI (zs.take j) zs[j] = false := by
  constructor
  · intro hn j h
    apply Classical.byContradiction
    intro hc
    have hm := (hasI_iff _ _).1 (by simpa using hc)
    obtain ⟨i, hi, e⟩ := List.getElem_of_mem hm
    rw [List.getElem_take] at e
    have hij : i < j := by rw [List.length_take] at hi; omega
    have hp := List.pairwise_iff_getElem.1 hn i j (by omega) h hij
    exact hp e
  · intro ha
    refine List.pairwise_iff_getElem.2 fun i j hi hj hij e => ?_
    have := ha j hj
    have hm : zs[j] ∈ zs.take j := by
      rw [← e]; exact List.mem_take_iff_getElem.2 ⟨i, by omega, rfl⟩
    rw [(hasI_iff _ _).2 hm] at this; cases this
theorem addKey_len : ∀ (xs L : List Lit), (xs.foldl addKey L).length ≤ L.length + xs.length
  | [], L => by simp
  | x :: r, L => by
    rw [List.foldl_cons]
    have := addKey_len r (addKey L x)
    have h2 : (addKey L x).length ≤ L.length + 1 := by unfold addKey; split <;> simp
    simp; omega
theorem any_same (L : List Lit) (x : Lit) (hx : WideAt.IsKeyLit x) : (L.any fun y => y.sameKey x) = true ↔ x ∈ L := by
  rw [List.any_eq_true]
  constructor
  · rintro ⟨y, hy, e⟩
    rw [← WideAt.sameKey_eq e]; exact hy
  · intro h
    refine ⟨x, h, ?_⟩
    cases x <;> first | exact (hx : False).elim | simp [Lit.sameKey]
theorem addKey_nodup : ∀ (xs L : List Lit), (∀ x ∈ xs, WideAt.IsKeyLit x) → ((xs.foldl addKey L).length = L.length + xs.length ↔ xs.Nodup ∧ ∀ x ∈ xs, x ∉ L)
  | [], L, _ => by simp
  | x :: r, L, hk => by
    rw [List.foldl_cons, List.nodup_cons]
    have ih := addKey_nodup r (addKey L x) (fun y hy => hk y (by simp [hy]))
    have hs := any_same L x (hk x (by simp))
    by_cases hx : x ∈ L
    · have e : addKey L x = L := by unfold addKey; rw [if_pos (hs.2 hx)]
      rw [e]
      have := addKey_len r L
      constructor
      · intro h; simp at h; omega
      · intro h; exact absurd hx (h.2 x (by simp))
    · have e : addKey L x = L ++ [x] := by unfold addKey; rw [if_neg (fun h => hx (hs.1 h))]
      rw [e] at ih ⊢
      have el : (L ++ [x]).length + r.length = L.length + (x :: r).length := by simp; omega
      rw [← el, ih]
      constructor
      · rintro ⟨h1, h2⟩
        refine ⟨⟨fun hr => h2 x hr (by simp), h1⟩, fun y hy => ?_⟩
        rcases List.mem_cons.1 hy with rfl | hy
        · exact hx
        · exact fun hl => h2 y hy (by simp [hl])
      · rintro ⟨⟨h1, h2⟩, h3⟩
        refine ⟨h2, fun y hy hl => ?_⟩
        rcases List.mem_append.1 hl with hl | hl
        · exact h3 y (by simp [hy]) hl
        · simp at hl; subst hl; exact h1 hy
theorem kI_inj {a b : Int} (h : kI a = kI b) : a = b := by unfold kI at h; injection h
theorem size_idMap (ids : List Int) : ids.length = Maps.size (idMap ids) ↔ ids.Nodup := by
  unfold idMap
  rw [size_setOf tru _ (idMap_lits ids)]
  have h := addKey_nodup (ids.map kI) [] (idMap_lits ids)
  simp only [List.length_nil, Nat.zero_add, List.length_map] at h
  rw [eq_comm, h]
  constructor
  · rintro ⟨h1, _⟩
    exact List.Pairwise.of_map kI (fun a b hab e => hab (by rw [e])) h1
  · intro hn
    exact ⟨List.Pairwise.map kI (fun a b hab e => hab (kI_inj e)) hn, fun x _ => by simp⟩
theorem has_idMap (ids : List Int) (z : Int) : has (idMap ids) (kI z) = true ↔ z ∈ ids := by
  unfold idMap
  rw [has_setOf tru (kI z) _ (idMap_lits ids), any_same _ _ (show WideAt.IsKeyLit (kI z) from trivial)]
  constructor
  · intro h
    obtain ⟨y, hy, e⟩ := List.mem_map.1 h
    rw [← kI_inj e]; exact hy
  · intro h; exact List.mem_map.2 ⟨z, h, rfl⟩

/-! ### files -/
theorem lastId_pos (fs : List FileD) (j : Nat) (h : j < fs.length) (hj : 0 < j) : lastId fs j = (fs[j - 1]'(by omega)).id := by
  unfold lastId; rw [dif_pos ⟨hj, by omega⟩]
theorem files_iff (next : Int) (fs : List FileD) : (∀ j h, FileAt next fs j h) ↔ ∀ j h, FileAtI next fs j h := by
  constructor
  · intro ha j h
    obtain ⟨h1, h2, h3, h4, h5⟩ := ha j h
    refine ⟨?_, h2, h4, h5⟩
    rcases Nat.eq_zero_or_pos j with hj | hj
    · subst hj; rw [lastId_zero]; omega
    · rw [lastId_pos fs j h hj]; exact h3 hj
  · intro ha
    have hpos : ∀ j (h : j < fs.length), 1 ≤ fs[j].id := by
      intro j
      induction j with
      | zero => intro h; have := (ha 0 h).1; rw [lastId_zero] at this; omega
      | succ j ih =>
        intro h
        have h1 := (ha (j + 1) h).1
        rw [lastId_pos fs (j + 1) h (by omega)] at h1
        have h2 := ih (by omega)
        have h3 : (fs[j + 1 - 1]'(by omega)).id = fs[j].id := rfl
        omega
    intro j h
    obtain ⟨h1, h2, h4, h5⟩ := ha j h
    refine ⟨hpos j h, h2, fun hj => ?_, h4, h5⟩
    rw [lastId_pos fs j h hj] at h1; exact h1
theorem fids_nodup (next : Int) (fs : List FileD) (ha : ∀ j h, FileAt next fs j h) : (fidsD fs).Nodup := by
  have hmono : ∀ d i (hi : i + (d + 1) < fs.length), (fs[i]'(by omega)).id < fs[i + (d + 1)].id := by
    intro d
    induction d with
    | zero => intro i hi; have := (ha (i + 1) hi).2.2.1 (by omega); exact this
    | succ d ih =>
      intro i hi
      have h1 := ih i (by omega)
      have h2 := (ha (i + (d + 1 + 1)) hi).2.2.1 (by omega)
      have e : (fs[i + (d + 1 + 1) - 1]'(by omega)).id = (fs[i + (d + 1)]'(by omega)).id := rfl
      omega
  refine List.pairwise_iff_getElem.2 fun i j hi hj hij e => ?_
  unfold fidsD at e hi hj
  rw [List.length_map] at hi hj
  rw [List.getElem_map, List.getElem_map] at e
  obtain ⟨d, rfl⟩ : ∃ d, j = i + (d + 1) := ⟨j - i - 1, by omega⟩
  have := hmono d i hj
  omega
theorem fids_pos (next : Int) (fs : List FileD) (ha : ∀ j h, FileAt next fs j h) : ∀ z ∈ fidsD fs, 0 < z := by
  intro z hz
  obtain ⟨f, hf, rfl⟩ := List.mem_map.1 hz
  obtain ⟨j, hj, rfl⟩ := List.getElem_of_mem hf
  have := (ha j hj).1
  show 0 < fs[j].id
  omega
theorem kept_iff (ks : List LinkD) : (∀ j h, KeptAt ks j h) ↔ ∀ j h, KeptAtI ks j h := by
  have h0 : ∀ a b : List UInt8, leB b a = false ↔ Op.bytesLess a b = true := by
    intro a b; unfold leB; rw [less_total b a]; cases Op.bytesLess a b <;> simp
  constructor
  · intro ha j h; exact ⟨(ha j h).1, fun hj => (h0 _ _).2 ((ha j h).2 hj)⟩
  · intro ha j h; exact ⟨(ha j h).1, fun hj => (h0 _ _).1 ((ha j h).2 hj)⟩
theorem ids_iff (next : Int) (fs : List FileD) (ks : List LinkD) (ts : List TurnD) (ha : ∀ j h, FileAt next fs j h) :
    ((idsD ks ts).length = fs.length ∧ ∀ j h, IdAt (fidsD fs) (idsD ks ts) j h) ↔ IdsOkI fs ks ts := by
  have hfl : (fidsD fs).length = fs.length := by unfold fidsD; simp
  have hfn := fids_nodup next fs ha
  have hall : (∀ j (h : j < fs.length), has (idMap (idsD ks ts)) (kI fs[j].id) = true) ↔ ∀ z ∈ fidsD fs, z ∈ idsD ks ts := by
    constructor
    · intro h z hz
      obtain ⟨f, hf, rfl⟩ := List.mem_map.1 hz
      obtain ⟨j, hj, rfl⟩ := List.getElem_of_mem hf
      exact (has_idMap _ _).1 (h j hj)
    · intro h j hj
      exact (has_idMap _ _).2 (h _ (List.mem_map.2 ⟨fs[j], List.getElem_mem hj, rfl⟩))
  unfold IdsOkI
  rw [hall, size_idMap]
  constructor
  · rintro ⟨hl, hid⟩
    have hn : (idsD ks ts).Nodup := (nodup_iff _).2 fun j h => (hid j h).1
    have hs : ∀ z ∈ idsD ks ts, z ∈ fidsD fs := by
      intro z hz
      obtain ⟨j, hj, rfl⟩ := List.getElem_of_mem hz
      exact (hasI_iff _ _).1 (hid j hj).2
    exact ⟨onto _ _ hn hs (by omega), hn, hl⟩
  · rintro ⟨hs, hn, hl⟩
    have hs' := onto _ _ hfn hs (by omega)
    exact ⟨hl, fun j h => ⟨(nodup_iff _).1 hn j h, (hasI_iff _ _).2 (hs' _ (List.getElem_mem h))⟩⟩
theorem ids_pos (next : Int) (fs : List FileD) (ks : List LinkD) (ts : List TurnD) (ha : ∀ j h, FileAt next fs j h) (hid : ∀ j h, IdAt (fidsD fs) (idsD ks ts) j h) : ∀ z ∈ idsD ks ts, 0 < z := by
  intro z hz
  obtain ⟨j, hj, rfl⟩ := List.getElem_of_mem hz
  exact fids_pos next fs ha _ ((hasI_iff _ _).1 (hid j hj).2)
end Go.Proofs.YtfkdfabbpebljaaGreat.DOk
namespace Go.Proofs.YtfkdfabbpebljaaGreat.DOk
open Go.RowKit Go.Proofs.YtfkdfabbpebljaaGreat.Bytes Go.Proofs.YtfkdfabbpebljaaGreat.Rows_ Go.Maps
open Go.Proofs.YtfkdfabbpebljaaGreat.Made (madeB nb)
set_option linter.unusedVariables false

def InN (l : List LinkD) (s : List UInt8) : Prop := ∃ x ∈ l, x.1.toList = s
def Same (l : List LinkD) (D : Dat) : Prop := Maps.IsMap D ∧ (∀ s : ByteArray, has D (kS s) = true ↔ InN l s.toList) ∧ ∀ x ∈ l, 0 < x.2
theorem kS_iff (a b : ByteArray) : kS a = kS b ↔ a.toList = b.toList := by
  rw [toList_data, toList_data]; unfold kS
  constructor
  · intro h; injection h
  · intro h; rw [h]
theorem find_pos : ∀ (l : List LinkD) (s : List UInt8), (∀ x ∈ l, 0 < x.2) → (0 < findD l s ↔ InN l s)
  | [], s, _ => by unfold findD InN; simp
  | x :: r, s, hp => by
    have ih := find_pos r s (fun y hy => hp y (by simp [hy]))
    have hx := hp x (by simp)
    unfold findD
    by_cases h : (x.1.toList == s) = true
    · rw [if_pos h]
      exact ⟨fun _ => ⟨x, by simp, by simpa using h⟩, fun _ => hx⟩
    · rw [if_neg h, ih]
      constructor
      · rintro ⟨y, hy, e⟩; exact ⟨y, by simp [hy], e⟩
      · rintro ⟨y, hy, e⟩
        rcases List.mem_cons.1 hy with rfl | hy
        · exact absurd (by simpa using e) h
        · exact ⟨y, hy, e⟩
theorem find_mem : ∀ (l : List LinkD) (s : List UInt8), InN l s → ∃ x ∈ l, x.2 = findD l s
  | [], s, h => by obtain ⟨x, hx, _⟩ := h; cases hx
  | x :: r, s, h => by
    unfold findD
    by_cases hx : (x.1.toList == s) = true
    · rw [if_pos hx]; exact ⟨x, by simp, rfl⟩
    · rw [if_neg hx]
      obtain ⟨y, hy, e⟩ := h
      rcases List.mem_cons.1 hy with rfl | hy
      · exact absurd (by simpa using e) hx
      · obtain ⟨z, hz, ez⟩ := find_mem r s ⟨y, hy, e⟩
        exact ⟨z, by simp [hz], ez⟩
theorem mem_less (l : List LinkD) (s : List UInt8) (y : LinkD) : y ∈ lessD l s ↔ y ∈ l ∧ y.1.toList ≠ s := by
  unfold lessD; rw [List.mem_filter]; simp
theorem fold_true (s : ByteArray) (id : Int) : ∀ (r : List LinkD) (l : List LinkD), (r.foldl (withStep s id) (l, true)).2 = true
  | [], l => rfl
  | x :: r, l => by
    rw [List.foldl_cons]
    have : withStep s id (l, true) x = (l ++ [(x.1, x.2)], true) := rfl
    rw [this]; exact fold_true s id r _
theorem mem_fold (s : ByteArray) (id : Int) (y : LinkD) : ∀ (r : List LinkD) (l : List LinkD) (d : Bool),
    (y ∈ (r.foldl (withStep s id) (l, d)).1 ↔ y ∈ l ∨ y ∈ r ∨ (y = (s, id) ∧ d = false ∧ (r.foldl (withStep s id) (l, d)).2 = true))
  | [], l, d => by
    constructor
    · intro h; exact .inl h
    · rintro (h | h | ⟨_, h1, h2⟩)
      · exact h
      · cases h
      · change d = true at h2; rw [h1] at h2; cases h2
  | x :: r, l, d => by
    rw [List.foldl_cons]
    by_cases hc : (!d && gtB x.1.toList s.toList) = true
    · have e : withStep s id (l, d) x = (l ++ [(s, id)] ++ [(x.1, x.2)], true) := by unfold withStep; rw [if_pos hc]
      have hd : d = false := by cases d <;> simp_all
      rw [e, mem_fold s id y r _ true, fold_true]
      constructor
      · rintro (h | h | ⟨_, h, _⟩)
        · rcases List.mem_append.1 h with h | h
          · rcases List.mem_append.1 h with h | h
            · exact .inl h
            · exact .inr (.inr ⟨by simpa using h, hd, rfl⟩)
          · exact .inr (.inl (by simp at h; rw [h]; simp))
        · exact .inr (.inl (by simp [h]))
        · cases h
      · rintro (h | h | ⟨h, _, _⟩)
        · exact .inl (by simp [h])
        · rcases List.mem_cons.1 h with rfl | h
          · exact .inl (by simp)
          · exact .inr (.inl h)
        · exact .inl (by simp [h])
    · have e : withStep s id (l, d) x = (l ++ [(x.1, x.2)], d) := by unfold withStep; rw [if_neg hc]
      rw [e, mem_fold s id y r _ d]
      constructor
      · rintro (h | h | h)
        · rcases List.mem_append.1 h with h | h
          · exact .inl h
          · exact .inr (.inl (by simp at h; rw [h]; simp))
        · exact .inr (.inl (by simp [h]))
        · exact .inr (.inr h)
      · rintro (h | h | h)
        · exact .inl (by simp [h])
        · rcases List.mem_cons.1 h with rfl | h
          · exact .inl (by simp)
          · exact .inr (.inl h)
        · exact .inr (.inr h)
theorem mem_with (l : List LinkD) (s : ByteArray) (id : Int) (y : LinkD) : y ∈ withD l s id ↔ y ∈ l ∨ y = (s, id) := by
  have h := mem_fold s id y l [] false
  unfold withD withGo
  cases hd : (l.foldl (withStep s id) ([], false)).2
  · rw [if_neg (by simp)]
    rw [hd] at h
    rw [List.mem_append, h]; simp
  · rw [if_pos rfl]
    rw [hd] at h
    rw [h]; simp
theorem inN_with (l : List LinkD) (s : ByteArray) (id : Int) (t : List UInt8) : InN (withD l s id) t ↔ InN l t ∨ s.toList = t := by
  unfold InN
  constructor
  · rintro ⟨x, hx, e⟩
    rcases (mem_with l s id x).1 hx with h | rfl
    · exact .inl ⟨x, h, e⟩
    · exact .inr e
  · rintro (⟨x, hx, e⟩ | e)
    · exact ⟨x, (mem_with l s id x).2 (.inl hx), e⟩
    · exact ⟨(s, id), (mem_with l s id _).2 (.inr rfl), e⟩
theorem inN_less (l : List LinkD) (s t : List UInt8) : InN (lessD l s) t ↔ InN l t ∧ t ≠ s := by
  unfold InN
  constructor
  · rintro ⟨x, hx, e⟩
    have := (mem_less l s x).1 hx
    exact ⟨⟨x, this.1, e⟩, by rw [← e]; exact this.2⟩
  · rintro ⟨⟨x, hx, e⟩, hne⟩
    exact ⟨x, (mem_less l s x).2 ⟨hx, by rw [e]; exact hne⟩, e⟩
theorem has_put (D : Dat) (h : Maps.IsMap D) (a b : ByteArray) (v : Dat) : has (D.put (kS a) v) (kS b) = true ↔ has D (kS b) = true ∨ a.toList = b.toList := by
  by_cases e : a.toList = b.toList
  · have : kS b = kS a := ((kS_iff a b).2 e).symm
    rw [this, has_put_same h (show WideAt.IsKeyLit (kS a) from trivial)]; simp [e]
  · rw [has_put_other (fun h' => e ((kS_iff a b).1 h'.symm))]; simp [e]
theorem has_del (D : Dat) (a b : ByteArray) : has (D.del (kS a)) (kS b) = true ↔ has D (kS b) = true ∧ a.toList ≠ b.toList := by
  by_cases e : a.toList = b.toList
  · have : kS b = kS a := ((kS_iff a b).2 e).symm
    rw [this, has_del_same]; simp [e]
  · rw [has_del_other (fun h' => e ((kS_iff a b).1 h'.symm))]; simp [e]

theorem same_dirL_rev : ∀ (r : List LinkD), (∀ x ∈ r, 0 < x.2) → Same r.reverse (dirL r.reverse)
  | [], _ => ⟨isMap_empty, fun s => ⟨(fun h => by cases h), fun ⟨x, hx, _⟩ => by cases hx⟩, fun x hx => by cases hx⟩
  | x :: r, hp => by
    obtain ⟨h1, h2, h3⟩ := same_dirL_rev r (fun y hy => hp y (by simp [hy]))
    rw [List.reverse_cons]
    have e : dirL (r.reverse ++ [x]) = (dirL r.reverse).put (kS x.1) (vI x.2) := by unfold dirL; rw [List.foldl_append]; rfl
    rw [e]
    refine ⟨h1.put _ _, fun s => ?_, fun y hy => ?_⟩
    · rw [has_put _ h1, h2]
      unfold InN
      constructor
      · rintro (⟨y, hy, e2⟩ | e2)
        · exact ⟨y, by simp at hy ⊢; exact .inl hy, e2⟩
        · exact ⟨x, by simp, e2⟩
      · rintro ⟨y, hy, e2⟩
        rcases List.mem_append.1 hy with hy | hy
        · exact .inl ⟨y, hy, e2⟩
        · simp at hy; subst hy; exact .inr e2
    · rcases List.mem_append.1 hy with hy | hy
      · exact h3 y hy
      · simp at hy; subst hy; exact hp _ (by simp)
theorem same_dirL (ks : List LinkD) (hp : ∀ x ∈ ks, 0 < x.2) : Same ks (dirL ks) := by
  have := same_dirL_rev ks.reverse (fun x hx => hp x (by simpa using hx))
  rw [List.reverse_reverse] at this; exact this

/-- one turn: the model's question and the program's two are the same -/
theorem turn_same {l : List LinkD} {D : Dat} (hS : Same l D) (t : TurnD) (hc : t.kind = 1 → 0 < t.id) : turnOkS l t = true ↔ turnOkI t = true ∧ acceptsB D t = true := by
  have hf : decide (0 < findD l t.name.toList) = has D (kS t.name) := by
    rw [Bool.eq_iff_iff, decide_eq_true_iff, find_pos l _ hS.2.2, hS.2.1]
  unfold turnOkS turnOkI acceptsB tokS tokI
  rw [hf]
  by_cases k1 : t.kind = 1
  · have := hc k1
    simp only [k1, if_true]
    cases madeB nb 16 t.name.data.toList <;> cases t.to_.toList.isEmpty <;> cases has D (kS t.name) <;> simp [this]
  · by_cases k4 : t.kind = 4
    · simp only [if_neg k1, if_pos k4]
      cases madeB nb 16 t.name.data.toList <;> cases madeB nb 16 t.to_.data.toList <;> cases has D (kS t.name) <;> cases (t.to_.toList == t.name.toList) <;> simp
    · by_cases k5 : t.kind = 5
      · simp only [if_neg k1, if_neg k4, if_pos k5]
        cases hn : madeB nb 16 t.name.data.toList
        · simp
        · have hne : (t.to_.toList == t.name.toList) = false ∨ t.to_.toList.isEmpty = false := by
            cases he : t.to_.toList.isEmpty
            · exact .inr rfl
            · refine .inl ?_
              have e0 : t.to_.toList = [] := by simpa using he
              have : t.name.toList ≠ [] := by
                intro e1
                rw [toList_data] at e1
                rw [e1] at hn
                simp [madeB] at hn
              rw [e0]; cases hh : t.name.toList with
              | nil => exact absurd hh this
              | cons a r => rfl
          rcases hne with h | h
          · rw [h]; cases t.to_.toList.isEmpty <;> cases has D (kS t.name) <;> simp
          · rw [h]; simp
      · simp only [if_neg k1, if_neg k4, if_neg k5]; simp
/-- .. and behind it both directories are the same -/
theorem turn_next {l : List LinkD} {D : Dat} (hS : Same l D) (t : TurnD) (hok : turnOkS l t = true) : Same (turnD l t) (applyD D t) := by
  have hok' := hok
  obtain ⟨h1, h2, h3⟩ := hS
  have hfp := find_pos l t.name.toList h3
  unfold turnOkS tokS at hok
  unfold turnD applyD
  by_cases k1 : t.kind = 1
  · simp only [k1, if_true, Bool.and_eq_true, decide_eq_true_iff, Bool.not_eq_true'] at hok
    rw [if_pos k1, if_pos k1]
    refine ⟨h1.put _ _, fun s => ?_, fun x hx => ?_⟩
    · rw [has_put _ h1, h2, inN_with]
    · rcases (mem_with _ _ _ _).1 hx with hx | rfl
      · exact h3 x hx
      · exact hok.2.1.2
  · by_cases k4 : t.kind = 4
    · rw [k4] at hok
      rw [if_neg (by decide), if_pos rfl] at hok
      simp only [Bool.and_eq_true, decide_eq_true_iff, Bool.not_eq_true'] at hok
      have hne : t.to_.toList ≠ t.name.toList := by have := hok.2.1.1.2; simpa using this
      have hin : InN l t.name.toList := hfp.1 hok.2.2
      rw [if_neg k1, if_pos k4, if_neg k1, if_pos k4]
      refine ⟨(h1.put _ _).del _, fun s => ?_, fun x hx => ?_⟩
      · rw [has_del, has_put _ h1, h2, inN_with, inN_less, inN_less]
        constructor
        · rintro ⟨h | h, hn⟩
          · by_cases e : t.to_.toList = s.toList
            · exact .inr e
            · exact .inl ⟨⟨h, fun e' => hn e'.symm⟩, fun e' => e e'.symm⟩
          · exact .inr h
        · rintro (⟨⟨h, h4⟩, h5⟩ | h)
          · exact ⟨.inl h, fun e => h4 e.symm⟩
          · exact ⟨.inr h, fun e => hne (h.trans e.symm)⟩
      · rcases (mem_with _ _ _ _).1 hx with hx | rfl
        · exact h3 x ((mem_less _ _ _).1 ((mem_less _ _ _).1 hx).1).1
        · exact hok.2.2
    · by_cases k5 : t.kind = 5
      · rw [if_neg k1, if_neg k4, if_neg k1, if_neg k4, if_pos k5]
        refine ⟨h1.del _, fun s => ?_, fun x hx => h3 x ((mem_less _ _ _).1 hx).1⟩
        rw [has_del, h2, inN_less]
        exact ⟨fun ⟨a, b⟩ => ⟨a, fun e => b e.symm⟩, fun ⟨a, b⟩ => ⟨a, fun e => b e.symm⟩⟩
      · rw [if_neg k1, if_neg k4, if_neg k5] at hok
        simp at hok
theorem dirAt_snoc (ks : List LinkD) (ts : List TurnD) (j : Nat) (h : j < ts.length) : dirAt ks (ts.take (j + 1)) = turnD (dirAt ks (ts.take j)) ts[j] := by
  rw [List.take_succ_eq_append_getElem h]; unfold dirAt; rw [List.foldl_append]; rfl
theorem dirM_snoc' (ks : List LinkD) (ts : List TurnD) (j : Nat) (h : j < ts.length) : dirM ks (ts.take (j + 1)) = applyD (dirM ks (ts.take j)) ts[j] := by
  rw [List.take_succ_eq_append_getElem h]; unfold dirM; rw [List.foldl_append]; rfl
theorem turns_iff (ks : List LinkD) (ts : List TurnD) (hk : ∀ x ∈ ks, 0 < x.2) (ht : ∀ t ∈ ts, t.kind = 1 → 0 < t.id) : (∀ j h, TurnAt ks ts j h) ↔ ∀ j h, TurnAtI ks ts j h := by
  have h0 : Same (dirAt ks (ts.take 0)) (dirM ks (ts.take 0)) := same_dirL ks hk
  constructor
  · intro ha
    have hS : ∀ j, j ≤ ts.length → Same (dirAt ks (ts.take j)) (dirM ks (ts.take j)) := by
      intro j
      induction j with
      | zero => intro _; exact h0
      | succ j ih =>
        intro hj
        rw [dirAt_snoc ks ts j hj, dirM_snoc' ks ts j hj]
        exact turn_next (ih (by omega)) _ (ha j hj)
    intro j h
    exact (turn_same (hS j (by omega)) _ (ht _ (List.getElem_mem h))).1 (ha j h)
  · intro ha
    have hS : ∀ j, j ≤ ts.length → Same (dirAt ks (ts.take j)) (dirM ks (ts.take j)) := by
      intro j
      induction j with
      | zero => intro _; exact h0
      | succ j ih =>
        intro hj
        rw [dirAt_snoc ks ts j hj, dirM_snoc' ks ts j hj]
        exact turn_next (ih (by omega)) _ ((turn_same (ih (by omega)) _ (ht _ (List.getElem_mem hj))).2 (ha j hj))
    intro j h
    exact (turn_same (hS j (by omega)) _ (ht _ (List.getElem_mem h))).2 (ha j h)

/-- what the model asks -/
def OkS (room fuse next : Int) (fs : List FileD) (ks : List LinkD) (ts : List TurnD) : Prop :=
  NumI room fuse next ∧ fs.length ≤ 10 ∧ ks.length ≤ 10 ∧ ts.length ≤ 30 ∧ RestOk room next fs ks ts
theorem ok_iff (room fuse next : Int) (fs : List FileD) (ks : List LinkD) (ts : List TurnD) : OkS room fuse next fs ks ts ↔ OkI room fuse next fs ks ts := by
  have hpos : (∀ j h, FileAt next fs j h) → (∀ j h, IdAt (fidsD fs) (idsD ks ts) j h) → (∀ x ∈ ks, 0 < x.2) ∧ ∀ t ∈ ts, t.kind = 1 → 0 < t.id := by
    intro ha hid
    have hp := ids_pos next fs ks ts ha hid
    refine ⟨fun x hx => hp _ ?_, fun t ht k1 => hp _ ?_⟩
    · unfold idsD; exact List.mem_append.2 (.inl (List.mem_map.2 ⟨x, hx, rfl⟩))
    · unfold idsD tids; exact List.mem_append.2 (.inr (List.mem_map.2 ⟨t, List.mem_filter.2 ⟨ht, by simp [k1]⟩, rfl⟩))
  constructor
  · rintro ⟨hn, h10, _, h30, hu, hfa, hka, hl, hid, hta⟩
    obtain ⟨p1, p2⟩ := hpos hfa hid
    exact ⟨hn, ⟨h10, (files_iff next fs).1 hfa, hu⟩, (kept_iff ks).1 hka, ⟨h30, (turns_iff ks ts p1 p2).1 hta⟩, (ids_iff next fs ks ts hfa).1 ⟨hl, hid⟩⟩
  · rintro ⟨hn, ⟨h10, hfi, hu⟩, hki, ⟨h30, hti⟩, hii⟩
    have hfa := (files_iff next fs).2 hfi
    obtain ⟨hl, hid⟩ := (ids_iff next fs ks ts hfa).2 hii
    obtain ⟨p1, p2⟩ := hpos hfa hid
    have hk10 : ks.length ≤ 10 := by
      have : (idsD ks ts).length = ks.length + (tids ts).length := by simp [idsD]
      omega
    exact ⟨hn, h10, hk10, h30, hu, hfa, (kept_iff ks).2 hki, hl, hid, (turns_iff ks ts p1 p2).2 hti⟩

/-- the model's DiskOk, whole -/
theorem specOk_any (room fuse next : Int) (F : Option Addr) (nf cf : Nat) (K : Option Addr) (nk ck : Nat) (T : Option Addr) (nt ct : Nat) (fs : List FileD) (ks : List LinkD) (ts : List TurnD) (w : World)
    (hf : RdF w w.heap.size F fs) (hfl : fs.length = nf) (hu : usedD fs ≤ 1099511627776)
    (hk : RdL w w.heap.size K ks) (hkl : ks.length = nk) (hks : ∀ x ∈ ks, x.1.size ≤ maxLen)
    (ht : RdT w w.heap.size T ts) (htl : ts.length = nt) (hts : ∀ x ∈ ts, x.name.size ≤ maxLen ∧ x.to_.size ≤ maxLen) :
    Calls Tryz.prog 19 #[.agg #[.int .i64 room, .int .i64 fuse, .int .i64 next, .slice F nf cf, .slice K nk ck, .slice T nt ct]] w (Ans (OkS room fuse next fs ks ts) w.heap.size w) := by
  have no : ∀ (h : ¬ OkS room fuse next fs ks ts), ∀ e w', (e = .returned (.bool false) ∧ Below w.heap.size w w') → Ans (OkS room fuse next fs ks ts) w.heap.size w e w' := by
    rintro h e w' ⟨rfl, hb⟩; exact ans_no h hb
  by_cases h0 : room < 0
  · exact (spec_hd0 room fuse next F nf cf K nk ck T nt ct w h0).mono (no (fun h => by have := h.1.1; omega))
  by_cases h1 : 400000 < room
  · exact (spec_hd1 room fuse next F nf cf K nk ck T nt ct w h0 h1).mono (no (fun h => by have := h.1.2.1; omega))
  by_cases h2 : fuse < -1
  · exact (spec_hd2 room fuse next F nf cf K nk ck T nt ct w h0 h1 h2).mono (no (fun h => by have := h.1.2.2.1; omega))
  by_cases h3 : 1000 < fuse
  · exact (spec_hd3 room fuse next F nf cf K nk ck T nt ct w h0 h1 h2 h3).mono (no (fun h => by have := h.1.2.2.2.1; omega))
  by_cases h4 : next < 1
  · exact (spec_hd4 room fuse next F nf cf K nk ck T nt ct w h0 h1 h2 h3 h4).mono (no (fun h => by have := h.1.2.2.2.2.1; omega))
  by_cases h5 : 1000000 < next
  · exact (spec_hd5 room fuse next F nf cf K nk ck T nt ct w h0 h1 h2 h3 h4 h5).mono (no (fun h => by have := h.1.2.2.2.2.2; omega))
  by_cases h6 : (10 : Int) < nf
  · exact (spec_hd6 room fuse next F nf cf K nk ck T nt ct w h0 h1 h2 h3 h4 h5 h6).mono (no (fun h => by have := h.2.1; omega))
  by_cases h7 : (10 : Int) < nk
  · exact (spec_hd7 room fuse next F nf cf K nk ck T nt ct w h0 h1 h2 h3 h4 h5 h6 h7).mono (no (fun h => by have := h.2.2.1; omega))
  by_cases h8 : (30 : Int) < nt
  · exact (spec_hd8 room fuse next F nf cf K nk ck T nt ct w h0 h1 h2 h3 h4 h5 h6 h7 h8).mono (no (fun h => by have := h.2.2.2.1; omega))
  refine (spec_rest room fuse next F nf cf K nk ck T nt ct fs ks ts w hf hfl hu hk hkl hks ht htl hts h0 h1 h2 h3 h4 h5 h6 h7 h8).mono ?_
  rintro e w' ⟨b, rfl, hi, hb⟩
  refine ⟨b, rfl, hi.trans ⟨fun h => ⟨⟨by omega, by omega, by omega, by omega, by omega, by omega⟩, by omega, by omega, by omega, h⟩, fun h => h.2.2.2.2⟩, hb⟩
end Go.Proofs.YtfkdfabbpebljaaGreat.DOk
namespace Go.Proofs.YtfkdfabbpebljaaGreat.DOk
open Go.RowKit Go.Proofs.YtfkdfabbpebljaaGreat.Bytes Go.Proofs.YtfkdfabbpebljaaGreat.Rows_
set_option linter.unusedVariables false
/-- six cells of a block -/
def Box6 (w : World) (b : Nat) (x0 x1 x2 x3 x4 x5 : Value) : Prop := w.cell? ⟨b, 0, none⟩ = some x0 ∧ w.cell? ⟨b, 1, none⟩ = some x1 ∧ w.cell? ⟨b, 2, none⟩ = some x2 ∧ w.cell? ⟨b, 3, none⟩ = some x3 ∧ w.cell? ⟨b, 4, none⟩ = some x4 ∧ w.cell? ⟨b, 5, none⟩ = some x5
theorem Box6.below {w w' : World} {B b : Nat} {x0 x1 x2 x3 x4 x5 : Value} (h : Box6 w b x0 x1 x2 x3 x4 x5) (hb : Below B w w') (hlt : b < B) : Box6 w' b x0 x1 x2 x3 x4 x5 :=
  ⟨(hb.cell (p := ⟨b, 0, none⟩) hlt).trans h.1, (hb.cell (p := ⟨b, 1, none⟩) hlt).trans h.2.1, (hb.cell (p := ⟨b, 2, none⟩) hlt).trans h.2.2.1, (hb.cell (p := ⟨b, 3, none⟩) hlt).trans h.2.2.2.1, (hb.cell (p := ⟨b, 4, none⟩) hlt).trans h.2.2.2.2.1, (hb.cell (p := ⟨b, 5, none⟩) hlt).trans h.2.2.2.2.2⟩
theorem Box6.new (w : World) (x0 x1 x2 x3 x4 x5 : Value) (t : TypeId) : Box6 (w.alloc (.cells #[x0, x1, x2, x3, x4, x5] t)) w.heap.size x0 x1 x2 x3 x4 x5 := by
  refine ⟨?_, ?_, ?_, ?_, ?_, ?_⟩ <;> (rw [World.cell?_alloc_at _ _ _ _ rfl]; rfl)

/-! ### what depends on the keys of the files only -/
theorem keys_len {fs gs : List FileD} (h : gs.map keyF = fs.map keyF) : gs.length = fs.length := by have := congrArg List.length h; simpa using this
theorem keys_used {fs gs : List FileD} (h : gs.map keyF = fs.map keyF) : usedD gs = usedD fs := by
  have e : ∀ l : List FileD, usedD l = ((l.map keyF).map (fun k => k.2.1)).sum := by intro l; unfold usedD; rw [List.map_map]; rfl
  rw [e, e, h]
theorem keys_ids {fs gs : List FileD} (h : gs.map keyF = fs.map keyF) : fidsD gs = fidsD fs := by
  have e : ∀ l : List FileD, fidsD l = (l.map keyF).map (fun k => k.1) := by intro l; unfold fidsD; rw [List.map_map]; rfl
  rw [e, e, h]
theorem fileAt_of {next : Int} {fs gs : List FileD} (hs : SameF fs gs) (h : ∀ j h, FileAt next fs j h) : ∀ j h, FileAt next gs j h := by
  intro j hj
  have hj' : j < fs.length := by rw [← hs.1]; exact hj
  obtain ⟨a1, a2, a3, a4⟩ := hs.2 j hj' hj
  obtain ⟨b1, b2, b3, b4, b5⟩ := h j hj'
  refine ⟨by rw [a1]; exact b1, by rw [a1]; exact b2, fun h0 => ?_, by rw [a3]; exact b4, by rw [a3, a2]; exact b5⟩
  obtain ⟨c1, _⟩ := hs.2 (j - 1) (by omega) (by omega)
  rw [c1, a1]; exact b3 h0
theorem okS_of {room fuse next : Int} {fs gs : List FileD} {ks : List LinkD} {ts : List TurnD} (h : gs.map keyF = fs.map keyF) (ho : OkS room fuse next fs ks ts) : OkS room fuse next gs ks ts := by
  obtain ⟨h0, h1, h2, h3, r1, r2, r3, r4, r5, r6⟩ := ho
  exact ⟨h0, by rw [keys_len h]; exact h1, h2, h3, by rw [keys_used h]; exact r1, fileAt_of (same_of_keys h) r2, r3, by rw [keys_len h]; exact r4, by rw [keys_ids h]; exact r5, r6⟩
theorem okS_iff {room fuse next : Int} {fs gs : List FileD} {ks : List LinkD} {ts : List TurnD} (h : gs.map keyF = fs.map keyF) : OkS room fuse next gs ks ts ↔ OkS room fuse next fs ks ts := ⟨okS_of h.symm, okS_of h⟩
theorem n_used : ∀ {fs : List FileD} {f : FileD}, f ∈ fs → f.n ≤ usedD fs
  | g :: fs, f, h => by
    have e : usedD (g :: fs) = g.n + usedD fs := by unfold usedD; simp
    rw [e]
    rcases List.mem_cons.1 h with rfl | h'
    · omega
    · have := n_used h'; omega
theorem keys_mem {P : FileD → Prop} {fs gs : List FileD} (h : gs.map keyF = fs.map keyF) (hP : ∀ f g : FileD, keyF g = keyF f → P f → P g) (hf : ∀ f ∈ fs, P f) : ∀ g ∈ gs, P g := by
  intro g hg
  have : keyF g ∈ fs.map keyF := by rw [← h]; exact List.mem_map.2 ⟨g, hg, rfl⟩
  obtain ⟨f, hf1, hf2⟩ := List.mem_map.1 this
  exact hP f g hf2.symm (hf f hf1)
theorem key_n {f g : FileD} (h : keyF g = keyF f) : g.n = f.n := by have := congrArg (fun k => k.2.1) h; exact this
theorem key_id {f g : FileD} (h : keyF g = keyF f) : g.id = f.id := by have := congrArg (fun k => k.1) h; exact this
theorem bool_eq {b1 b2 : Bool} {P Q : Prop} (h1 : b1 = true ↔ P) (h2 : b2 = true ↔ Q) (h : P ↔ Q) : b2 = b1 := by
  cases b1 <;> cases b2 <;> simp_all

end Go.Proofs.YtfkdfabbpebljaaGreat.DOk
namespace Go.Proofs.YtfkdfabbpebljaaGreat.DOk
open Go.RowKit Go.Proofs.YtfkdfabbpebljaaGreat.Bytes Go.Proofs.YtfkdfabbpebljaaGreat.Rows_ Go.Maps
open Go.Proofs.YtfkdfabbpebljaaGreat.Made (madeB nb)
set_option linter.unusedVariables false

theorem less_irrefl : ∀ a : List UInt8, Op.bytesLess a a = false
  | [] => rfl
  | x :: r => by unfold Op.bytesLess; simp [less_irrefl r]
theorem less_trans : ∀ a b c : List UInt8, Op.bytesLess a b = true → Op.bytesLess b c = true → Op.bytesLess a c = true
  | _, [], _, h, _ => by unfold Op.bytesLess at h; cases h
  | _, y :: s, [], _, h => by unfold Op.bytesLess at h; cases h
  | [], y :: s, z :: t, _, _ => rfl
  | x :: r, y :: s, z :: t, h1, h2 => by
    have ih := less_trans r s t
    unfold Op.bytesLess at h1 h2 ⊢
    simp only [Bool.or_eq_true, decide_eq_true_iff, Bool.and_eq_true, beq_iff_eq, UInt8.lt_iff_toNat_lt] at h1 h2 ⊢
    rcases h1 with h1 | ⟨rfl, h1⟩ <;> rcases h2 with h2 | ⟨rfl, h2⟩
    · exact .inl (by omega)
    · exact .inl h1
    · exact .inl h2
    · exact .inr ⟨rfl, ih h1 h2⟩
/-- strictly rising names -/
def Ris (l : List LinkD) : Prop := l.Pairwise fun x y => Op.bytesLess x.1.toList y.1.toList = true
theorem less_ne {a b : List UInt8} (h : Op.bytesLess a b = true) : a ≠ b := by rintro rfl; rw [less_irrefl] at h; cases h
theorem kept_lt (ks : List LinkD) (ha : ∀ j h, KeptAt ks j h) : ∀ (d i : Nat) (h : i + d + 1 < ks.length), Op.bytesLess (ks[i]'(by omega)).1.toList (ks[i + d + 1]'h).1.toList = true
  | 0, i, h => (ha (i + 1) h).2 (by omega)
  | d + 1, i, h => less_trans _ _ _ (kept_lt ks ha d i (by omega)) ((ha (i + d + 1 + 1) (by omega)).2 (by omega))
theorem kept_ris (ks : List LinkD) (ha : ∀ j h, KeptAt ks j h) : Ris ks := by
  unfold Ris
  rw [List.pairwise_iff_getElem]
  intro i j hi hj hij
  obtain ⟨d, rfl⟩ : ∃ d, j = i + d + 1 := ⟨j - i - 1, by omega⟩
  exact kept_lt ks ha d i hj
def Val (l : List LinkD) (D : Dat) : Prop := ∀ x ∈ l, D.atKey (kS x.1) (vI 0) = vI x.2
theorem find_memN : ∀ (l : List LinkD) (s : List UInt8), InN l s → ∃ x ∈ l, x.1.toList = s ∧ x.2 = findD l s
  | [], s, h => by obtain ⟨x, hx, _⟩ := h; cases hx
  | x :: r, s, h => by
    unfold findD
    by_cases hx : (x.1.toList == s) = true
    · rw [if_pos hx]; exact ⟨x, by simp, by simpa using hx, rfl⟩
    · rw [if_neg hx]
      obtain ⟨y, hy, e⟩ := h
      rcases List.mem_cons.1 hy with rfl | hy
      · exact absurd (by simpa using e) hx
      · obtain ⟨z, hz, e1, ez⟩ := find_memN r s ⟨y, hy, e⟩
        exact ⟨z, by simp [hz], e1, ez⟩
theorem Val.find {l : List LinkD} {D : Dat} (h : Val l D) {s : ByteArray} (hs : InN l s.toList) : D.atKey (kS s) (vI 0) = vI (findD l s.toList) := by
  obtain ⟨x, hx, e1, e2⟩ := find_memN l _ hs
  rw [← e2, ← h x hx, (kS_iff _ _).2 e1]
theorem at_put_ne {D : Dat} {a b : ByteArray} {v z : Dat} (h : a.toList ≠ b.toList) : (D.put (kS a) v).atKey (kS b) z = D.atKey (kS b) z :=
  atKey_put_other (fun e => h ((kS_iff b a).1 e).symm) v z
theorem at_del_ne {D : Dat} {a b : ByteArray} {z : Dat} (h : a.toList ≠ b.toList) : (D.del (kS a)).atKey (kS b) z = D.atKey (kS b) z :=
  atKey_del_other (fun e => h ((kS_iff b a).1 e).symm) z
theorem at_put_eq {D : Dat} (h : IsMap D) {a : ByteArray} {v z : Dat} : (D.put (kS a) v).atKey (kS a) z = v :=
  atKey_put_same h (show WideAt.IsKeyLit (kS a) from trivial) v z
theorem val_dirL_rev : ∀ (r : List LinkD), (∀ x ∈ r, 0 < x.2) → Ris r.reverse → Val r.reverse (dirL r.reverse)
  | [], _, _ => fun x hx => by cases hx
  | x :: r, hp, hr => by
    rw [List.reverse_cons] at hr ⊢
    have hr' : Ris r.reverse ∧ _ ∧ _ := List.pairwise_append.1 hr
    have ih := val_dirL_rev r (fun y hy => hp y (by simp [hy])) hr'.1
    have hS := same_dirL_rev r (fun y hy => hp y (by simp [hy]))
    have e : dirL (r.reverse ++ [x]) = (dirL r.reverse).put (kS x.1) (vI x.2) := by unfold dirL; rw [List.foldl_append]; rfl
    rw [e]
    intro y hy
    rcases List.mem_append.1 hy with hy | hy
    · rw [at_put_ne (less_ne (hr'.2.2 y hy x (by simp))).symm]; exact ih y hy
    · simp at hy; subst hy; exact at_put_eq hS.1
theorem val_dirL (ks : List LinkD) (hp : ∀ x ∈ ks, 0 < x.2) (hr : Ris ks) : Val ks (dirL ks) := by
  have := val_dirL_rev ks.reverse (fun x hx => hp x (by simpa using hx)) (by rw [List.reverse_reverse]; exact hr)
  rw [List.reverse_reverse] at this; exact this
theorem val_next {l : List LinkD} {D : Dat} (hS : Same l D) (hV : Val l D) (t : TurnD) (hok : turnOkS l t = true) : Val (turnD l t) (applyD D t) := by
  obtain ⟨h1, h2, h3⟩ := hS
  have hfp := find_pos l t.name.toList h3
  unfold turnOkS tokS at hok
  unfold turnD applyD
  by_cases k1 : t.kind = 1
  · simp only [k1, if_true, Bool.and_eq_true, decide_eq_true_iff, Bool.not_eq_true'] at hok
    rw [if_pos k1, if_pos k1]
    have hno : ¬ InN l t.name.toList := fun h => by have := hfp.2 h; have h4 := hok.2.2; simp at h4; omega
    intro x hx
    rcases (mem_with _ _ _ _).1 hx with hx | rfl
    · rw [at_put_ne (fun e => hno ⟨x, hx, e.symm⟩)]; exact hV x hx
    · exact at_put_eq h1
  · by_cases k4 : t.kind = 4
    · rw [k4] at hok
      rw [if_neg (by decide), if_pos rfl] at hok
      simp only [Bool.and_eq_true, decide_eq_true_iff, Bool.not_eq_true'] at hok
      have hne : t.to_.toList ≠ t.name.toList := by have := hok.2.1.1.2; simpa using this
      have hin : InN l t.name.toList := hfp.1 hok.2.2
      rw [if_neg k1, if_pos k4, if_neg k1, if_pos k4]
      intro x hx
      rcases (mem_with _ _ _ _).1 hx with hx | rfl
      · obtain ⟨hx1, hx2⟩ := (mem_less _ _ _).1 hx
        obtain ⟨hx3, hx4⟩ := (mem_less _ _ _).1 hx1
        rw [at_del_ne (fun e => hx4 e.symm), at_put_ne (fun e => hx2 e.symm)]
        exact hV x hx3
      · rw [at_del_ne (fun e => hne e.symm)]
        show _ = vI (findD l t.name.toList)
        rw [at_put_eq h1, hV.find hin]
    · by_cases k5 : t.kind = 5
      · rw [if_neg k1, if_neg k4, if_neg k1, if_neg k4, if_pos k5]
        intro x hx
        obtain ⟨hx3, hx4⟩ := (mem_less _ _ _).1 hx
        rw [at_del_ne (fun e => hx4 e.symm)]
        exact hV x hx3
      · rw [if_neg k1, if_neg k4, if_neg k5] at hok
        simp at hok
theorem dir_all (ks : List LinkD) (ts : List TurnD) (hk : ∀ x ∈ ks, 0 < x.2) (hr : Ris ks) (ha : ∀ j h, TurnAt ks ts j h) : ∀ j, j ≤ ts.length → Same (dirAt ks (ts.take j)) (dirM ks (ts.take j)) ∧ Val (dirAt ks (ts.take j)) (dirM ks (ts.take j)) := by
  intro j
  induction j with
  | zero => intro _; exact ⟨same_dirL ks hk, val_dirL ks hk hr⟩
  | succ j ih =>
    intro hj
    have h := ih (by omega)
    rw [dirAt_snoc ks ts j hj, dirM_snoc' ks ts j hj]
    exact ⟨turn_next h.1 _ (ha j hj), val_next h.1 h.2 _ (ha j hj)⟩
end Go.Proofs.YtfkdfabbpebljaaGreat.DOk
namespace Go.Proofs.YtfkdfabbpebljaaGreat.DOk
open Go.RowKit Go.Proofs.YtfkdfabbpebljaaGreat.Bytes Go.Proofs.YtfkdfabbpebljaaGreat.Rows_
set_option linter.unusedVariables false

set_option maxRecDepth 100000 in
set_option maxHeartbeats 3200000 in
theorem l02Dir_any (room fuse next : Int) (F : Option Addr) (nf cf : Nat) (K : Option Addr) (nk ck : Nat) (T : Option Addr) (nt ct : Nat) (ks : List LinkD) (ts : List TurnD) (w : World)
    (hk : RdL w w.heap.size K ks) (hkl : ks.length = nk) (hkn : nk ≤ 2000) (hKA : K = none → nk = 0 ∧ ck = 0) (ht : RdT w w.heap.size T ts) (htl : ts.length = nt) (htn : nt ≤ 2000) :
    Calls Tryz.prog 57 #[.agg #[.int .i64 room, .int .i64 fuse, .int .i64 next, .slice F nf cf, .slice K nk ck, .slice T nt ct], .int .i64 nt] w fun e w' =>
      ∃ A' c', e = .returned (.slice A' (dirAt ks ts).length c') ∧ OwnL w' w.heap.size A' (dirAt ks ts).length c' (dirAt ks ts) ∧ (dirAt ks ts).length ≤ nk + nt ∧ Below w.heap.size w w' := by
  obtain ⟨v3, hv3⟩ : ∃ v, v = w.alloc (.cells #[.int .i64 room, .int .i64 fuse, .int .i64 next, .slice F nf cf, .slice K nk ck, .slice T nt ct] 36) := ⟨_, rfl⟩
  have HX3 := Lib.hid (show BoxW v3 w.heap.size #[.int .i64 room, .int .i64 fuse, .int .i64 next, .slice F nf cf, .slice K nk ck, .slice T nt ct] by rw [hv3]; exact heap_alloc_new w _)
  have HB3 := Lib.hid (show Below w.heap.size w v3 by rw [hv3]; exact (Below.refl _ _).alloc (Nat.le_refl _) _)
  have hz3 : w.heap.size < v3.heap.size := by rw [hv3]; simp
  have HV3 := Lib.hid hv3.symm
  have hoe := own_empty v3 86 2
  have hba := (Below.refl v3.heap.size v3).alloc (Nat.le_refl _) (.cells #[] 86)
  have hsrc : RdK 2 (v3.alloc (.cells #[] 86)) w.heap.size K (ks.map linkR) := (hk.below (Nat.le_refl _) HB3.out).below (by omega) hba
  have HXa := Lib.hid (HX3.out.below hba (by omega))
  have r4 : (v3.alloc (.cells #[] 86)).cell? ⟨w.heap.size, 4, none⟩ = some (.slice K nk ck) := HXa.out.cell 4
  have HBa := Lib.hid hba
  have HT := Lib.hid ht
  have HKL := Lib.hid hkl
  have HTL := Lib.hid htl
  have HKA := Lib.hid hKA
  clear hba hv3 hk hkl ht htl hKA
  go_enter Tryz.func57, Tryz.ntmps57
  go_upto_region 1 with fail
  rw [HV3.out]
  go_wp2_with (at_builtin; refine append_rows Tryz.underlying33 linkInfo' rfl (by decide) (by decide) rfl _ _ rfl rfl rfl hoe hsrc (link_len _) (one_link _) HKA.out (by rw [List.length_map]; exact HKL.out) (by omega) (by omega) (by simp) ?_)
  intro K4 ck4 v4 ho4 hb4 _
  have HX4 := Lib.hid (HXa.out.below hb4 (by omega))
  have HB4 := Lib.hid (HB3.out.trans ((HBa.out.trans hb4).mono (Nat.le_of_lt hz3)))
  have HO4 := Lib.hid (own_moreK (show OwnL v4 v3.heap.size K4 nk ck4 ks by unfold OwnL; simpa using ho4) (Nat.le_of_lt hz3))
  have hz4 : w.heap.size < v4.heap.size := HX4.out.lt
  clear hoe hsrc r4 ho4 hb4
  go_wp2_with fail
  go_loopw [5, 6] (fun v i wr => ∃ (k : Nat) (A3 : Option Addr) (c3 : Nat), k ≤ nt ∧ i = .int .i64 (k : Nat) ∧ v = .slice A3 (dirAt ks (ts.take k)).length c3 ∧ (dirAt ks (ts.take k)).length ≤ nk + k ∧ OwnL wr w.heap.size A3 (dirAt ks (ts.take k)).length c3 (dirAt ks (ts.take k)) ∧ BoxW wr w.heap.size #[.int .i64 room, .int .i64 fuse, .int .i64 next, .slice F nf cf, .slice K nk ck, .slice T nt ct] ∧ Below w.heap.size w wr) (fun _ i _ => nt - (intOf i).toNat)
  case atStart =>
    refine ⟨0, K4, ck4, Nat.zero_le _, rfl, ?_, ?_, ?_, HX4.out, HB4.out⟩
    · first | (show Value.slice K4 nk ck4 = Value.slice K4 ks.length ck4; rw [HKL.out]) | (show Value.slice K4 (0 + nk) ck4 = Value.slice K4 ks.length ck4; rw [HKL.out, Nat.zero_add])
    · show ks.length ≤ nk + 0
      rw [HKL.out]; exact Nat.le_refl _
    · show OwnL v4 w.heap.size K4 ks.length ck4 ks
      rw [HKL.out]; exact HO4.out
  case round =>
    clear hz4 HX4 HB4 HO4
    obtain ⟨k, A3, c3, hk, rfl, rfl, hdl, ho, hx, hb⟩ := hrel
    have hz : w.heap.size < wr.heap.size := hx.lt
    by_cases hlt : k < nt
    · have hlt' : k < ts.length := by rw [HTL.out]; exact hlt
      obtain ⟨b, o, rfl, hB, hc0, hc1, hc2, hc3⟩ := (HT.out.below (Nat.le_refl _) hb).at_ hlt'
      have hS := Lib.hid (show dirAt ks (ts.take (k + 1)) = turnD (dirAt ks (ts.take k)) ⟨ts[k].kind, ts[k].name, ts[k].to_, ts[k].id⟩ by rw [List.take_succ_eq_append_getElem hlt']; unfold dirAt; rw [List.foldl_append]; rfl)
      have HB := Lib.hid hb
      have HX := Lib.hid hx
      have HRD := Lib.hid ho.rd
      have q5 : wr.cell? ⟨w.heap.size, 5, none⟩ = some (.slice (some ⟨b, o, none⟩) nt ct) := hx.cell 5
      clear hb hx ho
      generalize ts[k].kind = x0 at *
      generalize ts[k].name = x1 at *
      generalize ts[k].to_ = x2 at *
      generalize ts[k].id = x3 at *
      have hTD := Lib.hid (fun W (h : RdL W W.heap.size A3 (dirAt ks (ts.take k))) => l02Turn_any A3 (dirAt ks (ts.take k)).length c3 (dirAt ks (ts.take k)) x0 x1 x2 x3 W h rfl (by omega))
      have hle := Lib.hid (turnD_le (dirAt ks (ts.take k)) ⟨x0, x1, x2, x3⟩)
      rw [← hS.out] at hTD hle
      generalize hD0 : dirAt ks (ts.take k) = D0 at *
      clear hD0
      go_wp2_with fail
      refine (hTD.out _ HRD.out).mono ?_
      rintro e v6 ⟨A4, c4, rfl, ho6, hb6⟩
      have HO6 := Lib.hid (own_moreK ho6 (Nat.le_of_lt hz))
      have HX6 := Lib.hid (HX.out.below hb6 hz)
      have HB6 := Lib.hid (HB.out.trans (hb6.mono (Nat.le_of_lt hz)))
      clear ho6 hb6 q5
      go_wp2_with fail
      exact ⟨⟨k + 1, A4, c4, by omega, by go_num, rfl, by have := hle.out; omega, HO6.out, HX6.out, HB6.out⟩, by simp [intOf]; omega⟩
    · obtain rfl : nt = k := by omega
      have e : ts.take nt = ts := List.take_of_length_le (by rw [HTL.out]; exact Nat.le_refl _)
      rw [e] at hdl ho ⊢
      have HO := Lib.hid ho
      have HB := Lib.hid hb
      clear e ho hb hx
      go_wp2_with fail
      go_ret
      exact ⟨A3, c3, rfl, HO.out, hdl, HB.out⟩

/-- the place of the first file of that id, -1 where there is none -/
def atD : List FileD → Int → Int
  | [], _ => -1
  | x :: r, id => if x.id = id then 0 else if atD r id = -1 then -1 else atD r id + 1
theorem at_hit : ∀ (fs : List FileD) (id : Int) (i : Nat) (hi : i < fs.length), (∀ j (hj : j < fs.length), j < i → fs[j].id ≠ id) → fs[i].id = id → atD fs id = i
  | x :: r, id, 0, _, _, h => by unfold atD; simp only [List.getElem_cons_zero] at h; rw [if_pos h]; rfl
  | x :: r, id, i + 1, hi, ha, h => by
    have h0 := ha 0 (by simp) (by omega)
    unfold atD
    simp only [List.getElem_cons_zero] at h0
    rw [if_neg h0]
    simp only [List.getElem_cons_succ] at h
    have ih := at_hit r id i (by simpa using hi) (fun j hj hlt => by have := ha (j + 1) (by simpa using hj) (by omega); simpa using this) h
    rw [ih, if_neg (by omega)]; omega

set_option maxRecDepth 100000 in
set_option maxHeartbeats 1600000 in
theorem l02At_hit (room fuse next : Int) (F : Option Addr) (nf cf : Nat) (K : Option Addr) (nk ck : Nat) (T : Option Addr) (nt ct : Nat) (fs : List FileD) (id : Int) (i0 : Nat) (w : World)
    (hf : RdF w w.heap.size F fs) (hfl : fs.length = nf) (hfn : nf ≤ 2000) (hi : i0 < fs.length) (hno : ∀ j (hj : j < fs.length), j < i0 → fs[j].id ≠ id) (hyes : fs[i0].id = id) :
    Calls Tryz.prog 23 #[.agg #[.int .i64 room, .int .i64 fuse, .int .i64 next, .slice F nf cf, .slice K nk ck, .slice T nt ct], .int .i64 id] w fun e w' => e = .returned (.int .i64 (i0 : Nat)) ∧ Below w.heap.size w w' := by
  have HB0 := Lib.hid ((Below.refl w.heap.size w).alloc (Nat.le_refl _) (.cells #[.int .i64 room, .int .i64 fuse, .int .i64 next, .slice F nf cf, .slice K nk ck, .slice T nt ct] 36))
  have hi' : i0 < nf := by omega
  have HF := Lib.hid hf
  have HFL := Lib.hid hfl
  have HN := Lib.hid hno
  have HY := Lib.hid hyes
  clear hf hfl hno hyes
  go_enter Tryz.func23, Tryz.ntmps23
  go_wp2_with fail
  go_loopw [10] (fun i wr => ∃ k : Nat, k ≤ i0 ∧ i = .int .i64 (k : Nat) ∧ Below w.heap.size w wr) (fun i _ => nf - (intOf i).toNat)
  case atStart => exact ⟨0, Nat.zero_le _, rfl, HB0.out⟩
  case round =>
    obtain ⟨k, hk, rfl, hb⟩ := hrel
    have hlt' : k < fs.length := by omega
    have hlt : k < nf := by omega
    obtain ⟨b, o, rfl, hB, hc0, hc1, hc2⟩ := (HF.out.below (Nat.le_refl _) hb).at_ hlt'
    have HB := Lib.hid hb
    have hz : w.heap.size ≤ wr.heap.size := hb.size
    clear hb
    by_cases hki : k = i0
    · have HID := Lib.hid (show fs[k].id = id by subst hki; exact HY.out)
      have HKI := Lib.hid hki
      clear hki
      generalize fs[k].A = x1 at *
      generalize fs[k].n = x2 at *
      generalize fs[k].c = x3 at *
      generalize fs[k].safe = x4 at *
      rw [HID.out] at hc0
      have he : (id == id) = true := by simp
      go_wp2_with fail
      go_ret
      exact ⟨by rw [HKI.out]; rfl, HB.out.alloc hz _⟩
    · have HID := Lib.hid (show (fs[k].id == id) = false by simpa using HN.out k hlt' (by omega))
      generalize fs[k].id = x0 at *
      generalize fs[k].A = x1 at *
      generalize fs[k].n = x2 at *
      generalize fs[k].c = x3 at *
      generalize fs[k].safe = x4 at *
      have he := HID.out
      go_wp2_with fail
      exact ⟨⟨k + 1, by omega, by go_num, HB.out.alloc hz _⟩, by simp [intOf]; omega⟩

set_option maxRecDepth 100000 in
set_option maxHeartbeats 1600000 in
theorem spec_DiskDir_any (room fuse next : Int) (F : Option Addr) (nf cf : Nat) (K : Option Addr) (nk ck : Nat) (T : Option Addr) (nt ct : Nat) (fs : List FileD) (ks : List LinkD) (ts : List TurnD) (w : World)
    (hf : RdF w w.heap.size F fs) (hfl : fs.length = nf) (hu : usedD fs ≤ 1099511627776)
    (hk : RdL w w.heap.size K ks) (hkl : ks.length = nk) (hKA : K = none → nk = 0 ∧ ck = 0) (hks : ∀ x ∈ ks, x.1.size ≤ maxLen)
    (ht : RdT w w.heap.size T ts) (htl : ts.length = nt) (hts : ∀ x ∈ ts, x.name.size ≤ maxLen ∧ x.to_.size ≤ maxLen) :
    Calls Tryz.prog 25 #[.agg #[.int .i64 room, .int .i64 fuse, .int .i64 next, .slice F nf cf, .slice K nk ck, .slice T nt ct]] w fun e w' =>
      ((OkS room fuse next fs ks ts ∧ ∃ A' c', e = .returned (.slice A' (dirAt ks ts).length c') ∧ OwnL w' w.heap.size A' (dirAt ks ts).length c' (dirAt ks ts) ∧ (dirAt ks ts).length ≤ 40) ∨ (¬ OkS room fuse next fs ks ts ∧ e = .returned (.slice none 0 0))) ∧ Below w.heap.size w w' := by
  have hx0 := Lib.hid (Box6.new w (.int .i64 room) (.int .i64 fuse) (.int .i64 next) (.slice F nf cf) (.slice K nk ck) (.slice T nt ct) 36)
  have hb0 := Lib.hid ((Below.refl w.heap.size w).alloc (Nat.le_refl _) (.cells #[.int .i64 room, .int .i64 fuse, .int .i64 next, .slice F nf cf, .slice K nk ck, .slice T nt ct] 36))
  have HOk := Lib.hid (fun W (h : Below w.heap.size w W) => specOk_any room fuse next F nf cf K nk ck T nt ct fs ks ts W ((hf.below (Nat.le_refl _) h).more h.size) hfl hu ((hk.below (Nat.le_refl _) h).more h.size) hkl hks ((ht.below (Nat.le_refl _) h).more h.size) htl hts)
  have HDir := Lib.hid (fun W (h : Below w.heap.size w W) (h1 : nk ≤ 2000) (h2 : nt ≤ 2000) => l02Dir_any room fuse next F nf cf K nk ck T nt ct ks ts W ((hk.below (Nat.le_refl _) h).more h.size) hkl h1 hKA ((ht.below (Nat.le_refl _) h).more h.size) htl h2)
  have HKL := Lib.hid hkl
  have HTL := Lib.hid htl
  clear hf hfl hu hk hkl hKA hks ht htl hts
  go_enter Tryz.func25, Tryz.ntmps25
  go_wp2_with fail
  refine (HOk.out _ hb0.out).mono ?_
  rintro e v1 ⟨b, rfl, hv, hb1⟩
  have s1 : w.heap.size < v1.heap.size := by have := hb1.size; simp at this; omega
  have HB1 := Lib.hid (hb0.out.trans (hb1.mono (by simp)))
  have HX1 := Lib.hid (hx0.out.below hb1 (by simp))
  have HV := Lib.hid hv
  clear hb1 hv hx0 hb0
  cases b
  · have HN := Lib.hid (show ¬ OkS room fuse next fs ks ts from fun h => by have := HV.out.2 h; cases this)
    clear HV
    go_wp2_with fail
    go_ret
    exact ⟨.inr ⟨HN.out, rfl⟩, HB1.out⟩
  · have HP := Lib.hid (HV.out.1 rfl)
    have h1 : nk ≤ 10 := by have := HP.out.2.2.1; rw [HKL.out] at this; exact this
    have h2 : nt ≤ 30 := by have := HP.out.2.2.2.1; rw [HTL.out] at this; exact this
    obtain ⟨q0, q1, q2, q3, q4, q5⟩ := HX1.out
    clear HV
    go_wp2_with fail
    refine (HDir.out _ HB1.out (by omega) (by omega)).mono ?_
    rintro e v2 ⟨A2, c2, rfl, ho2, hl2, hb2⟩
    have HO2 := Lib.hid (own_moreK ho2 (Nat.le_of_lt s1))
    have HB2 := Lib.hid (HB1.out.trans (hb2.mono (Nat.le_of_lt s1)))
    clear ho2 hb2
    go_wp2_with fail
    go_ret
    exact ⟨.inl ⟨HP.out, A2, c2, rfl, HO2.out, by omega⟩, HB2.out⟩
end Go.Proofs.YtfkdfabbpebljaaGreat.DOk
namespace Go.Proofs.YtfkdfabbpebljaaGreat.DOk
open Go.RowKit Go.Proofs.YtfkdfabbpebljaaGreat.Bytes Go.Proofs.YtfkdfabbpebljaaGreat.Rows_ Go.Maps
open Go.Proofs.YtfkdfabbpebljaaGreat.Made (madeB nb)
set_option linter.unusedVariables false

theorem ids_dir (ks : List LinkD) (ts : List TurnD) (hk : ∀ x ∈ ks, 0 < x.2) (ha : ∀ j h, TurnAt ks ts j h) (hS : ∀ j, j ≤ ts.length → Same (dirAt ks (ts.take j)) (dirM ks (ts.take j))) :
    ∀ j, j ≤ ts.length → ∀ x ∈ dirAt ks (ts.take j), x.2 ∈ idsD ks ts := by
  intro j
  induction j with
  | zero => intro _ x hx; unfold idsD; exact List.mem_append_left _ (List.mem_map.2 ⟨x, hx, rfl⟩)
  | succ j ih =>
    intro hj x hx
    have ih := ih (by omega)
    have hok := ha j hj
    have hpos := (hS j (by omega)).2.2
    rw [dirAt_snoc ks ts j hj] at hx
    unfold TurnAt at hok
    generalize hD : dirAt ks (ts.take j) = D at *
    unfold turnD at hx
    by_cases k1 : ts[j].kind = 1
    · rw [if_pos k1] at hx
      rcases (mem_with _ _ _ _).1 hx with hx | rfl
      · exact ih x hx
      · unfold idsD tids
        refine List.mem_append_right _ (List.mem_map.2 ⟨ts[j], List.mem_filter.2 ⟨List.getElem_mem hj, by simpa using k1⟩, rfl⟩)
    · by_cases k4 : ts[j].kind = 4
      · rw [if_neg k1, if_pos k4] at hx
        rcases (mem_with _ _ _ _).1 hx with hx | rfl
        · exact ih x ((mem_less _ _ _).1 ((mem_less _ _ _).1 hx).1).1
        · unfold turnOkS tokS at hok
          rw [k4] at hok
          rw [if_neg (by decide), if_pos rfl] at hok
          simp only [Bool.and_eq_true, decide_eq_true_iff] at hok
          obtain ⟨y, hy, e⟩ := find_mem D _ ((find_pos D _ hpos).1 hok.2.2)
          show findD D ts[j].name.toList ∈ idsD ks ts
          rw [← e]; exact ih y hy
      · rw [if_neg k1, if_neg k4] at hx
        exact ih x ((mem_less _ _ _).1 hx).1
theorem okS_parts {room fuse next : Int} {fs : List FileD} {ks : List LinkD} {ts : List TurnD} (h : OkS room fuse next fs ks ts) :
    Same (dirAt ks ts) (dirM ks ts) ∧ Val (dirAt ks ts) (dirM ks ts) ∧ (∀ x ∈ dirAt ks ts, x.2 ∈ fidsD fs) ∧ (fidsD fs).Nodup := by
  obtain ⟨_, _, _, _, _, hf, hk, hl, hid, ht⟩ := h
  have hsub : ∀ z ∈ idsD ks ts, z ∈ fidsD fs := by
    intro z hz
    obtain ⟨j, hj, rfl⟩ := List.getElem_of_mem hz
    exact (hasI_iff _ _).1 (hid j hj).2
  have hpos : ∀ x ∈ ks, 0 < x.2 := fun x hx => fids_pos next fs hf _ (hsub _ (List.mem_append_left _ (List.mem_map.2 ⟨x, hx, rfl⟩)))
  have hall := dir_all ks ts hpos (kept_ris ks hk) ht
  have e : ts.take ts.length = ts := List.take_length
  have h1 := hall ts.length (Nat.le_refl _)
  have h2 := ids_dir ks ts hpos ht (fun j hj => (hall j hj).1) ts.length (Nat.le_refl _)
  rw [e] at h1 h2
  exact ⟨h1.1, h1.2, fun x hx => hsub _ (h2 x hx), fids_nodup next fs hf⟩
theorem ids_ne {fs : List FileD} (hn : (fidsD fs).Nodup) {i j : Nat} (hi : i < fs.length) (hj : j < fs.length) (hij : i ≠ j) : fs[i].id ≠ fs[j].id := by
  intro e
  have h1 : (fidsD fs)[i]'(by unfold fidsD; simpa using hi) = (fidsD fs)[j]'(by unfold fidsD; simpa using hj) := by unfold fidsD; simpa using e
  exact hij ((List.getElem_inj hn).1 h1)
theorem file_of {room fuse next : Int} {fs : List FileD} {ks : List LinkD} {ts : List TurnD} (h : OkS room fuse next fs ks ts) {s : List UInt8} (hs : InN (dirAt ks ts) s) :
    ∃ (i : Nat) (hi : i < fs.length), fs[i].id = findD (dirAt ks ts) s ∧ ∀ j (hj : j < fs.length), j < i → fs[j].id ≠ findD (dirAt ks ts) s := by
  obtain ⟨_, _, h3, h4⟩ := okS_parts h
  obtain ⟨x, hx, e⟩ := find_mem _ _ hs
  obtain ⟨f, hf, e2⟩ := List.mem_map.1 (h3 x hx)
  obtain ⟨i, hi, rfl⟩ := List.getElem_of_mem hf
  refine ⟨i, hi, by rw [← e]; exact e2, fun j hj hlt e3 => ?_⟩
  exact ids_ne h4 hj hi (by omega) (by rw [e3, ← e]; exact e2.symm)
/-- what reading answers: the bytes of the file that the name links, where the disk is good and has the name -/
def ReadD (P : Prop) (fs : List FileD) (l : List LinkD) (s : List UInt8) (zs : List Int) (o : Bool) : Prop :=
  (P ∧ InN l s ∧ (∃ (i : Nat) (hi : i < fs.length), fs[i].id = findD l s ∧ (∀ j (hj : j < fs.length), j < i → fs[j].id ≠ findD l s) ∧ zs = fs[i].bytes) ∧ o = true) ∨ (¬ (P ∧ InN l s) ∧ zs = [] ∧ o = false)
theorem ReadD.same {P Q : Prop} (hPQ : P ↔ Q) {fs gs : List FileD} (hk : gs.map keyF = fs.map keyF) {l : List LinkD} {s : List UInt8} {zs zs' : List Int} {o o' : Bool} (h : ReadD P fs l s zs o) (h' : ReadD Q gs l s zs' o') : zs' = zs ∧ o' = o := by
  obtain ⟨hl, hs⟩ := same_of_keys hk
  rcases h with ⟨p, hn, ⟨i, hi, e1, e2, rfl⟩, rfl⟩ | ⟨p, rfl, rfl⟩ <;> rcases h' with ⟨p', hn', ⟨i', hi', e1', e2', rfl⟩, rfl⟩ | ⟨p', rfl, rfl⟩
  · obtain rfl : i' = i := by
      rcases Nat.lt_trichotomy i' i with h | h | h
      · exact absurd ((hs i' (by omega) hi').1.symm.trans e1') (e2 i' (by omega) h)
      · exact h
      · exact absurd ((hs i hi (by omega)).1.trans e1) (e2' i (by omega) h)
    exact ⟨(hs i' hi hi').2.2.2, rfl⟩
  · exact absurd ⟨hPQ.1 p, hn⟩ p'
  · exact absurd ⟨hPQ.2 p', hn'⟩ p
  · exact ⟨rfl, rfl⟩
end Go.Proofs.YtfkdfabbpebljaaGreat.DOk
namespace Go.Proofs.YtfkdfabbpebljaaGreat.DOk
open Go.RowKit Go.Proofs.YtfkdfabbpebljaaGreat.Bytes Go.Proofs.YtfkdfabbpebljaaGreat.Rows_ Go.Maps
set_option linter.unusedVariables false

theorem grown_any {w w' : World} (h : Below w.heap.size w w') (row : Option Nat) : w.grownBy w' row := ⟨h.os, h.tape, h.output, h.size, fun k hk _ => h.block k hk⟩
/-- the files whose ids are linked -/
def keptF (ids : List Int) (fs : List FileD) : List FileD := fs.filter fun f => hasI ids f.id
theorem own_takeK {w : World} {base size n c : Nat} {e : TypeId} {A : Option Addr} {xs : List Value} (h : w.ownsRow base e size (.slice A n c) n xs) {m : Nat} (hm : m ≤ n) :
    w.ownsRow base e size (.slice A m c) m (xs.take (m * size)) := by
  have hle : m * size ≤ n * size := Nat.mul_le_mul_right _ hm
  refine ⟨by rw [List.length_take, h.1]; omega, ?_⟩
  rcases h.2 with ⟨hv, h0⟩ | ⟨g, cap, cur, hv, hb, hg, hnc, hcm, hcs, ht⟩
  · injection hv with e1 e2 e3
    subst e1 e3
    obtain rfl : m = 0 := by omega
    exact .inl ⟨rfl, rfl⟩
  · injection hv with e1 e2 e3
    subst e1 e3
    exact .inr ⟨g, c, cur, rfl, hb, hg, by omega, hcm, hcs, by rw [← ht, List.take_take, Nat.min_eq_left hle]⟩
theorem own_takeB {w : World} {base n c : Nat} {A : Option Addr} {zs : List Int} (h : Own w base A n c zs) {m : Nat} (hm : m ≤ n) : Own w base A m c (zs.take m) := by
  have := own_takeK h hm
  unfold Own bv
  rw [List.map_take]; simpa [bv] using this
theorem flat_take (K : Nat) (rows : List (List Value)) (hr : ∀ r ∈ rows, r.length = K) (i : Nat) (hi : i ≤ rows.length) : rows.flatten.take (i * K) = (rows.take i).flatten := by
  have e : rows.flatten = (rows.take i).flatten ++ (rows.drop i).flatten := by rw [← List.flatten_append, List.take_append_drop]
  have hl : (rows.take i).flatten.length = i * K := by rw [flat_len K _ (fun r h => hr r (List.mem_of_mem_take h)), List.length_take, Nat.min_eq_left hi]
  rw [e, ← hl, List.take_left]
theorem zeroF (w : World) : (zeroValue 58).run Tryz.prog w = .ok (.agg #[.int .i64 0, .slice none 0 0, .int .i64 0]) w := by kernel_rfl
set_option maxRecDepth 100000 in
/-- 'clear(s[i:])' on the call's own row of files: what lies before i stays -/
theorem run_clear_files {w : World} {base g n c i : Nat} {rows : List (List Value)} (h : w.ownsRow base 58 3 (.slice (some ⟨g, 0, none⟩) n c) n rows.flatten) (hr : ∀ r ∈ rows, r.length = 3) (hl : rows.length = n) (hi : i < n) (c' : Nat) :
    ∃ w', (∀ ty, (Builtin.clear_ #[32] ty #[.slice (some ⟨g, i * 3, none⟩) (n - i) c']).run Tryz.prog w = .ok (.tuple #[]) w') ∧
      w'.ownsRow base 58 3 (.slice (some ⟨g, 0, none⟩) i c) i (rows.take i).flatten ∧ w.grownBy w' (some g) := by
  rcases h.2 with ⟨hv, _⟩ | ⟨g', cap, cur, hv, hb, hg, hnc, hcm, hcs, ht⟩
  · cases hv
  injection hv with e1 e2 e3
  injection e1 with e1
  injection e1 with e1
  subst e1 e3
  have hz : (Builtin.zeroCells #[Value.int .i64 0, .slice none 0 0, .int .i64 0] (n - i)).size = (n - i) * 3 := by simp [Builtin.zeroCells]
  have h1 : ∀ v ∈ (Builtin.zeroCells #[Value.int .i64 0, .slice none 0 0, .int .i64 0] (n - i)).toList, v.oneCell' = true := by
    intro v hv
    simp only [Builtin.zeroCells, Array.toList_map, List.mem_map] at hv
    obtain ⟨j, _, rfl⟩ := hv
    have h3 : j % (#[Value.int .i64 0, .slice none 0 0, .int .i64 0] : Array Value).size < 3 := Nat.mod_lt _ (by decide)
    generalize j % (#[Value.int .i64 0, .slice none 0 0, .int .i64 0] : Array Value).size = m at h3
    rcases m with _ | _ | _ | m
    · rfl
    · rfl
    · rfl
    · omega
  have hst := run_storeCells_at Tryz.prog g (i * 3) 58 (Builtin.zeroCells #[Value.int .i64 0, .slice none 0 0, .int .i64 0] (n - i)).toList 0 cur w hg (by rw [Array.length_toList, hz, hcs]; omega) h1
  obtain ⟨m, hm⟩ : ∃ m, n - i = m + 1 := ⟨n - i - 1, by omega⟩
  refine ⟨w.setRow g (cur.toList.take (i * 3 + 0) ++ (Builtin.zeroCells #[Value.int .i64 0, .slice none 0 0, .int .i64 0] (n - i)).toList ++ cur.toList.drop (i * 3 + 0 + (Builtin.zeroCells #[Value.int .i64 0, .slice none 0 0, .int .i64 0] (n - i)).toList.length)).toArray, fun ty => ?_, ?_, ?_⟩
  rotate_left
  · refine ⟨?_, .inr ⟨g, c, _, rfl, hb, setRow_heap w g cur _ _ _ hg, by omega, hcm, ?_, ?_⟩⟩
    · rw [flat_len 3 _ (fun r h => hr r (List.mem_of_mem_take h)), List.length_take, hl, Nat.min_eq_left (Nat.le_of_lt hi)]
    · simp only [List.size_toArray, List.length_append, List.length_take, List.length_drop, Array.length_toList, hz, hcs, Nat.add_zero]
      omega
    · rw [← flat_take 3 rows hr i (by omega), ← ht, List.take_take, Nat.min_eq_left (by omega)]
      have hl2 : (cur.toList.take (i * 3 + 0)).length = i * 3 := by rw [List.length_take, Array.length_toList, hcs]; omega
      rw [List.append_assoc]
      have := List.take_left (l₁ := cur.toList.take (i * 3 + 0)) (l₂ := (Builtin.zeroCells #[Value.int .i64 0, .slice none 0 0, .int .i64 0] (n - i)).toList ++ cur.toList.drop (i * 3 + 0 + (Builtin.zeroCells #[Value.int .i64 0, .slice none 0 0, .int .i64 0] (n - i)).toList.length))
      rw [hl2] at this
      simpa using this
  · exact ⟨rfl, rfl, rfl, by simp, fun k _ hk => setRow_other w g k _ (fun e => hk (by simp [e]))⟩
  · have hu := Tryz.underlying32
    rw [hm] at hst ⊢
    simp [Builtin.clear_, run_underlying hu, Value.cells, hst]
end Go.Proofs.YtfkdfabbpebljaaGreat.DOk
namespace Go.Proofs.YtfkdfabbpebljaaGreat.DOk
open Go.RowKit Go.Proofs.YtfkdfabbpebljaaGreat.Bytes Go.Proofs.YtfkdfabbpebljaaGreat.Rows_
set_option linter.unusedVariables false

theorem BoxW.set0 {w : World} {b : Nat} {x0 x1 x2 x3 x4 x5 : Value} (h : BoxW w b #[x0, x1, x2, x3, x4, x5]) (v : Value) : BoxW (w.setCell ⟨b, 0, none⟩ v) b #[v, x1, x2, x3, x4, x5] := by
  unfold BoxW at h ⊢; simp [World.setCell, Array.getElem?_modify, h]
theorem BoxW.set1 {w : World} {b : Nat} {x0 x1 x2 x3 x4 x5 : Value} (h : BoxW w b #[x0, x1, x2, x3, x4, x5]) (v : Value) : BoxW (w.setCell ⟨b, 1, none⟩ v) b #[x0, v, x2, x3, x4, x5] := by
  unfold BoxW at h ⊢; simp [World.setCell, Array.getElem?_modify, h]
theorem BoxW.new (w : World) (cs : Array Value) : BoxW (w.alloc (.cells cs 36)) w.heap.size cs := heap_alloc_new w _
/-- what a function answers that gives a disk: one of the call's own, as 'D' says of its data -/
def AnsDisk (D : Int → Int → Int → List FileD → List LinkD → List TurnD → Value → Prop) (w : World) (e : Ending) (w' : World) : Prop :=
  ∃ (r f x : Int) (F : Option Addr) (nf cf : Nat) (gs : List FileD) (K : Option Addr) (nk ck : Nat) (ks : List LinkD) (T : Option Addr) (nt ct : Nat) (ts : List TurnD) (o : Value),
    e = .returned (.tuple #[.agg #[.int .i64 r, .int .i64 f, .int .i64 x, .slice F nf cf, .slice K nk ck, .slice T nt ct], o]) ∧ OwnD w' w.heap.size F nf cf gs K nk ck ks T nt ct ts ∧ D r f x gs ks ts o ∧ Below w.heap.size w w'
def SetD (P : Prop) (room fuse next : Int) (fs : List FileD) (ks : List LinkD) (ts : List TurnD) (r f x : Int) (gs : List FileD) (ks' : List LinkD) (ts' : List TurnD) (o : Value) : Prop :=
  (P ∧ o = .bool true ∧ r = room ∧ f = fuse ∧ x = next ∧ gs.map keyF = fs.map keyF ∧ ks' = ks ∧ ts' = ts) ∨ (¬ P ∧ o = .bool false ∧ r = 0 ∧ f = 0 ∧ x = 0 ∧ gs = [] ∧ ks' = [] ∧ ts' = [])
theorem ownD_nil (w : World) (B : Nat) : OwnD w B none 0 0 [] none 0 0 [] none 0 0 [] := ⟨World.ownsRow_nil w B _ _, OwnBs.nil w B, World.ownsRow_nil w B _ _, World.ownsRow_nil w B _ _⟩
theorem OwnD.below {w w' : World} {base B : Nat} {F : Option Addr} {nf cf : Nat} {gs : List FileD} {K : Option Addr} {nk ck : Nat} {ks : List LinkD} {T : Option Addr} {nt ct : Nat} {ts : List TurnD} (h : OwnD w base F nf cf gs K nk ck ks T nt ct ts) (hB : w.heap.size ≤ B) (hb : Below B w w') : OwnD w' base F nf cf gs K nk ck ks T nt ct ts :=
  ⟨own_belowK h.f hB hb, h.b.below hB hb, own_belowK h.l hB hb, own_belowK h.t hB hb⟩
theorem OwnD.more {w : World} {base base' : Nat} {F : Option Addr} {nf cf : Nat} {gs : List FileD} {K : Option Addr} {nk ck : Nat} {ks : List LinkD} {T : Option Addr} {nt ct : Nat} {ts : List TurnD} (h : OwnD w base F nf cf gs K nk ck ks T nt ct ts) (hB : base' ≤ base) : OwnD w base' F nf cf gs K nk ck ks T nt ct ts :=
  ⟨own_moreK h.f hB, ⟨fun f hf => (h.b.1 f hf).more hB, h.b.2⟩, own_moreK h.l hB, own_moreK h.t hB⟩
theorem OwnD.set {w : World} {base c j : Nat} {v : Value} {F : Option Addr} {nf cf : Nat} {gs : List FileD} {K : Option Addr} {nk ck : Nat} {ks : List LinkD} {T : Option Addr} {nt ct : Nat} {ts : List TurnD} (h : OwnD w base F nf cf gs K nk ck ks T nt ct ts) (hc : ∀ i, SD F nf cf gs K nk ck T nt ct i → i ≠ c) : OwnD (w.setCell ⟨c, j, none⟩ v) base F nf cf gs K nk ck ks T nt ct ts :=
  ⟨own_setNe h.f c j v (fun e => hc c (.inl (.inl e)) rfl), ⟨fun f hf => own_setNe (h.b.1 f hf) c j v (fun e => hc c (.inl (.inr ⟨f, hf, e⟩)) rfl), h.b.2⟩, own_setNe h.l c j v (fun e => hc c (.inr (.inl e)) rfl), own_setNe h.t c j v (fun e => hc c (.inr (.inr e)) rfl)⟩
theorem OwnD.set6 {w : World} {base c : Nat} {F : Option Addr} {nf cf : Nat} {gs : List FileD} {K : Option Addr} {nk ck : Nat} {ks : List LinkD} {T : Option Addr} {nt ct : Nat} {ts : List TurnD} (h : OwnD w base F nf cf gs K nk ck ks T nt ct ts) (hc : ∀ i, SD F nf cf gs K nk ck T nt ct i → i ≠ c) (x1 x2 x3 x4 x5 x6 : Value) :
    OwnD ((((((w.setCell ⟨c, 0, none⟩ x1).setCell ⟨c, 1, none⟩ x2).setCell ⟨c, 2, none⟩ x3).setCell ⟨c, 3, none⟩ x4).setCell ⟨c, 4, none⟩ x5).setCell ⟨c, 5, none⟩ x6) base F nf cf gs K nk ck ks T nt ct ts :=
  (((((h.set hc).set hc).set hc).set hc).set hc).set hc
theorem below_set6 {B c : Nat} {a w : World} (h : Below B a w) (hc : B ≤ c) (x1 x2 x3 x4 x5 x6 : Value) :
    Below B a ((((((w.setCell ⟨c, 0, none⟩ x1).setCell ⟨c, 1, none⟩ x2).setCell ⟨c, 2, none⟩ x3).setCell ⟨c, 3, none⟩ x4).setCell ⟨c, 4, none⟩ x5).setCell ⟨c, 5, none⟩ x6) :=
  (((((h.setCell hc _).setCell hc _).setCell hc _).setCell hc _).setCell hc _).setCell hc _
end Go.Proofs.YtfkdfabbpebljaaGreat.DOk
namespace Go.Proofs.YtfkdfabbpebljaaGreat.DOk
open Go.RowKit Go.Proofs.YtfkdfabbpebljaaGreat.Bytes Go.Proofs.YtfkdfabbpebljaaGreat.Rows_ Go.Maps
set_option linter.unusedVariables false

def clampD (k m : Int) : Int := if k < 0 then 0 else if k > m then m else k
def cutN (k : Int) (f : FileD) : Nat := (f.safe + clampD k ((f.n : Int) - f.safe)).toNat
def cutF (k : Int) (f : FileD) : FileD := ⟨f.id, f.A, cutN k f, f.c, (cutN k f : Nat), f.bytes.take (cutN k f)⟩
def kAt (cs : List Int) (i : Nat) : Int := if cs.length = 0 then 0 else cs.getD (i % cs.length) 0
def cutAll (cs : List Int) : Nat → List FileD → List FileD
  | _, [] => []
  | i, f :: r => cutF (kAt cs i) f :: cutAll cs (i + 1) r
/-- the files of which the first are cut -/
theorem cutAll_snoc (cs : List Int) : ∀ (l : List FileD) (i : Nat) (f : FileD), cutAll cs i (l ++ [f]) = cutAll cs i l ++ [cutF (kAt cs (i + l.length)) f]
  | [], i, f => rfl
  | x :: r, i, f => by
    rw [List.cons_append, cutAll, cutAll_snoc cs r (i + 1) f, cutAll, List.cons_append, List.length_cons, show i + 1 + r.length = i + (r.length + 1) by omega]
theorem cutAll_len (cs : List Int) : ∀ (l : List FileD) (i : Nat), (cutAll cs i l).length = l.length
  | [], _ => rfl
  | x :: r, i => by rw [cutAll, List.length_cons, cutAll_len cs r, List.length_cons]
theorem clamp_rng {k m : Int} (hm : 0 ≤ m) : 0 ≤ clampD k m ∧ clampD k m ≤ m := by
  unfold clampD
  split
  · omega
  · split <;> omega
def Safe (f : FileD) : Prop := 0 ≤ f.safe ∧ f.safe ≤ f.n
theorem cutN_le {k : Int} {f : FileD} (h : Safe f) : cutN k f ≤ f.n ∧ ((cutN k f : Nat) : Int) = f.safe + clampD k ((f.n : Int) - f.safe) := by
  have := clamp_rng (k := k) (m := (f.n : Int) - f.safe) (by have := h.2; omega)
  have h1 := h.1
  unfold cutN
  constructor <;> omega
theorem cutF_key {k : Int} {f g : FileD} (h : keyF f = keyF g) : keyF (cutF k f) = keyF (cutF k g) := by
  unfold keyF at h
  simp only [Prod.mk.injEq] at h
  obtain ⟨h1, h2, h3, h4⟩ := h
  have e : cutN k f = cutN k g := by unfold cutN; rw [h2, h3]
  unfold keyF cutF
  simp only
  rw [h1, h4, e]
theorem cutAll_keys (cs : List Int) : ∀ (l m : List FileD) (i : Nat), l.map keyF = m.map keyF → (cutAll cs i l).map keyF = (cutAll cs i m).map keyF
  | [], [], _, _ => rfl
  | [], _ :: _, _, h => by cases h
  | _ :: _, [], _, h => by cases h
  | x :: r, y :: s, i, h => by
    rw [List.map_cons, List.map_cons] at h
    injection h with h1 h2
    rw [cutAll, cutAll, List.map_cons, List.map_cons, cutF_key h1, cutAll_keys cs r s (i + 1) h2]
theorem kept_keys (ids : List Int) : ∀ (l m : List FileD), l.map keyF = m.map keyF → (keptF ids l).map keyF = (keptF ids m).map keyF
  | [], [], _ => rfl
  | [], _ :: _, h => by cases h
  | _ :: _, [], h => by cases h
  | x :: r, y :: s, h => by
    rw [List.map_cons, List.map_cons] at h
    injection h with h1 h2
    have ih := kept_keys ids r s h2
    have hid : x.id = y.id := by unfold keyF at h1; simp only [Prod.mk.injEq] at h1; exact h1.1
    unfold keptF at ih ⊢
    by_cases hx : hasI ids x.id = true
    · rw [List.filter_cons_of_pos (by simpa using hx), List.filter_cons_of_pos (by rw [← hid]; simpa using hx), List.map_cons, List.map_cons, h1, ih]
    · rw [List.filter_cons_of_neg (by simpa using hx), List.filter_cons_of_neg (by rw [← hid]; simpa using hx), ih]
theorem hasI_same {ids ids' : List Int} (h : ∀ z, z ∈ ids ↔ z ∈ ids') (z : Int) : hasI ids z = hasI ids' z := by
  rw [Bool.eq_iff_iff, hasI_iff, hasI_iff]; exact h z
theorem kept_same {ids ids' : List Int} (h : ∀ z, z ∈ ids ↔ z ∈ ids') (fs : List FileD) : keptF ids fs = keptF ids' fs := by
  unfold keptF; congr 1; funext f; exact hasI_same h f.id
theorem kept_mem {ids : List Int} {fs : List FileD} {f : FileD} (h : f ∈ keptF ids fs) : f ∈ fs := (List.mem_filter.1 h).1
theorem kept_len (ids : List Int) (fs : List FileD) : (keptF ids fs).length ≤ fs.length := List.length_filter_le _ _
theorem kept_sep {ids : List Int} {w : World} {base : Nat} {fs : List FileD} (h : OwnBs w base fs) : OwnBs w base (keptF ids fs) :=
  ⟨fun f hf => h.1 f (kept_mem hf), List.Pairwise.filter _ h.2⟩
theorem clampI_nat (turns : Int) (n : Nat) : ∃ m : Nat, m ≤ n ∧ clampD turns (n : Int) = (m : Int) := by
  have := clamp_rng (k := turns) (m := (n : Int)) (by omega)
  exact ⟨(clampD turns n).toNat, by omega, by omega⟩
/-- what the failure answers -/
def CrashD (P : Prop) (room next : Int) (fs : List FileD) (ks : List LinkD) (ts : List TurnD) (m : Nat) (cs : List Int) (r f x : Int) (gs : List FileD) (ks' : List LinkD) (ts' : List TurnD) (o : Value) : Prop :=
  (P ∧ o = .bool true ∧ r = room ∧ f = -1 ∧ x = next ∧ gs.map keyF = (cutAll cs 0 (keptF ((dirAt ks (ts.take m)).map (·.2)) fs)).map keyF ∧ ks' = dirAt ks (ts.take m) ∧ ts' = []) ∨
  (¬ P ∧ o = .bool false ∧ r = 0 ∧ f = 0 ∧ x = 0 ∧ gs = [] ∧ ks' = [] ∧ ts' = [])
end Go.Proofs.YtfkdfabbpebljaaGreat.DOk
