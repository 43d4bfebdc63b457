/- DiskOk: what the model asks and what the program asks of a disk is the same. Plain reasoning. -/
import Derived.Test.YtckiloacbanbmaaDoorImplOk
import Derived.Test.YtckiloacbanbmaaDoorSpecOk
namespace Go.Proofs.YtckiloacbanbmaaDoor.DOk
open Go.RowKit Go.Proofs.YtckiloacbanbmaaDoor.Bytes Go.Proofs.YtckiloacbanbmaaDoor.Rows_ Go.Maps
open Go.Proofs.YtckiloacbanbmaaDoor.Made (madeB nb)
set_option linter.unusedVariables false

theorem toList_loop (s : ByteArray) : ∀ (n i : Nat) (r : List UInt8), i + n = s.size → ByteArray.toList.loop s i r = r.reverse ++ s.data.toList.drop i
  | 0, i, r, h => by
    rw [ByteArray.toList.loop, if_neg (by omega), List.drop_of_length_le (by simp; omega), List.append_nil]
  | n + 1, i, r, h => by
    have hi : i < s.data.toList.length := by simp; omega
    rw [ByteArray.toList.loop, if_pos (by omega), toList_loop s n (i + 1) _ (by omega), List.drop_eq_getElem_cons hi, List.reverse_cons, List.append_assoc]
    congr 1
    have : s.get! i = s.data.toList[i] := by
      have h2 : i < s.data.size := by simpa using hi
      show s.data[i]! = _
      rw [getElem!_pos s.data i h2]; simp
    rw [this]; rfl
theorem toList_data (s : ByteArray) : s.toList = s.data.toList := by
  unfold ByteArray.toList
  rw [toList_loop s s.size 0 [] (by omega)]; simp
theorem less_total : ∀ a b : List UInt8, (Op.bytesLess a b || a == b) = !Op.bytesLess b a
  | [], [] => rfl
  | [], y :: s => rfl
  | x :: r, [] => rfl
  | x :: r, y :: s => by
    unfold Op.bytesLess
    have ih := less_total r s
    have e : (x :: r == y :: s) = (x == y && r == s) := rfl
    rw [e]
    rcases Nat.lt_trichotomy x.toNat y.toNat with h | h | h
    · have h1 : (x < y) = true := by simp [UInt8.lt_iff_toNat_lt, h]
      have h2 : (x == y) = false := by simp; intro e; subst e; omega
      have h3 : (y < x) = false := by simp [UInt8.lt_iff_toNat_lt]; omega
      have h4 : (y == x) = false := by simp; intro e; subst e; omega
      simp [h1, h2, h3, h4]
    · have h0 : x = y := UInt8.toNat_inj.1 h
      subst h0
      have h3 : (x < x) = false := by simp
      simp [h3, ih]
    · have h1 : (x < y) = false := by simp [UInt8.lt_iff_toNat_lt]; omega
      have h2 : (x == y) = false := by simp; intro e; subst e; omega
      have h3 : (y < x) = true := by simp [UInt8.lt_iff_toNat_lt, h]
      have h4 : (y == x) = false := by simp; intro e; subst e; omega
      simp [h1, h2, h3, h4]

/-! ### ids -/
theorem pigeon : ∀ (a b : List Int), a.Nodup → (∀ x ∈ a, x ∈ b) → a.length ≤ b.length
  | [], b, _, _ => Nat.zero_le _
  | x :: r, b, hn, hs => by
    have hx : x ∈ b := hs x (by simp)
    have hn' := List.nodup_cons.1 hn
    have := pigeon r (b.erase x) hn'.2 (fun y hy => (List.mem_erase_of_ne (by intro e; subst e; exact hn'.1 hy)).2 (hs y (by simp [hy])))
    rw [List.length_erase_of_mem hx] at this
    have hb : 0 < b.length := List.length_pos_of_mem hx
    simp; omega
theorem onto (a b : List Int) (hn : a.Nodup) (hs : ∀ x ∈ a, x ∈ b) (hl : b.length ≤ a.length) : ∀ x ∈ b, x ∈ a := by
  intro z hz
  apply Classical.byContradiction
  intro hna
  have := pigeon a (b.erase z) hn (fun y hy => (List.mem_erase_of_ne (by intro e; subst e; exact hna hy)).2 (hs y hy))
  rw [List.length_erase_of_mem hz] at this
  have hb : 0 < b.length := List.length_pos_of_mem hz
  omega
theorem hasI_iff (zs : List Int) (z : Int) : hasI zs z = true ↔ z ∈ zs := by
  unfold hasI; rw [List.any_eq_true]
  exact ⟨fun ⟨x, hx, e⟩ => by have := beq_iff_eq.1 e; subst this; exact hx, fun h => ⟨z, h, by simp⟩⟩
theorem nodup_iff (zs : List Int) : zs.Nodup ↔ ∀ j (h : j < zs.length), hasI (zs.take j) zs[j] = false := by
  constructor
  · intro hn j h
    apply Classical.byContradiction
    intro hc
    have hm := (hasI_iff _ _).1 (by simpa using hc)
    obtain ⟨i, hi, e⟩ := List.getElem_of_mem hm
    rw [List.getElem_take] at e
    have hij : i < j := by rw [List.length_take] at hi; omega
    have hp := List.pairwise_iff_getElem.1 hn i j (by omega) h hij
    exact hp e
  · intro ha
    refine List.pairwise_iff_getElem.2 fun i j hi hj hij e => ?_
    have := ha j hj
    have hm : zs[j] ∈ zs.take j := by
      rw [← e]; exact List.mem_take_iff_getElem.2 ⟨i, by omega, rfl⟩
    rw [(hasI_iff _ _).2 hm] at this; cases this
theorem addKey_len : ∀ (xs L : List Lit), (xs.foldl addKey L).length ≤ L.length + xs.length
  | [], L => by simp
  | x :: r, L => by
    rw [List.foldl_cons]
    have := addKey_len r (addKey L x)
    have h2 : (addKey L x).length ≤ L.length + 1 := by unfold addKey; split <;> simp
    simp; omega
theorem any_same (L : List Lit) (x : Lit) (hx : WideAt.IsKeyLit x) : (L.any fun y => y.sameKey x) = true ↔ x ∈ L := by
  rw [List.any_eq_true]
  constructor
  · rintro ⟨y, hy, e⟩
    rw [← WideAt.sameKey_eq e]; exact hy
  · intro h
    refine ⟨x, h, ?_⟩
    cases x <;> first | exact (hx : False).elim | simp [Lit.sameKey]
theorem addKey_nodup : ∀ (xs L : List Lit), (∀ x ∈ xs, WideAt.IsKeyLit x) → ((xs.foldl addKey L).length = L.length + xs.length ↔ xs.Nodup ∧ ∀ x ∈ xs, x ∉ L)
  | [], L, _ => by simp
  | x :: r, L, hk => by
    rw [List.foldl_cons, List.nodup_cons]
    have ih := addKey_nodup r (addKey L x) (fun y hy => hk y (by simp [hy]))
    have hs := any_same L x (hk x (by simp))
    by_cases hx : x ∈ L
    · have e : addKey L x = L := by unfold addKey; rw [if_pos (hs.2 hx)]
      rw [e]
      have := addKey_len r L
      constructor
      · intro h; simp at h; omega
      · intro h; exact absurd hx (h.2 x (by simp))
    · have e : addKey L x = L ++ [x] := by unfold addKey; rw [if_neg (fun h => hx (hs.1 h))]
      rw [e] at ih ⊢
      have el : (L ++ [x]).length + r.length = L.length + (x :: r).length := by simp; omega
      rw [← el, ih]
      constructor
      · rintro ⟨h1, h2⟩
        refine ⟨⟨fun hr => h2 x hr (by simp), h1⟩, fun y hy => ?_⟩
        rcases List.mem_cons.1 hy with rfl | hy
        · exact hx
        · exact fun hl => h2 y hy (by simp [hl])
      · rintro ⟨⟨h1, h2⟩, h3⟩
        refine ⟨h2, fun y hy hl => ?_⟩
        rcases List.mem_append.1 hl with hl | hl
        · exact h3 y (by simp [hy]) hl
        · simp at hl; subst hl; exact h1 hy
theorem kI_inj {a b : Int} (h : kI a = kI b) : a = b := by unfold kI at h; injection h
theorem size_idMap (ids : List Int) : ids.length = Maps.size (idMap ids) ↔ ids.Nodup := by
  unfold idMap
  rw [size_setOf tru _ (idMap_lits ids)]
  have h := addKey_nodup (ids.map kI) [] (idMap_lits ids)
  simp only [List.length_nil, Nat.zero_add, List.length_map] at h
  rw [eq_comm, h]
  constructor
  · rintro ⟨h1, _⟩
    exact List.Pairwise.of_map kI (fun a b hab e => hab (by rw [e])) h1
  · intro hn
    exact ⟨List.Pairwise.map kI (fun a b hab e => hab (kI_inj e)) hn, fun x _ => by simp⟩
theorem has_idMap (ids : List Int) (z : Int) : has (idMap ids) (kI z) = true ↔ z ∈ ids := by
  unfold idMap
  rw [has_setOf tru (kI z) _ (idMap_lits ids), any_same _ _ (show WideAt.IsKeyLit (kI z) from trivial)]
  constructor
  · intro h
    obtain ⟨y, hy, e⟩ := List.mem_map.1 h
    rw [← kI_inj e]; exact hy
  · intro h; exact List.mem_map.2 ⟨z, h, rfl⟩

/-! ### files -/
theorem lastId_pos (fs : List FileD) (j : Nat) (h : j < fs.length) (hj : 0 < j) : lastId fs j = (fs[j - 1]'(by omega)).id := by
  unfold lastId; rw [dif_pos ⟨hj, by omega⟩]
theorem files_iff (next : Int) (fs : List FileD) : (∀ j h, FileAt next fs j h) ↔ ∀ j h, FileAtI next fs j h := by
  constructor
  · intro ha j h
    obtain ⟨h1, h2, h3, h4, h5⟩ := ha j h
    refine ⟨?_, h2, h4, h5⟩
    rcases Nat.eq_zero_or_pos j with hj | hj
    · subst hj; rw [lastId_zero]; omega
    · rw [lastId_pos fs j h hj]; exact h3 hj
  · intro ha
    have hpos : ∀ j (h : j < fs.length), 1 ≤ fs[j].id := by
      intro j
      induction j with
      | zero => intro h; have := (ha 0 h).1; rw [lastId_zero] at this; omega
      | succ j ih =>
        intro h
        have h1 := (ha (j + 1) h).1
        rw [lastId_pos fs (j + 1) h (by omega)] at h1
        have h2 := ih (by omega)
        have h3 : (fs[j + 1 - 1]'(by omega)).id = fs[j].id := rfl
        omega
    intro j h
    obtain ⟨h1, h2, h4, h5⟩ := ha j h
    refine ⟨hpos j h, h2, fun hj => ?_, h4, h5⟩
    rw [lastId_pos fs j h hj] at h1; exact h1
theorem fids_nodup (next : Int) (fs : List FileD) (ha : ∀ j h, FileAt next fs j h) : (fidsD fs).Nodup := by
  have hmono : ∀ d i (hi : i + (d + 1) < fs.length), (fs[i]'(by omega)).id < fs[i + (d + 1)].id := by
    intro d
    induction d with
    | zero => intro i hi; have := (ha (i + 1) hi).2.2.1 (by omega); exact this
    | succ d ih =>
      intro i hi
      have h1 := ih i (by omega)
      have h2 := (ha (i + (d + 1 + 1)) hi).2.2.1 (by omega)
      have e : (fs[i + (d + 1 + 1) - 1]'(by omega)).id = (fs[i + (d + 1)]'(by omega)).id := rfl
      omega
  refine List.pairwise_iff_getElem.2 fun i j hi hj hij e => ?_
  unfold fidsD at e hi hj
  rw [List.length_map] at hi hj
  rw [List.getElem_map, List.getElem_map] at e
  obtain ⟨d, rfl⟩ : ∃ d, j = i + (d + 1) := ⟨j - i - 1, by omega⟩
  have := hmono d i hj
  omega
theorem fids_pos (next : Int) (fs : List FileD) (ha : ∀ j h, FileAt next fs j h) : ∀ z ∈ fidsD fs, 0 < z := by
  intro z hz
  obtain ⟨f, hf, rfl⟩ := List.mem_map.1 hz
  obtain ⟨j, hj, rfl⟩ := List.getElem_of_mem hf
  have := (ha j hj).1
  show 0 < fs[j].id
  omega
theorem kept_iff (ks : List LinkD) : (∀ j h, KeptAt ks j h) ↔ ∀ j h, KeptAtI ks j h := by
  have h0 : ∀ a b : List UInt8, leB b a = false ↔ Op.bytesLess a b = true := by
    intro a b; unfold leB; rw [less_total b a]; cases Op.bytesLess a b <;> simp
  constructor
  · intro ha j h; exact ⟨(ha j h).1, fun hj => (h0 _ _).2 ((ha j h).2 hj)⟩
  · intro ha j h; exact ⟨(ha j h).1, fun hj => (h0 _ _).1 ((ha j h).2 hj)⟩
theorem ids_iff (next : Int) (fs : List FileD) (ks : List LinkD) (ts : List TurnD) (ha : ∀ j h, FileAt next fs j h) :
    ((idsD ks ts).length = fs.length ∧ ∀ j h, IdAt (fidsD fs) (idsD ks ts) j h) ↔ IdsOkI fs ks ts := by
  have hfl : (fidsD fs).length = fs.length := by unfold fidsD; simp
  have hfn := fids_nodup next fs ha
  have hall : (∀ j (h : j < fs.length), has (idMap (idsD ks ts)) (kI fs[j].id) = true) ↔ ∀ z ∈ fidsD fs, z ∈ idsD ks ts := by
    constructor
    · intro h z hz
      obtain ⟨f, hf, rfl⟩ := List.mem_map.1 hz
      obtain ⟨j, hj, rfl⟩ := List.getElem_of_mem hf
      exact (has_idMap _ _).1 (h j hj)
    · intro h j hj
      exact (has_idMap _ _).2 (h _ (List.mem_map.2 ⟨fs[j], List.getElem_mem hj, rfl⟩))
  unfold IdsOkI
  rw [hall, size_idMap]
  constructor
  · rintro ⟨hl, hid⟩
    have hn : (idsD ks ts).Nodup := (nodup_iff _).2 fun j h => (hid j h).1
    have hs : ∀ z ∈ idsD ks ts, z ∈ fidsD fs := by
      intro z hz
      obtain ⟨j, hj, rfl⟩ := List.getElem_of_mem hz
      exact (hasI_iff _ _).1 (hid j hj).2
    exact ⟨onto _ _ hn hs (by omega), hn, hl⟩
  · rintro ⟨hs, hn, hl⟩
    have hs' := onto _ _ hfn hs (by omega)
    exact ⟨hl, fun j h => ⟨(nodup_iff _).1 hn j h, (hasI_iff _ _).2 (hs' _ (List.getElem_mem h))⟩⟩
theorem ids_pos (next : Int) (fs : List FileD) (ks : List LinkD) (ts : List TurnD) (ha : ∀ j h, FileAt next fs j h) (hid : ∀ j h, IdAt (fidsD fs) (idsD ks ts) j h) : ∀ z ∈ idsD ks ts, 0 < z := by
  intro z hz
  obtain ⟨j, hj, rfl⟩ := List.getElem_of_mem hz
  exact fids_pos next fs ha _ ((hasI_iff _ _).1 (hid j hj).2)
end Go.Proofs.YtckiloacbanbmaaDoor.DOk
