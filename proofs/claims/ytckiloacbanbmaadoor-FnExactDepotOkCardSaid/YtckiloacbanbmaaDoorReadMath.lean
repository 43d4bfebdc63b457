/- What reading a file of a disk answers, in data; the file is there. Plain reasoning. -/
import Derived.Test.YtckiloacbanbmaaDoorDirSpec
namespace Go.Proofs.YtckiloacbanbmaaDoor.DOk
open Go.RowKit Go.Proofs.YtckiloacbanbmaaDoor.Bytes Go.Proofs.YtckiloacbanbmaaDoor.Rows_ Go.Maps
open Go.Proofs.YtckiloacbanbmaaDoor.Made (madeB nb)
set_option linter.unusedVariables false

theorem ids_dir (ks : List LinkD) (ts : List TurnD) (hk : ∀ x ∈ ks, 0 < x.2) (ha : ∀ j h, TurnAt ks ts j h) (hS : ∀ j, j ≤ ts.length → Same (dirAt ks (ts.take j)) (dirM ks (ts.take j))) :
    ∀ j, j ≤ ts.length → ∀ x ∈ dirAt ks (ts.take j), x.2 ∈ idsD ks ts := by
  intro j
  induction j with
  | zero => intro _ x hx; unfold idsD; exact List.mem_append_left _ (List.mem_map.2 ⟨x, hx, rfl⟩)
  | succ j ih =>
    intro hj x hx
    have ih := ih (by omega)
    have hok := ha j hj
    have hpos := (hS j (by omega)).2.2
    rw [dirAt_snoc ks ts j hj] at hx
    unfold TurnAt at hok
    generalize hD : dirAt ks (ts.take j) = D at *
    unfold turnD at hx
    by_cases k1 : ts[j].kind = 1
    · rw [if_pos k1] at hx
      rcases (mem_with _ _ _ _).1 hx with hx | rfl
      · exact ih x hx
      · unfold idsD tids
        refine List.mem_append_right _ (List.mem_map.2 ⟨ts[j], List.mem_filter.2 ⟨List.getElem_mem hj, by simpa using k1⟩, rfl⟩)
    · by_cases k4 : ts[j].kind = 4
      · rw [if_neg k1, if_pos k4] at hx
        rcases (mem_with _ _ _ _).1 hx with hx | rfl
        · exact ih x ((mem_less _ _ _).1 ((mem_less _ _ _).1 hx).1).1
        · unfold turnOkS tokS at hok
          rw [k4] at hok
          rw [if_neg (by decide), if_pos rfl] at hok
          simp only [Bool.and_eq_true, decide_eq_true_iff] at hok
          obtain ⟨y, hy, e⟩ := find_mem D _ ((find_pos D _ hpos).1 hok.2.2)
          show findD D ts[j].name.toList ∈ idsD ks ts
          rw [← e]; exact ih y hy
      · rw [if_neg k1, if_neg k4] at hx
        exact ih x ((mem_less _ _ _).1 hx).1
theorem okS_parts {room fuse next : Int} {fs : List FileD} {ks : List LinkD} {ts : List TurnD} (h : OkS room fuse next fs ks ts) :
    Same (dirAt ks ts) (dirM ks ts) ∧ Val (dirAt ks ts) (dirM ks ts) ∧ (∀ x ∈ dirAt ks ts, x.2 ∈ fidsD fs) ∧ (fidsD fs).Nodup := by
  obtain ⟨_, _, _, _, _, hf, hk, hl, hid, ht⟩ := h
  have hsub : ∀ z ∈ idsD ks ts, z ∈ fidsD fs := by
    intro z hz
    obtain ⟨j, hj, rfl⟩ := List.getElem_of_mem hz
    exact (hasI_iff _ _).1 (hid j hj).2
  have hpos : ∀ x ∈ ks, 0 < x.2 := fun x hx => fids_pos next fs hf _ (hsub _ (List.mem_append_left _ (List.mem_map.2 ⟨x, hx, rfl⟩)))
  have hall := dir_all ks ts hpos (kept_ris ks hk) ht
  have e : ts.take ts.length = ts := List.take_length
  have h1 := hall ts.length (Nat.le_refl _)
  have h2 := ids_dir ks ts hpos ht (fun j hj => (hall j hj).1) ts.length (Nat.le_refl _)
  rw [e] at h1 h2
  exact ⟨h1.1, h1.2, fun x hx => hsub _ (h2 x hx), fids_nodup next fs hf⟩
theorem ids_ne {fs : List FileD} (hn : (fidsD fs).Nodup) {i j : Nat} (hi : i < fs.length) (hj : j < fs.length) (hij : i ≠ j) : fs[i].id ≠ fs[j].id := by
  intro e
  have h1 : (fidsD fs)[i]'(by unfold fidsD; simpa using hi) = (fidsD fs)[j]'(by unfold fidsD; simpa using hj) := by unfold fidsD; simpa using e
  exact hij ((List.getElem_inj hn).1 h1)
theorem file_of {room fuse next : Int} {fs : List FileD} {ks : List LinkD} {ts : List TurnD} (h : OkS room fuse next fs ks ts) {s : List UInt8} (hs : InN (dirAt ks ts) s) :
    ∃ (i : Nat) (hi : i < fs.length), fs[i].id = findD (dirAt ks ts) s ∧ ∀ j (hj : j < fs.length), j < i → fs[j].id ≠ findD (dirAt ks ts) s := by
  obtain ⟨_, _, h3, h4⟩ := okS_parts h
  obtain ⟨x, hx, e⟩ := find_mem _ _ hs
  obtain ⟨f, hf, e2⟩ := List.mem_map.1 (h3 x hx)
  obtain ⟨i, hi, rfl⟩ := List.getElem_of_mem hf
  refine ⟨i, hi, by rw [← e]; exact e2, fun j hj hlt e3 => ?_⟩
  exact ids_ne h4 hj hi (by omega) (by rw [e3, ← e]; exact e2.symm)
/-- what reading answers: the bytes of the file that the name links, where the disk is good and has the name -/
def ReadD (P : Prop) (fs : List FileD) (l : List LinkD) (s : List UInt8) (zs : List Int) (o : Bool) : Prop :=
  (P ∧ InN l s ∧ (∃ (i : Nat) (hi : i < fs.length), fs[i].id = findD l s ∧ (∀ j (hj : j < fs.length), j < i → fs[j].id ≠ findD l s) ∧ zs = fs[i].bytes) ∧ o = true) ∨ (¬ (P ∧ InN l s) ∧ zs = [] ∧ o = false)
theorem ReadD.same {P Q : Prop} (hPQ : P ↔ Q) {fs gs : List FileD} (hk : gs.map keyF = fs.map keyF) {l : List LinkD} {s : List UInt8} {zs zs' : List Int} {o o' : Bool} (h : ReadD P fs l s zs o) (h' : ReadD Q gs l s zs' o') : zs' = zs ∧ o' = o := by
  obtain ⟨hl, hs⟩ := same_of_keys hk
  rcases h with ⟨p, hn, ⟨i, hi, e1, e2, rfl⟩, rfl⟩ | ⟨p, rfl, rfl⟩ <;> rcases h' with ⟨p', hn', ⟨i', hi', e1', e2', rfl⟩, rfl⟩ | ⟨p', rfl, rfl⟩
  · obtain rfl : i' = i := by
      rcases Nat.lt_trichotomy i' i with h | h | h
      · exact absurd ((hs i' (by omega) hi').1.symm.trans e1') (e2 i' (by omega) h)
      · exact h
      · exact absurd ((hs i hi (by omega)).1.trans e1) (e2' i (by omega) h)
    exact ⟨(hs i' hi hi').2.2.2, rfl⟩
  · exact absurd ⟨hPQ.1 p, hn⟩ p'
  · exact absurd ⟨hPQ.2 p', hn'⟩ p
  · exact ⟨rfl, rfl⟩
end Go.Proofs.YtckiloacbanbmaaDoor.DOk
