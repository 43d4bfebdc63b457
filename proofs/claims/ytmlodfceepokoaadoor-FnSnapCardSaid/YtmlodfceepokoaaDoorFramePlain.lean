/- Plain facts on a journal's frame, as a list of bytes: how it is written, how it is read, and that reading by writing again and reading by the checksum alone are the same; no program is named. -/
import Derived.Test.YtmlodfceepokoaaDoorGetPlain
import Derived.Test.YtmlodfceepokoaaDoorCrcCore
namespace Go.Proofs.YtmlodfceepokoaaDoor.Frame
open Go.Proofs.YtmlodfceepokoaaDoor.Var Go.Proofs.YtmlodfceepokoaaDoor.Crc

/-! ### a frame, written -/
def hd (s n : Nat) : List Int := 167 :: (vEnc s ++ vEnc n)
def crcN (l : List Int) : Nat := 4294967295 - cf l
theorem crcN_le (l : List Int) : crcN l ≤ 4294967295 := by unfold crcN; omega
def frB (s : Nat) (ds : List Int) : List Int := hd s ds.length ++ vEnc (crcN (hd s ds.length ++ ds)) ++ ds
def frK (s : Int) (n : Nat) : Bool := decide (1 ≤ s ∧ s ≤ 1000000000 ∧ n ≤ 60000)
def frO (s : Int) (ds : List Int) : List Int := if frK s ds.length = true then frB s.toNat ds else []
theorem frK_yes {s : Int} {n : Nat} (h1 : 1 ≤ s) (h2 : s ≤ 1000000000) (h3 : n ≤ 60000) : frK s n = true := decide_eq_true ⟨h1, h2, h3⟩
theorem frK_no {s : Int} {n : Nat} (h : s < 1 ∨ 1000000000 < s ∨ 60000 < n) : frK s n = false := decide_eq_false fun ⟨h1, h2, h3⟩ => by omega
theorem of_frK {s : Int} {n : Nat} (h : frK s n = true) : 1 ≤ s ∧ s ≤ 1000000000 ∧ n ≤ 60000 := of_decide_eq_true h
theorem frO_yes {s : Int} {ds : List Int} (h : frK s ds.length = true) : frO s ds = frB s.toNat ds := if_pos h
theorem frO_no {s : Int} {ds : List Int} (h : frK s ds.length = false) : frO s ds = [] := if_neg (by rw [h]; simp)
theorem hd_len {s n : Nat} (hs : s ≤ 1000000000) (hn : n ≤ 60000) : (hd s n).length ≤ 11 := by
  have h1 := vEnc_len5 (n := s) (by omega)
  have h2 := vEnc_len5 (n := n) (by omega)
  simp [hd]; omega
theorem hd_rng (s n : Nat) : ∀ z ∈ hd s n, 0 ≤ z ∧ z < 256 := by
  intro z hz
  unfold hd at hz
  rcases List.mem_cons.1 hz with e | e
  · omega
  · rcases List.mem_append.1 e with e | e
    · exact vEnc_rng (s + 1) s (by omega) z e
    · exact vEnc_rng (n + 1) n (by omega) z e
theorem frB_len {s : Nat} {ds : List Int} (hs : s ≤ 1000000000) (hn : ds.length ≤ 60000) : (frB s ds).length ≤ ds.length + 16 := by
  have h1 := hd_len hs hn
  have h2 := vEnc_len5 (crcN_le (hd s ds.length ++ ds))
  unfold frB; rw [List.length_append, List.length_append]; omega
theorem frO_len (s : Int) (ds : List Int) : (frO s ds).length ≤ 60016 := by
  unfold frO; split
  · rename_i h
    obtain ⟨h1, h2, h3⟩ := of_frK h
    have := frB_len (s := s.toNat) (ds := ds) (by omega) h3
    omega
  · simp
theorem frO_len' (s : Int) (ds : List Int) : (frO s ds).length ≤ ds.length + 16 := by
  unfold frO; split
  · rename_i h
    obtain ⟨h1, h2, h3⟩ := of_frK h
    exact frB_len (s := s.toNat) (ds := ds) (by omega) h3
  · simp
theorem frB_rng (s : Nat) (ds : List Int) (h : ∀ z ∈ ds, 0 ≤ z ∧ z < 256) : ∀ z ∈ frB s ds, 0 ≤ z ∧ z < 256 := by
  intro z hz
  unfold frB at hz
  rcases List.mem_append.1 hz with e | e
  · rcases List.mem_append.1 e with e | e
    · exact hd_rng _ _ z e
    · exact vEnc_rng _ _ (Nat.lt_succ_self _) z e
  · exact h z e
theorem frO_rng (s : Int) (ds : List Int) (h : ∀ z ∈ ds, 0 ≤ z ∧ z < 256) : ∀ z ∈ frO s ds, 0 ≤ z ∧ z < 256 := by
  unfold frO; split
  · exact frB_rng _ _ h
  · intro z hz; simp at hz
theorem vEnc_inj {a b : Nat} (h : vEnc a = vEnc b) : a = b := by
  have h1 := val_enc (a + 1) a (by omega)
  have h2 := val_enc (b + 1) b (by omega)
  rw [h] at h1; omega

/-! ### a number that was read is written with the very bytes -/
theorem gv_parts {zs : List Int} {a : Nat} (h : gvOk zs (a : Int) = true) :
    a + gvk zs a < zs.length ∧ gvk zs a < 5 ∧ gvv zs a (gvk zs a + 1) ≤ 4294967295 ∧ ¬ (0 < gvk zs a ∧ zs.getD (a + gvk zs a) 0 = 0) ∧
      gvN zs (a : Int) = (gvv zs a (gvk zs a + 1) : Int) ∧ gvE zs (a : Int) = ((a + gvk zs a + 1 : Nat) : Int) := by
  have h0 := h
  unfold gvOk at h0
  rw [Int.toNat_natCast] at h0
  obtain ⟨h1, h2, h3, h4, h5, h6⟩ := of_decide_eq_true h0
  obtain ⟨_, e2, e3⟩ := gv_yes (by omega) h3 h4 h5 h6
  exact ⟨h4, h3, h6, h5, e2, by rw [e3]; omega⟩
theorem gv_enc {zs : List Int} {a : Nat} (hg : ∀ z ∈ zs, 0 ≤ z ∧ z < 256) (h : gvOk zs (a : Int) = true) :
    vEnc (gvN zs (a : Int)).toNat = (zs.drop a).take ((gvE zs (a : Int)).toNat - a) := by
  obtain ⟨h1, h2, h3, h4, h5, h6⟩ := gv_parts h
  have := (seg_enc zs a (gvk zs a) hg h1 (fun j hj => gvk_big zs a j hj) (gvk_end zs a h1)).2 h4
  rw [h5, h6, Int.toNat_natCast, Int.toNat_natCast, this]
  unfold seg
  rw [show a + gvk zs a + 1 - a = gvk zs a + 1 by omega]
theorem gv_pos {zs : List Int} {a : Int} (h : gvOk zs a = true) : 0 ≤ gvN zs a ∧ gvN zs a ≤ 4294967295 ∧ a < gvE zs a ∧ gvE zs a ≤ zs.length ∧ 0 ≤ a ∧ gvE zs a ≤ a + 5 := by
  have h0 := h
  unfold gvOk at h0
  obtain ⟨b1, _⟩ := of_decide_eq_true h0
  obtain ⟨k, rfl⟩ := Int.eq_ofNat_of_zero_le b1
  obtain ⟨h1, h2, h3, h4, h5, h6⟩ := gv_parts h
  rw [h5, h6]; omega

/-! ### a frame, read -/
def p1 (zs : List Int) (a : Int) : Int := gvE zs (a + 1)
def p2 (zs : List Int) (a : Int) : Int := gvE zs (p1 zs a)
def p3 (zs : List Int) (a : Int) : Int := gvE zs (p2 zs a)
def fSeq (zs : List Int) (a : Int) : Int := gvN zs (a + 1)
def fSize (zs : List Int) (a : Int) : Int := gvN zs (p1 zs a)
def fCrc (zs : List Int) (a : Int) : Int := gvN zs (p2 zs a)
def fData (zs : List Int) (a : Int) : List Int := (zs.drop (p3 zs a).toNat).take (fSize zs a).toNat
def fOk3 (zs : List Int) (a : Int) : Bool := gvOk zs (a + 1) && gvOk zs (p1 zs a) && gvOk zs (p2 zs a)
def fHead (zs : List Int) (a : Int) : List Int := (zs.drop a.toNat).take ((p2 zs a).toNat - a.toNat)
def frC (zs : List Int) (a : Int) : Nat :=
  if a < 0 ∨ (zs.length : Int) < a then 1
  else if a = zs.length ∨ zs.getD a.toNat 0 ≠ 167 then 2
  else if fOk3 zs a = false then 3
  else if fSeq zs a < 1 ∨ 1000000000 < fSeq zs a ∨ 60000 < fSize zs a then 4
  else if (zs.length : Int) - p3 zs a < fSize zs a then 5
  else if fCrc zs a ≠ (crcN (fHead zs a ++ fData zs a) : Int) then 6
  else 0
theorem frC_le (zs : List Int) (a : Int) : frC zs a ≤ 6 := by
  unfold frC; repeat (split; omega)
  omega
def frSeq (zs : List Int) (a : Int) : Int := if frC zs a = 0 then fSeq zs a else 0
def frData (zs : List Int) (a : Int) : List Int := if frC zs a = 0 then fData zs a else []
def frNext (zs : List Int) (a : Int) : Int := if frC zs a = 0 then p3 zs a + fSize zs a else 0

theorem fOk3_yes {zs : List Int} {a : Int} (h : fOk3 zs a = true) : gvOk zs (a + 1) = true ∧ gvOk zs (p1 zs a) = true ∧ gvOk zs (p2 zs a) = true := by
  unfold fOk3 at h; simpa [and_assoc] using h
theorem fOk3_no {zs : List Int} {a : Int} (h : ¬ (gvOk zs (a + 1) = true ∧ gvOk zs (p1 zs a) = true ∧ gvOk zs (p2 zs a) = true)) : fOk3 zs a = false := by
  unfold fOk3
  rcases h1 : gvOk zs (a + 1)
  · rfl
  · rcases h2 : gvOk zs (p1 zs a)
    · rfl
    · rcases h3 : gvOk zs (p2 zs a)
      · rfl
      · exact absurd ⟨h1, h2, h3⟩ h
theorem frC_1 {zs : List Int} {a : Int} (h : a < 0 ∨ (zs.length : Int) < a) : frC zs a = 1 := by unfold frC; rw [if_pos h]
theorem frC_2 {zs : List Int} {a : Nat} (h0 : a ≤ zs.length) (h : a = zs.length ∨ zs.getD a 0 ≠ 167) : frC zs (a : Int) = 2 := by
  unfold frC; rw [if_neg (by omega), if_pos (by rw [Int.toNat_natCast]; rcases h with h | h; exact .inl (by omega); exact .inr h)]
theorem frC_in {zs : List Int} {a : Nat} (h0 : a < zs.length) (h : zs.getD a 0 = 167) : frC zs (a : Int) =
    if fOk3 zs a = false then 3 else if fSeq zs a < 1 ∨ 1000000000 < fSeq zs a ∨ 60000 < fSize zs a then 4 else if (zs.length : Int) - p3 zs a < fSize zs a then 5
    else if fCrc zs a ≠ (crcN (fHead zs a ++ fData zs a) : Int) then 6 else 0 := by
  unfold frC; rw [if_neg (by omega), if_neg (by rw [Int.toNat_natCast]; intro h1; rcases h1 with h1 | h1; omega; exact h1 h)]
theorem frC_3 {zs : List Int} {a : Nat} (h0 : a < zs.length) (h : zs.getD a 0 = 167) (h3 : fOk3 zs a = false) : frC zs (a : Int) = 3 := by rw [frC_in h0 h, if_pos h3]
theorem frC_4 {zs : List Int} {a : Nat} (h0 : a < zs.length) (h : zs.getD a 0 = 167) (h3 : fOk3 zs a = true) (h4 : fSeq zs a < 1 ∨ 1000000000 < fSeq zs a ∨ 60000 < fSize zs a) : frC zs (a : Int) = 4 := by
  rw [frC_in h0 h, if_neg (by rw [h3]; simp), if_pos h4]
theorem frC_5 {zs : List Int} {a : Nat} (h0 : a < zs.length) (h : zs.getD a 0 = 167) (h3 : fOk3 zs a = true) (h4 : 1 ≤ fSeq zs a ∧ fSeq zs a ≤ 1000000000 ∧ fSize zs a ≤ 60000) (h5 : (zs.length : Int) - p3 zs a < fSize zs a) : frC zs (a : Int) = 5 := by
  rw [frC_in h0 h, if_neg (by rw [h3]; simp), if_neg (by omega), if_pos h5]
theorem frC_6 {zs : List Int} {a : Nat} (h0 : a < zs.length) (h : zs.getD a 0 = 167) (h3 : fOk3 zs a = true) (h4 : 1 ≤ fSeq zs a ∧ fSeq zs a ≤ 1000000000 ∧ fSize zs a ≤ 60000) (h5 : fSize zs a ≤ (zs.length : Int) - p3 zs a)
    (h6 : fCrc zs a ≠ (crcN (fHead zs a ++ fData zs a) : Int)) : frC zs (a : Int) = 6 := by
  rw [frC_in h0 h, if_neg (by rw [h3]; simp), if_neg (by omega), if_neg (by omega), if_pos h6]
theorem frC_0 {zs : List Int} {a : Nat} (h0 : a < zs.length) (h : zs.getD a 0 = 167) (h3 : fOk3 zs a = true) (h4 : 1 ≤ fSeq zs a ∧ fSeq zs a ≤ 1000000000 ∧ fSize zs a ≤ 60000) (h5 : fSize zs a ≤ (zs.length : Int) - p3 zs a)
    (h6 : fCrc zs a = (crcN (fHead zs a ++ fData zs a) : Int)) : frC zs (a : Int) = 0 := by
  rw [frC_in h0 h, if_neg (by rw [h3]; simp), if_neg (by omega), if_neg (by omega), if_neg (by omega)]
theorem fr_bad {zs : List Int} {a : Int} (h : frC zs a ≠ 0) : frSeq zs a = 0 ∧ frData zs a = [] ∧ frNext zs a = 0 := by
  unfold frSeq frData frNext; rw [if_neg h, if_neg h, if_neg h]; exact ⟨rfl, rfl, rfl⟩
theorem fr_good {zs : List Int} {a : Int} (h : frC zs a = 0) : frSeq zs a = fSeq zs a ∧ frData zs a = fData zs a ∧ frNext zs a = p3 zs a + fSize zs a := by
  unfold frSeq frData frNext; rw [if_pos h, if_pos h, if_pos h]; exact ⟨rfl, rfl, rfl⟩

/-- where the three numbers lie -/
theorem fr_places {zs : List Int} {a : Nat} (h3 : fOk3 zs a = true) : (a : Int) + 1 < p1 zs a ∧ p1 zs a < p2 zs a ∧ p2 zs a < p3 zs a ∧ p3 zs a ≤ zs.length ∧ p3 zs a ≤ a + 16 ∧
    0 ≤ fSeq zs a ∧ fSeq zs a ≤ 4294967295 ∧ 0 ≤ fSize zs a ∧ fSize zs a ≤ 4294967295 ∧ 0 ≤ fCrc zs a ∧ fCrc zs a ≤ 4294967295 := by
  obtain ⟨o1, o2, o3⟩ := fOk3_yes h3
  have b1 := gv_pos o1
  have b2 := gv_pos o2
  have b3 := gv_pos o3
  have e1 : gvE zs ((a : Int) + 1) = p1 zs a := rfl
  have e2 : gvE zs (p1 zs a) = p2 zs a := rfl
  have e3 : gvE zs (p2 zs a) = p3 zs a := rfl
  have e4 : gvN zs ((a : Int) + 1) = fSeq zs a := rfl
  have e5 : gvN zs (p1 zs a) = fSize zs a := rfl
  have e6 : gvN zs (p2 zs a) = fCrc zs a := rfl
  rw [e1, e4] at b1
  rw [e2, e5] at b2
  rw [e3, e6] at b3
  omega

theorem cut2 {zs : List Int} {i j k : Nat} (h1 : i ≤ j) (h2 : j ≤ k) : (zs.drop i).take (k - i) = (zs.drop i).take (j - i) ++ (zs.drop j).take (k - j) := by
  have e : zs.drop j = (zs.drop i).drop (j - i) := by rw [List.drop_drop]; congr 1; omega
  rw [e, show k - i = (j - i) + (k - j) by omega, List.take_add]
/-- the bytes of a frame that was read: its head, its checksum, its data -/
theorem fr_bytes {zs : List Int} {a : Nat} (hg : ∀ z ∈ zs, 0 ≤ z ∧ z < 256) (h0 : a < zs.length) (h : zs.getD a 0 = 167) (h3 : fOk3 zs a = true) (h5 : fSize zs a ≤ (zs.length : Int) - p3 zs a) :
    (fData zs a).length = (fSize zs a).toNat ∧ fHead zs a = hd (fSeq zs a).toNat (fData zs a).length ∧
      (zs.drop a).take ((p3 zs a).toNat + (fSize zs a).toNat - a) = fHead zs a ++ vEnc (fCrc zs a).toNat ++ fData zs a := by
  obtain ⟨o1, o2, o3⟩ := fOk3_yes h3
  have hp := fr_places h3
  have el : (fData zs a).length = (fSize zs a).toNat := by unfold fData; rw [List.length_take, List.length_drop]; omega
  obtain ⟨P1, hP1⟩ := Int.eq_ofNat_of_zero_le (show 0 ≤ p1 zs a by omega)
  obtain ⟨P2, hP2⟩ := Int.eq_ofNat_of_zero_le (show 0 ≤ p2 zs a by omega)
  obtain ⟨P3, hP3⟩ := Int.eq_ofNat_of_zero_le (show 0 ≤ p3 zs a by omega)
  have g1 : vEnc (fSeq zs a).toNat = (zs.drop (a + 1)).take (P1 - (a + 1)) := by
    have := gv_enc (a := a + 1) hg (by exact_mod_cast o1)
    have e1 : gvN zs ((a + 1 : Nat) : Int) = fSeq zs a := by unfold fSeq; congr 1
    have e2 : gvE zs ((a + 1 : Nat) : Int) = p1 zs a := by unfold p1; congr 1
    rw [e1, e2, hP1] at this; exact this
  have g2 : vEnc (fSize zs a).toNat = (zs.drop P1).take (P2 - P1) := by
    have := gv_enc (a := P1) hg (by rw [← hP1]; exact o2)
    have e1 : gvN zs (P1 : Int) = fSize zs a := by unfold fSize; rw [hP1]
    have e2 : gvE zs (P1 : Int) = p2 zs a := by unfold p2; rw [hP1]
    rw [e1, e2, hP2] at this; exact this
  have g3 : vEnc (fCrc zs a).toNat = (zs.drop P2).take (P3 - P2) := by
    have := gv_enc (a := P2) hg (by rw [← hP2]; exact o3)
    have e1 : gvN zs (P2 : Int) = fCrc zs a := by unfold fCrc; rw [hP2]
    have e2 : gvE zs (P2 : Int) = p3 zs a := by unfold p3; rw [hP2]
    rw [e1, e2, hP3] at this; exact this
  have eh : fHead zs a = (zs.drop a).take (P2 - a) := by unfold fHead; rw [hP2, Int.toNat_natCast, Int.toNat_natCast]
  have ed : fData zs a = (zs.drop P3).take (P3 + (fSize zs a).toNat - P3) := by
    unfold fData; rw [hP3, Int.toNat_natCast, show P3 + (fSize zs a).toNat - P3 = (fSize zs a).toNat by omega]
  refine ⟨el, ?_, ?_⟩
  · rw [eh, el]
    unfold hd
    rw [g1, g2, ← cut2 (i := a + 1) (j := P1) (k := P2) (by omega) (by omega)]
    have e0 : zs.getD a 0 = zs[a] := by simp only [List.getD, List.getElem?_eq_getElem h0]; rfl
    rw [List.drop_eq_getElem_cons h0, ← e0, h, show P2 - a = (P2 - (a + 1)) + 1 by omega, List.take_succ_cons]
  · rw [eh, ed, g3, hP3, Int.toNat_natCast, List.append_assoc, ← cut2 (i := P2) (j := P3) (by omega) (by omega), ← cut2 (i := a) (j := P2) (by omega) (by omega)]
/-- writing again gives the very bytes just where the checksum is the right one -/
theorem fr_again {zs : List Int} {a : Nat} (hg : ∀ z ∈ zs, 0 ≤ z ∧ z < 256) (h0 : a < zs.length) (h : zs.getD a 0 = 167) (h3 : fOk3 zs a = true) (h5 : fSize zs a ≤ (zs.length : Int) - p3 zs a) :
    frB (fSeq zs a).toNat (fData zs a) = (zs.drop a).take ((p3 zs a).toNat + (fSize zs a).toNat - a) ↔ fCrc zs a = (crcN (fHead zs a ++ fData zs a) : Int) := by
  obtain ⟨e1, e2, e3⟩ := fr_bytes hg h0 h h3 h5
  have hp := fr_places h3
  rw [e3]
  unfold frB
  rw [← e2]
  constructor
  · intro e
    have := vEnc_inj (List.append_cancel_left (List.append_cancel_right e))
    omega
  · intro e
    rw [e, Int.toNat_natCast]
end Go.Proofs.YtmlodfceepokoaaDoor.Frame
