/- Plain facts on a journal's frame, as a list of bytes: how it is written, how it is read, and that reading by writing again and reading by the checksum alone are the same; no program is named. -/
import Derived.Test.YteiojpglhmikoaaGetPlain
import Derived.Test.YteiojpglhmikoaaCrcCore
namespace Go.Proofs.Yteiojpglhmikoaa.Frame
open Go.Proofs.Yteiojpglhmikoaa.Var Go.Proofs.Yteiojpglhmikoaa.Crc

/-! ### a frame, written -/
def hd (s n : Nat) : List Int := 167 :: (vEnc s ++ vEnc n)
def crcN (l : List Int) : Nat := 4294967295 - cf l
theorem crcN_le (l : List Int) : crcN l ≤ 4294967295 := by unfold crcN; omega
def frB (s : Nat) (ds : List Int) : List Int := hd s ds.length ++ vEnc (crcN (hd s ds.length ++ ds)) ++ ds
def frK (s : Int) (n : Nat) : Bool := decide (1 ≤ s ∧ s ≤ 1000000000 ∧ n ≤ 60000)
def frO (s : Int) (ds : List Int) : List Int := if frK s ds.length = true then frB s.toNat ds else []
theorem frK_yes {s : Int} {n : Nat} (h1 : 1 ≤ s) (h2 : s ≤ 1000000000) (h3 : n ≤ 60000) : frK s n = true := decide_eq_true ⟨h1, h2, h3⟩
theorem frK_no {s : Int} {n : Nat} (h : s < 1 ∨ 1000000000 < s ∨ 60000 < n) : frK s n = false := decide_eq_false fun ⟨h1, h2, h3⟩ => by omega
theorem of_frK {s : Int} {n : Nat} (h : frK s n = true) : 1 ≤ s ∧ s ≤ 1000000000 ∧ n ≤ 60000 := of_decide_eq_true h
theorem frO_yes {s : Int} {ds : List Int} (h : frK s ds.length = true) : frO s ds = frB s.toNat ds := if_pos h
theorem frO_no {s : Int} {ds : List Int} (h : frK s ds.length = false) : frO s ds = [] := if_neg (by rw [h]; simp)
theorem hd_len {s n : Nat} (hs : s ≤ 1000000000) (hn : n ≤ 60000) : (hd s n).length ≤ 11 := by
  have h1 := vEnc_len5 (n := s) (by omega)
  have h2 := vEnc_len5 (n := n) (by omega)
  simp [hd]; omega
theorem hd_rng (s n : Nat) : ∀ z ∈ hd s n, 0 ≤ z ∧ z < 256 := by
  intro z hz
  unfold hd at hz
  rcases List.mem_cons.1 hz with e | e
  · omega
  · rcases List.mem_append.1 e with e | e
    · exact vEnc_rng (s + 1) s (by omega) z e
    · exact vEnc_rng (n + 1) n (by omega) z e
theorem frB_len {s : Nat} {ds : List Int} (hs : s ≤ 1000000000) (hn : ds.length ≤ 60000) : (frB s ds).length ≤ ds.length + 16 := by
  have h1 := hd_len hs hn
  have h2 := vEnc_len5 (crcN_le (hd s ds.length ++ ds))
  unfold frB; rw [List.length_append, List.length_append]; omega
theorem frO_len (s : Int) (ds : List Int) : (frO s ds).length ≤ 60016 := by
  unfold frO; split
  · rename_i h
    obtain ⟨h1, h2, h3⟩ := of_frK h
    have := frB_len (s := s.toNat) (ds := ds) (by omega) h3
    omega
  · simp
theorem frO_len' (s : Int) (ds : List Int) : (frO s ds).length ≤ ds.length + 16 := by
  unfold frO; split
  · rename_i h
    obtain ⟨h1, h2, h3⟩ := of_frK h
    exact frB_len (s := s.toNat) (ds := ds) (by omega) h3
  · simp
theorem frB_rng (s : Nat) (ds : List Int) (h : ∀ z ∈ ds, 0 ≤ z ∧ z < 256) : ∀ z ∈ frB s ds, 0 ≤ z ∧ z < 256 := by
  intro z hz
  unfold frB at hz
  rcases List.mem_append.1 hz with e | e
  · rcases List.mem_append.1 e with e | e
    · exact hd_rng _ _ z e
    · exact vEnc_rng _ _ (Nat.lt_succ_self _) z e
  · exact h z e
theorem frO_rng (s : Int) (ds : List Int) (h : ∀ z ∈ ds, 0 ≤ z ∧ z < 256) : ∀ z ∈ frO s ds, 0 ≤ z ∧ z < 256 := by
  unfold frO; split
  · exact frB_rng _ _ h
  · intro z hz; simp at hz
/-! ### a number that was read is written with the very bytes -/
theorem gv_parts {zs : List Int} {a : Nat} (h : gvOk zs (a : Int) = true) :
    a + gvk zs a < zs.length ∧ gvk zs a < 5 ∧ gvv zs a (gvk zs a + 1) ≤ 4294967295 ∧ ¬ (0 < gvk zs a ∧ zs.getD (a + gvk zs a) 0 = 0) ∧
      gvN zs (a : Int) = (gvv zs a (gvk zs a + 1) : Int) ∧ gvE zs (a : Int) = ((a + gvk zs a + 1 : Nat) : Int) := by
  have h0 := h
  unfold gvOk at h0
  rw [Int.toNat_natCast] at h0
  obtain ⟨h1, h2, h3, h4, h5, h6⟩ := of_decide_eq_true h0
  obtain ⟨_, e2, e3⟩ := gv_yes (by omega) h3 h4 h5 h6
  exact ⟨h4, h3, h6, h5, e2, by rw [e3]; omega⟩
theorem gv_pos {zs : List Int} {a : Int} (h : gvOk zs a = true) : 0 ≤ gvN zs a ∧ gvN zs a ≤ 4294967295 ∧ a < gvE zs a ∧ gvE zs a ≤ zs.length ∧ 0 ≤ a ∧ gvE zs a ≤ a + 5 := by
  have h0 := h
  unfold gvOk at h0
  obtain ⟨b1, _⟩ := of_decide_eq_true h0
  obtain ⟨k, rfl⟩ := Int.eq_ofNat_of_zero_le b1
  obtain ⟨h1, h2, h3, h4, h5, h6⟩ := gv_parts h
  rw [h5, h6]; omega

/-! ### a frame, read -/
def p1 (zs : List Int) (a : Int) : Int := gvE zs (a + 1)
def p2 (zs : List Int) (a : Int) : Int := gvE zs (p1 zs a)
def p3 (zs : List Int) (a : Int) : Int := gvE zs (p2 zs a)
def fSeq (zs : List Int) (a : Int) : Int := gvN zs (a + 1)
def fSize (zs : List Int) (a : Int) : Int := gvN zs (p1 zs a)
def fCrc (zs : List Int) (a : Int) : Int := gvN zs (p2 zs a)
def fData (zs : List Int) (a : Int) : List Int := (zs.drop (p3 zs a).toNat).take (fSize zs a).toNat
def fOk3 (zs : List Int) (a : Int) : Bool := gvOk zs (a + 1) && gvOk zs (p1 zs a) && gvOk zs (p2 zs a)
def fHead (zs : List Int) (a : Int) : List Int := (zs.drop a.toNat).take ((p2 zs a).toNat - a.toNat)
def frC (zs : List Int) (a : Int) : Nat :=
  if a < 0 ∨ (zs.length : Int) < a then 1
  else if a = zs.length ∨ zs.getD a.toNat 0 ≠ 167 then 2
  else if fOk3 zs a = false then 3
  else if fSeq zs a < 1 ∨ 1000000000 < fSeq zs a ∨ 60000 < fSize zs a then 4
  else if (zs.length : Int) - p3 zs a < fSize zs a then 5
  else if fCrc zs a ≠ (crcN (fHead zs a ++ fData zs a) : Int) then 6
  else 0
def frSeq (zs : List Int) (a : Int) : Int := if frC zs a = 0 then fSeq zs a else 0
def frData (zs : List Int) (a : Int) : List Int := if frC zs a = 0 then fData zs a else []
def frNext (zs : List Int) (a : Int) : Int := if frC zs a = 0 then p3 zs a + fSize zs a else 0

theorem fOk3_yes {zs : List Int} {a : Int} (h : fOk3 zs a = true) : gvOk zs (a + 1) = true ∧ gvOk zs (p1 zs a) = true ∧ gvOk zs (p2 zs a) = true := by
  unfold fOk3 at h; simpa [and_assoc] using h
theorem frC_1 {zs : List Int} {a : Int} (h : a < 0 ∨ (zs.length : Int) < a) : frC zs a = 1 := by unfold frC; rw [if_pos h]
theorem frC_2 {zs : List Int} {a : Nat} (h0 : a ≤ zs.length) (h : a = zs.length ∨ zs.getD a 0 ≠ 167) : frC zs (a : Int) = 2 := by
  unfold frC; rw [if_neg (by omega), if_pos (by rw [Int.toNat_natCast]; rcases h with h | h; exact .inl (by omega); exact .inr h)]
theorem frC_in {zs : List Int} {a : Nat} (h0 : a < zs.length) (h : zs.getD a 0 = 167) : frC zs (a : Int) =
    if fOk3 zs a = false then 3 else if fSeq zs a < 1 ∨ 1000000000 < fSeq zs a ∨ 60000 < fSize zs a then 4 else if (zs.length : Int) - p3 zs a < fSize zs a then 5
    else if fCrc zs a ≠ (crcN (fHead zs a ++ fData zs a) : Int) then 6 else 0 := by
  unfold frC; rw [if_neg (by omega), if_neg (by rw [Int.toNat_natCast]; intro h1; rcases h1 with h1 | h1; omega; exact h1 h)]
theorem frC_3 {zs : List Int} {a : Nat} (h0 : a < zs.length) (h : zs.getD a 0 = 167) (h3 : fOk3 zs a = false) : frC zs (a : Int) = 3 := by rw [frC_in h0 h, if_pos h3]
theorem frC_4 {zs : List Int} {a : Nat} (h0 : a < zs.length) (h : zs.getD a 0 = 167) (h3 : fOk3 zs a = true) (h4 : fSeq zs a < 1 ∨ 1000000000 < fSeq zs a ∨ 60000 < fSize zs a) : frC zs (a : Int) = 4 := by
  rw [frC_in h0 h, if_neg (by rw [h3]; simp), if_pos h4]
theorem frC_5 {zs : List Int} {a : Nat} (h0 : a < zs.length) (h : zs.getD a 0 = 167) (h3 : fOk3 zs a = true) (h4 : 1 ≤ fSeq zs a ∧ fSeq zs a ≤ 1000000000 ∧ fSize zs a ≤ 60000) (h5 : (zs.length : Int) - p3 zs a < fSize zs a) : frC zs (a : Int) = 5 := by
  rw [frC_in h0 h, if_neg (by rw [h3]; simp), if_neg (by omega), if_pos h5]
theorem frC_6 {zs : List Int} {a : Nat} (h0 : a < zs.length) (h : zs.getD a 0 = 167) (h3 : fOk3 zs a = true) (h4 : 1 ≤ fSeq zs a ∧ fSeq zs a ≤ 1000000000 ∧ fSize zs a ≤ 60000) (h5 : fSize zs a ≤ (zs.length : Int) - p3 zs a)
    (h6 : fCrc zs a ≠ (crcN (fHead zs a ++ fData zs a) : Int)) : frC zs (a : Int) = 6 := by
  rw [frC_in h0 h, if_neg (by rw [h3]; simp), if_neg (by omega), if_neg (by omega), if_pos h6]
theorem frC_0 {zs : List Int} {a : Nat} (h0 : a < zs.length) (h : zs.getD a 0 = 167) (h3 : fOk3 zs a = true) (h4 : 1 ≤ fSeq zs a ∧ fSeq zs a ≤ 1000000000 ∧ fSize zs a ≤ 60000) (h5 : fSize zs a ≤ (zs.length : Int) - p3 zs a)
    (h6 : fCrc zs a = (crcN (fHead zs a ++ fData zs a) : Int)) : frC zs (a : Int) = 0 := by
  rw [frC_in h0 h, if_neg (by rw [h3]; simp), if_neg (by omega), if_neg (by omega), if_neg (by omega)]
theorem fr_bad {zs : List Int} {a : Int} (h : frC zs a ≠ 0) : frSeq zs a = 0 ∧ frData zs a = [] ∧ frNext zs a = 0 := by
  unfold frSeq frData frNext; rw [if_neg h, if_neg h, if_neg h]; exact ⟨rfl, rfl, rfl⟩
theorem fr_good {zs : List Int} {a : Int} (h : frC zs a = 0) : frSeq zs a = fSeq zs a ∧ frData zs a = fData zs a ∧ frNext zs a = p3 zs a + fSize zs a := by
  unfold frSeq frData frNext; rw [if_pos h, if_pos h, if_pos h]; exact ⟨rfl, rfl, rfl⟩

/-- where the three numbers lie -/
theorem fr_places {zs : List Int} {a : Nat} (h3 : fOk3 zs a = true) : (a : Int) + 1 < p1 zs a ∧ p1 zs a < p2 zs a ∧ p2 zs a < p3 zs a ∧ p3 zs a ≤ zs.length ∧ p3 zs a ≤ a + 16 ∧
    0 ≤ fSeq zs a ∧ fSeq zs a ≤ 4294967295 ∧ 0 ≤ fSize zs a ∧ fSize zs a ≤ 4294967295 ∧ 0 ≤ fCrc zs a ∧ fCrc zs a ≤ 4294967295 := by
  obtain ⟨o1, o2, o3⟩ := fOk3_yes h3
  have b1 := gv_pos o1
  have b2 := gv_pos o2
  have b3 := gv_pos o3
  have e1 : gvE zs ((a : Int) + 1) = p1 zs a := rfl
  have e2 : gvE zs (p1 zs a) = p2 zs a := rfl
  have e3 : gvE zs (p2 zs a) = p3 zs a := rfl
  have e4 : gvN zs ((a : Int) + 1) = fSeq zs a := rfl
  have e5 : gvN zs (p1 zs a) = fSize zs a := rfl
  have e6 : gvN zs (p2 zs a) = fCrc zs a := rfl
  rw [e1, e4] at b1
  rw [e2, e5] at b2
  rw [e3, e6] at b3
  omega

end Go.Proofs.Yteiojpglhmikoaa.Frame

