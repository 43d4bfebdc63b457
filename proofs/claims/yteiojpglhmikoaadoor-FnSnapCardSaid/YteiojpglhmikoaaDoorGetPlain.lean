/- Plain facts on reading a base-128 number out of a list of bytes; no program is named. -/
import Derived.Test.YteiojpglhmikoaaDoorVarPlain
namespace Go.Proofs.YteiojpglhmikoaaDoor.Var

/-- how many bytes at the head go on (128 or more) -/
def cnt : List Int → Nat
  | [] => 0
  | z :: l => if 128 ≤ z then cnt l + 1 else 0
theorem cnt_le (l : List Int) : cnt l ≤ l.length := by
  induction l with
  | nil => simp [cnt]
  | cons z l ih => rw [cnt]; split <;> simp; omega
theorem cnt_big (l : List Int) : ∀ j, j < cnt l → 128 ≤ l.getD j 0 := by
  induction l with
  | nil => intro j h; simp [cnt] at h
  | cons z l ih =>
    intro j h
    rw [cnt] at h
    split at h
    · cases j with
      | zero => simpa
      | succ j => simpa using ih j (by omega)
    · omega
theorem cnt_end (l : List Int) : cnt l < l.length → l.getD (cnt l) 0 < 128 := by
  induction l with
  | nil => intro h; simp [cnt] at h
  | cons z l ih =>
    intro h
    rw [cnt] at h ⊢
    split at h
    · rename_i hz
      rw [if_pos hz]
      simpa using ih (by simpa using h)
    · rename_i hz
      rw [if_neg hz]
      simp; omega

/-- what GetVar answers at offset a of zs -/
def gvk (zs : List Int) (a : Nat) : Nat := cnt (zs.drop a)
def gvv (zs : List Int) (a k : Nat) : Nat := val ((zs.drop a).take k)
def gvOk (zs : List Int) (at_ : Int) : Bool :=
  decide (0 ≤ at_ ∧ at_ < zs.length ∧ gvk zs at_.toNat < 5 ∧ at_.toNat + gvk zs at_.toNat < zs.length ∧
    ¬ (0 < gvk zs at_.toNat ∧ zs.getD (at_.toNat + gvk zs at_.toNat) 0 = 0) ∧ gvv zs at_.toNat (gvk zs at_.toNat + 1) ≤ 4294967295)
def gvN (zs : List Int) (at_ : Int) : Int := if gvOk zs at_ = true then (gvv zs at_.toNat (gvk zs at_.toNat + 1) : Int) else 0
def gvE (zs : List Int) (at_ : Int) : Int := if gvOk zs at_ = true then at_ + (gvk zs at_.toNat : Int) + 1 else 0

theorem getD_drop (zs : List Int) (a j : Nat) : (zs.drop a).getD j 0 = zs.getD (a + j) 0 := by simp [List.getD]
theorem gvk_le (zs : List Int) (a : Nat) (h : a ≤ zs.length) : a + gvk zs a ≤ zs.length := by
  have := cnt_le (zs.drop a)
  rw [List.length_drop] at this
  unfold gvk; omega
theorem gvk_big (zs : List Int) (a j : Nat) (h : j < gvk zs a) : 128 ≤ zs.getD (a + j) 0 := by
  rw [← getD_drop]; exact cnt_big _ j h
theorem gvk_end (zs : List Int) (a : Nat) (h : a + gvk zs a < zs.length) : zs.getD (a + gvk zs a) 0 < 128 := by
  rw [← getD_drop]; exact cnt_end _ (by rw [List.length_drop]; unfold gvk at h; omega)
theorem gvv_zero (zs : List Int) (a : Nat) : gvv zs a 0 = 0 := by simp [gvv, val]
theorem gvv_succ (zs : List Int) (a k : Nat) (h : a + k < zs.length) : gvv zs a (k + 1) = gvv zs a k + (zs.getD (a + k) 0 % 128).toNat * 128 ^ k := by
  unfold gvv
  have hk : k < (zs.drop a).length := by rw [List.length_drop]; omega
  have e : zs.getD (a + k) 0 = (zs.drop a)[k] := by rw [← getD_drop]; simp only [List.getD, List.getElem?_eq_getElem hk]; rfl
  rw [List.take_succ_eq_append_getElem hk, val_snoc, e, List.length_take, Nat.min_eq_left (by omega)]
theorem gvv_lt (zs : List Int) (a k : Nat) (h : a + k ≤ zs.length) : gvv zs a k < 128 ^ k := by
  have := val_lt ((zs.drop a).take k)
  rw [List.length_take, List.length_drop, Nat.min_eq_left (by omega)] at this
  exact this
theorem gv_no {zs : List Int} {at_ : Int} (h : gvOk zs at_ = false) : gvN zs at_ = 0 ∧ gvE zs at_ = 0 := by simp [gvN, gvE, h]
theorem gv_yes {zs : List Int} {a : Nat} (h0 : a < zs.length) (h1 : gvk zs a < 5) (h2 : a + gvk zs a < zs.length) (h3 : ¬ (0 < gvk zs a ∧ zs.getD (a + gvk zs a) 0 = 0)) (h4 : gvv zs a (gvk zs a + 1) ≤ 4294967295) :
    gvOk zs (a : Int) = true ∧ gvN zs (a : Int) = (gvv zs a (gvk zs a + 1) : Int) ∧ gvE zs (a : Int) = (a : Int) + (gvk zs a : Int) + 1 := by
  have e : gvOk zs (a : Int) = true := by
    unfold gvOk; rw [Int.toNat_natCast]; exact decide_eq_true ⟨by omega, by omega, h1, h2, h3, h4⟩
  refine ⟨e, ?_, ?_⟩
  · unfold gvN; rw [if_pos e, Int.toNat_natCast]
  · unfold gvE; rw [if_pos e, Int.toNat_natCast]
theorem gv_false {zs : List Int} {a : Nat} (h : ¬ (gvk zs a < 5 ∧ a + gvk zs a < zs.length ∧ ¬ (0 < gvk zs a ∧ zs.getD (a + gvk zs a) 0 = 0) ∧ gvv zs a (gvk zs a + 1) ≤ 4294967295)) :
    gvOk zs (a : Int) = false := by
  unfold gvOk; rw [Int.toNat_natCast]; exact decide_eq_false fun ⟨_, _, h1, h2, h3, h4⟩ => h ⟨h1, h2, h3, h4⟩
theorem gv_out {zs : List Int} {at_ : Int} (h : at_ < 0 ∨ (zs.length : Int) ≤ at_) : gvOk zs at_ = false := by
  unfold gvOk; exact decide_eq_false fun ⟨h1, h2, _⟩ => by omega

def seg (zs : List Int) (a K : Nat) : List Int := (zs.drop a).take (K + 1)
theorem seg_snoc (zs : List Int) (a K : Nat) (h : a + K < zs.length) : seg zs a K = (zs.drop a).take K ++ [zs.getD (a + K) 0] := by
  have hk : K < (zs.drop a).length := by rw [List.length_drop]; omega
  have e : zs.getD (a + K) 0 = (zs.drop a)[K] := by rw [← getD_drop]; simp only [List.getD, List.getElem?_eq_getElem hk]; rfl
  unfold seg; rw [List.take_succ_eq_append_getElem hk, e]
/-- the digits of V are these very bytes just where the last one is not an idle zero -/
theorem seg_enc (zs : List Int) (a K : Nat) (hg : ∀ z ∈ zs, 0 ≤ z ∧ z < 256) (h : a + K < zs.length) (hbig : ∀ j, j < K → 128 ≤ zs.getD (a + j) 0) (hend : zs.getD (a + K) 0 < 128) :
    vEnc (gvv zs a (K + 1)) = seg zs a K ↔ ¬ (0 < K ∧ zs.getD (a + K) 0 = 0) := by
  have hl : ((zs.drop a).take K).length = K := by rw [List.length_take, List.length_drop]; omega
  have hsg : Seg ((zs.drop a).take K) (zs.getD (a + K) 0) := by
    refine ⟨fun z hz => ?_, ?_, hend⟩
    · obtain ⟨i, hi, rfl⟩ := List.mem_iff_getElem.1 hz
      have hi' : i < K := by omega
      have h1 := hbig i hi'
      have e : zs.getD (a + i) 0 = ((zs.drop a).take K)[i] := by
        have : a + i < zs.length := by omega
        simp [List.getD, this]
      rw [e] at h1
      exact ⟨h1, (hg _ (List.mem_of_mem_drop (List.mem_of_mem_take hz))).2⟩
    · have e : zs.getD (a + K) 0 = zs[a + K] := by simp only [List.getD, List.getElem?_eq_getElem h]; rfl
      rw [e]; exact (hg _ (List.getElem_mem h)).1
  have he := enc_val _ _ hsg
  rw [← seg_snoc zs a K h] at he
  have e2 : val (seg zs a K) = gvv zs a (K + 1) := rfl
  rw [e2] at he
  rw [he]
  constructor
  · intro h1 h2
    rcases h1 with h1 | h1
    · rw [h1] at hl; simp at hl; omega
    · exact h1 h2.2
  · intro h1
    by_cases hK : K = 0
    · subst hK; exact .inl (by simp)
    · exact .inr fun h2 => h1 ⟨by omega, h2⟩
end Go.Proofs.YteiojpglhmikoaaDoor.Var

