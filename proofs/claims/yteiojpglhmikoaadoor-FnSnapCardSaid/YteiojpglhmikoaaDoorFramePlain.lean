/- Plain facts on a journal's frame, as a list of bytes: how it is written, how it is read, and that reading by writing again and reading by the checksum alone are the same; no program is named. -/
import Derived.Test.YteiojpglhmikoaaDoorGetPlain
import Derived.Test.YteiojpglhmikoaaDoorCrcCore
namespace Go.Proofs.YteiojpglhmikoaaDoor.Frame
open Go.Proofs.YteiojpglhmikoaaDoor.Var Go.Proofs.YteiojpglhmikoaaDoor.Crc

/-! ### a frame, written -/
def hd (s n : Nat) : List Int := 167 :: (vEnc s ++ vEnc n)
def crcN (l : List Int) : Nat := 4294967295 - cf l
theorem crcN_le (l : List Int) : crcN l ≤ 4294967295 := by unfold crcN; omega
/-! ### a number that was read is written with the very bytes -/
theorem gv_parts {zs : List Int} {a : Nat} (h : gvOk zs (a : Int) = true) :
    a + gvk zs a < zs.length ∧ gvk zs a < 5 ∧ gvv zs a (gvk zs a + 1) ≤ 4294967295 ∧ ¬ (0 < gvk zs a ∧ zs.getD (a + gvk zs a) 0 = 0) ∧
      gvN zs (a : Int) = (gvv zs a (gvk zs a + 1) : Int) ∧ gvE zs (a : Int) = ((a + gvk zs a + 1 : Nat) : Int) := by
  have h0 := h
  unfold gvOk at h0
  rw [Int.toNat_natCast] at h0
  obtain ⟨h1, h2, h3, h4, h5, h6⟩ := of_decide_eq_true h0
  obtain ⟨_, e2, e3⟩ := gv_yes (by omega) h3 h4 h5 h6
  exact ⟨h4, h3, h6, h5, e2, by rw [e3]; omega⟩
theorem gv_pos {zs : List Int} {a : Int} (h : gvOk zs a = true) : 0 ≤ gvN zs a ∧ gvN zs a ≤ 4294967295 ∧ a < gvE zs a ∧ gvE zs a ≤ zs.length ∧ 0 ≤ a ∧ gvE zs a ≤ a + 5 := by
  have h0 := h
  unfold gvOk at h0
  obtain ⟨b1, _⟩ := of_decide_eq_true h0
  obtain ⟨k, rfl⟩ := Int.eq_ofNat_of_zero_le b1
  obtain ⟨h1, h2, h3, h4, h5, h6⟩ := gv_parts h
  rw [h5, h6]; omega

/-! ### a frame, read -/
def p1 (zs : List Int) (a : Int) : Int := gvE zs (a + 1)
def p2 (zs : List Int) (a : Int) : Int := gvE zs (p1 zs a)
end Go.Proofs.YteiojpglhmikoaaDoor.Frame

