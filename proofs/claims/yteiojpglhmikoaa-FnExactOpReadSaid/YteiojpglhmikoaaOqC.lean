/- A slice of bytes converted into a string, at any reading; what an operation's encoding answers. -/
import Derived.Test.YteiojpglhmikoaaOqP
import Derived.Test.YteiojpglhmikoaaOqK
import Derived.Test.YteiojpglhmikoaaOqIn
import Derived.Test.YteiojpglhmikoaaMadeC
import Derived.Test.YteiojpglhmikoaaGetTextImpl
namespace Go.Proofs.Yteiojpglhmikoaa.Oq
open Go.RowKit Go.Proofs.Yteiojpglhmikoaa.Bytes Go.Proofs.Yteiojpglhmikoaa.Opq Go.Proofs.Yteiojpglhmikoaa.Var Go.Proofs.Yteiojpglhmikoaa.Made
set_option linter.unusedVariables false
set_option linter.unusedSimpArgs false
theorem byt_str {zs : List Int} (h : Rng zs) : byt (strOfNums zs) = zs := by
  unfold byt strOfNums
  simp only [List.map_map]
  induction zs with
  | nil => rfl
  | cons z l ih =>
    have h0 := h z (by simp)
    have h1 := ih (fun x hx => h x (by simp [hx]))
    rw [List.map_cons, h1]
    congr 1
    show ((UInt8.ofNat z.toNat).toNat : Int) = z
    have : (UInt8.ofNat z.toNat).toNat = z.toNat := by
      simp; omega
    rw [this]; omega
theorem str_size (zs : List Int) : (strOfNums zs).size = zs.length := by
  unfold strOfNums; show (List.map _ zs).toArray.size = _; simp
set_option maxRecDepth 100000 in
theorem conv_str (W : World) (A : Option Addr) (n c : Nat) (zs : List Int) (B : Nat) (hr : Rd W B A zs) (hl : zs.length = n) (hA : A = none → n = 0 ∧ c = 0) :
    (convert 22 9 (.slice A n c)).run Try.prog W = .ok (.string (strOfNums zs)) W := by
  rcases A with _ | ad
  · obtain ⟨rfl, rfl⟩ := hA rfl
    obtain rfl := List.length_eq_zero_iff.1 hl
    exact nil_run W
  · by_cases h0 : n = 0
    · subst h0
      obtain rfl := List.length_eq_zero_iff.1 hl
      exact zero_run W ad c
    · obtain ⟨b, o, e, hB, hcs⟩ := hr (by omega)
      injection e with e
      subst e
      exact run_convert_bytes_arg W 22 5 Try.underlying22 Try.underlying5 b o n c zs hl (fun i hi => hcs i (by omega)) 9 Try.underlying9
/-- what OpBytes answers -/
def obO (ok : Bool) (k a b d : Int) (nm tx dr : ByteArray) (zs : List Int) : List Int := if ok = true then opE k a b d nm tx dr zs else []
theorem obO_yes (k a b d : Int) (nm tx dr : ByteArray) (zs : List Int) : obO true k a b d nm tx dr zs = opE k a b d nm tx dr zs := rfl
abbrev opOK (k a b d : Int) (nm tx dr : ByteArray) (n : Nat) : Bool := okS k a b d (madeB wb 12 nm.data.toList) nm.toList.isEmpty tx.toList.isEmpty dr.toList.isEmpty tx.size dr.size n
theorem emptySize (s : ByteArray) (h : s.toList.isEmpty = true) : s.size = 0 := by
  have h1 : s.toList = [] := by simpa using h
  have h2 : s.toList.length = s.size := by rw [ByteArray.toList_eq]; simp
  rw [h1] at h2; simpa using h2.symm
theorem opOK_bd {k a b d : Int} {nm tx dr : ByteArray} {n : Nat} (h : opOK k a b d nm tx dr n = true) : (0 ≤ k ∧ k ≤ 14) ∧ (0 ≤ a ∧ a ≤ 1000000) ∧ (0 ≤ b ∧ b ≤ 1000000) ∧ (0 ≤ d ∧ d ≤ 1000000) ∧ nm.size ≤ 12 ∧ tx.size ≤ 60 ∧ dr.size ≤ 60 ∧ n ≤ 2000 := by
  obtain ⟨h1, h2, h3, h4, h5, h6, h7, h8⟩ := ok_bd h
  refine ⟨⟨by omega, h1.2⟩, h2, h3, h4, ?_, h5, h6, h7⟩
  rcases h8 with h | h
  · unfold madeB at h
    simp only [Bool.and_eq_true, decide_eq_true_eq] at h
    have e : nm.data.toList.length = nm.size := by simp
    omega
  · have := emptySize nm h; omega
theorem obO_len (k a b d : Int) (nm tx dr : ByteArray) (zs : List Int) : (obO (opOK k a b d nm tx dr zs.length) k a b d nm tx dr zs).length ≤ 17000 := by
  cases h : opOK k a b d nm tx dr zs.length
  · simp [obO]
  · obtain ⟨h1, h2, h3, h4, h5, h6, h7, h8⟩ := opOK_bd h
    rw [obO_yes]
    exact opE_len (by omega) (by omega) (by omega) (by omega) (by omega) (by omega) (by omega) (by omega)
end Go.Proofs.Yteiojpglhmikoaa.Oq

