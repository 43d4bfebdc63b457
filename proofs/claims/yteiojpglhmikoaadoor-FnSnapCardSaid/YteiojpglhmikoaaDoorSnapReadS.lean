/- Contract of the reading of a snapshot, in the model: it writes the snapshot again and compares. -/
import Derived.Test.YteiojpglhmikoaaDoorSnapImpl
import Derived.Test.YteiojpglhmikoaaDoorPutCore
import Derived.Test.YteiojpglhmikoaaDoorVarPlain
import Derived.WalkSpells
import Derived.Laws.BitsAllLaws
import Derived.Test.YteiojpglhmikoaaDoorCrcCore
import Derived.Laws.BitsLemmas
import Derived.OneCell
import Derived.Test.YteiojpglhmikoaaDoorGetSpec
namespace Go.Proofs.YteiojpglhmikoaaDoor.Snap
open Go.RowKit Go.Proofs.YteiojpglhmikoaaDoor.Bytes Go.Proofs.YteiojpglhmikoaaDoor.Var Go.Proofs.YteiojpglhmikoaaDoor.Crc Go.Proofs.YteiojpglhmikoaaDoor.Frame
set_option linter.unusedVariables false

theorem rdS_drop {w : World} {B b o : Nat} {zs : List Int} (h : Rd w B (some ⟨b, o, none⟩) zs) (E : Nat) (hE : E ≤ zs.length) : Rd w B (some ⟨b, o + E, none⟩) (zs.drop E) := by
  intro hn
  rw [List.length_drop] at hn
  obtain ⟨b', o', e, hlt, hc⟩ := h (by omega)
  injection e with e
  injection e with e1 e2
  subst e1 e2
  refine ⟨_, _, rfl, hlt, fun k hk => ?_⟩
  rw [List.length_drop] at hk
  rw [Nat.add_assoc, hc (E + k) (by omega)]
  simp [List.getD]
theorem rngS_drop {zs : List Int} (h : Rng zs) (E : Nat) : Rng (zs.drop E) := fun z hz => h z (List.mem_of_mem_drop hz)
theorem rngS_take {zs : List Int} (h : Rng zs) (E : Nat) : Rng (zs.take E) := fun z hz => h z (List.mem_of_mem_take hz)
/-- where the numbers are right: all in natural numbers -/
structure SNums (zs : List Int) (P1 P2 P3 P4 G S Z C : Nat) : Prop where
  o0 : gvOk zs 4 = true
  o1 : gvOk zs (P1 : Int) = true
  o2 : gvOk zs (P2 : Int) = true
  o3 : gvOk zs (P3 : Int) = true
  e0 : gvE zs 4 = (P1 : Int)
  e1 : gvE zs (P1 : Int) = (P2 : Int)
  e2 : gvE zs (P2 : Int) = (P3 : Int)
  e3 : gvE zs (P3 : Int) = (P4 : Int)
  v0 : gvN zs 4 = (G : Int)
  v1 : gvN zs (P1 : Int) = (S : Int)
  v2 : gvN zs (P2 : Int) = (Z : Int)
  v3 : gvN zs (P3 : Int) = (C : Int)
theorem snums_of {zs : List Int} (h : ok4 zs = true) : ∃ P1 P2 P3 P4 G S Z C : Nat, SNums zs P1 P2 P3 P4 G S Z C ∧ 4 < P1 ∧ P1 < P2 ∧ P2 < P3 ∧ P3 < P4 ∧ P4 ≤ zs.length ∧ P4 ≤ 24 ∧ G ≤ 4294967295 ∧ S ≤ 4294967295 ∧ Z ≤ 4294967295 ∧ C ≤ 4294967295 ∧
    num zs 0 = (G : Int) ∧ num zs 1 = (S : Int) ∧ num zs 2 = (Z : Int) ∧ num zs 3 = (C : Int) ∧ pos zs 4 = (P4 : Int) ∧ pos zs 3 = (P3 : Int) ∧ sData zs = zs.drop P4 ∧ sHead zs = zs.take P3 := by
  obtain ⟨o0, o1, o2, o3⟩ := ok4_yes h
  have hp := sn_places h
  obtain ⟨P1, hP1⟩ := Int.eq_ofNat_of_zero_le (show 0 ≤ pos zs 1 by omega)
  obtain ⟨P2, hP2⟩ := Int.eq_ofNat_of_zero_le (show 0 ≤ pos zs 2 by omega)
  obtain ⟨P3, hP3⟩ := Int.eq_ofNat_of_zero_le (show 0 ≤ pos zs 3 by omega)
  obtain ⟨P4, hP4⟩ := Int.eq_ofNat_of_zero_le (show 0 ≤ pos zs 4 by omega)
  obtain ⟨G, hG⟩ := Int.eq_ofNat_of_zero_le (show 0 ≤ num zs 0 by omega)
  obtain ⟨S, hS⟩ := Int.eq_ofNat_of_zero_le (show 0 ≤ num zs 1 by omega)
  obtain ⟨Z, hZ⟩ := Int.eq_ofNat_of_zero_le (show 0 ≤ num zs 2 by omega)
  obtain ⟨C, hC⟩ := Int.eq_ofNat_of_zero_le (show 0 ≤ num zs 3 by omega)
  refine ⟨P1, P2, P3, P4, G, S, Z, C, ⟨o0, hP1 ▸ o1, hP2 ▸ o2, hP3 ▸ o3, hP1, ?_, ?_, ?_, hG, ?_, ?_, ?_⟩, by omega, by omega, by omega, by omega, by omega, by omega, by omega, by omega, by omega, by omega, hG, hS, hZ, hC, hP4, hP3, ?_, ?_⟩
  · rw [← hP1]; exact hP2
  · rw [← hP2]; exact hP3
  · rw [← hP3]; exact hP4
  · rw [← hP1]; exact hS
  · rw [← hP2]; exact hZ
  · rw [← hP3]; exact hC
  · unfold sData; rw [hP4, Int.toNat_natCast]
  · unfold sHead; rw [hP3, Int.toNat_natCast]

end Go.Proofs.YteiojpglhmikoaaDoor.Snap

