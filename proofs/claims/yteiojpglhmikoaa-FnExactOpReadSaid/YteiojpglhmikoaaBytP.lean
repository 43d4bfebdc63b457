/- The bytes of a string as integers; no program is named. -/
import GoSem.Claim
namespace Go.Proofs.Yteiojpglhmikoaa.Var
def byt (s : ByteArray) : List Int := s.data.toList.map fun b => (b.toNat : Int)
theorem byt_len (s : ByteArray) : (byt s).length = s.size := by simp [byt]
theorem byt_rng (s : ByteArray) : ∀ z ∈ byt s, 0 ≤ z ∧ z < 256 := by
  intro z hz
  unfold byt at hz
  obtain ⟨b, _, rfl⟩ := List.mem_map.1 hz
  have := b.toNat_lt
  omega

end Go.Proofs.Yteiojpglhmikoaa.Var

