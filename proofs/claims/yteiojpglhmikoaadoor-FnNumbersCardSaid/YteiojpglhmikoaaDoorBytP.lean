/- The bytes of a string as integers; no program is named. -/
import GoSem.Claim
namespace Go.Proofs.YteiojpglhmikoaaDoor.Var
def byt (s : ByteArray) : List Int := s.data.toList.map fun b => (b.toNat : Int)
end Go.Proofs.YteiojpglhmikoaaDoor.Var

