/- Beside in the model, all its ways. -/
import Derived.Test.YtkinkdgnephcbaaTrBkN
import Derived.Test.YtkinkdgnephcbaaTrBkO
import Derived.Test.YtkinkdgnephcbaaTrBk76
import Derived.Test.YtkinkdgnephcbaaTrBk82
import Derived.Test.YtkinkdgnephcbaaTrBk85
import Derived.Test.YtkinkdgnephcbaaTrBk68
namespace Go.Proofs.Ytkinkdgnephcbaa.Tr
open Go.RowKit Go.Proofs.Ytkinkdgnephcbaa.Bytes Go.Proofs.Ytkinkdgnephcbaa.Rows_ Go.Proofs.Ytkinkdgnephcbaa.RowK Go.Proofs.Ytkinkdgnephcbaa.DOk Go.Proofs.Ytkinkdgnephcbaa.Opq
open Tree
set_option linter.unusedVariables false
theorem spec_Beside_any (A : Option Addr) (n c B : Nat) (t : List NodeD) (p s a b : Int) (w : World) (hi : InN w B A n c t) :
    Calls Try.prog 44 #[.slice A n c, .int .i64 p, .int .i64 s, .int .i64 a, .int .i64 b] w fun e w' => e = .returned (.int .i64 (besD (listD t a b) p s)) ∧ Below w.heap.size w w' := by
  rcases hp : pofD (listD t a b) p with _ | ⟨q0, q1, q2, q3, q4⟩
  · exact spec_Beside_none A n c B t p s a b w hi (fun r h => by rw [hp] at h; cases h)
  · have hrb := (pof_rb hp)
    by_cases h1 : s = 76
    · subst h1; exact spec_Beside_76 A n c B t p a b w hi q0 q1 q2 q3 q4 hp hrb
    · by_cases h2 : s = 82
      · subst h2; exact spec_Beside_82 A n c B t p a b w hi q0 q1 q2 q3 q4 hp hrb
      · by_cases h3 : s = 85
        · subst h3; exact spec_Beside_85 A n c B t p a b w hi q0 q1 q2 q3 q4 hp hrb
        · by_cases h4 : s = 68
          · subst h4; exact spec_Beside_68 A n c B t p a b w hi q0 q1 q2 q3 q4 hp hrb
          · exact spec_Beside_other A n c B t p s a b w hi q0 q1 q2 q3 q4 hp hrb h1 h2 h3 h4
end Go.Proofs.Ytkinkdgnephcbaa.Tr
