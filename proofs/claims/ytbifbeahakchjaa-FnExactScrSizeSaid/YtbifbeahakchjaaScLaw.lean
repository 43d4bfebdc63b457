/- Words for the laws over screens: sizes and marks of screens that hold the same. -/
import Derived.Test.YtbifbeahakchjaaScSz
import Derived.Test.YtbifbeahakchjaaScMk
namespace Go.Proofs.Ytbifbeahakchjaa.Sc
open Go.RowKit Go.Proofs.Ytbifbeahakchjaa.Bytes Go.Proofs.Ytbifbeahakchjaa.Rows_ Go.Proofs.Ytbifbeahakchjaa.RowK Go.Proofs.Ytbifbeahakchjaa.Gr Go.Proofs.Ytbifbeahakchjaa.DOk Go.Proofs.Ytbifbeahakchjaa.Opq
set_option linter.unusedVariables false
def szD (d : ScrD) : Nat := d.M.length + d.A.length + d.tabs.length + (d.rows.length + (d.rows.map List.length).sum)
theorem szS_data (s : ScrS) : szS s = szD s.data := by
  unfold szS szD ScrS.data tot
  simp only [List.length_map, List.map_map]; rfl
theorem szS_of {s : ScrS} {d : ScrD} (h : s.data = d) : szS s = szD d := by rw [szS_data, h]
theorem eqS {s s' : ScrS} {w : World} {b1 b2 : Nat} (h1 : OwnS w b1 s) (h2 : OwnS w b2 s') (he : s'.data = s.data) (hn : szS s ≤ 1048576) :
    Calls Try.prog 28 #[.agg (scrA s), .agg (scrA s')] w fun e w' => e = .returned (.bool true) ∧ Below w.heap.size w w' := eqScr_yes h1.rd h2.rd he hn
/-- a marked screen has the blocks that it had -/
theorem ss_mk (k : Int) (s : ScrS) (i : Nat) : SS (mkS k s) i ↔ SS s i := by
  unfold SS mkS
  simp only [marksN_len, mkRows_len]
  have e : ∀ (A : Option Addr) (c : Nat) (k : Int) (n : Nat) (cs : List CellD), cs.length = n → blkS ⟨A, c, mkCs k n⟩ = blkS ⟨A, c, cs⟩ := fun A c k n cs h => by unfold blkS; simp only [mkCs_len, h]
  have h1 : (∃ r ∈ (⟨s.M.A, s.M.c, mkCs k s.M.cs.length⟩ : SlC) :: ⟨s.A.A, s.A.c, mkCs (k + 6 * (s.M.cs.length : Int)) s.A.cs.length⟩ :: mkRows (k + 6 * (s.M.cs.length : Int) + 6 * (s.A.cs.length : Int) + s.tabs.length) s.rows, blkS r = some i) ↔ ∃ r ∈ s.M :: s.A :: s.rows, blkS r = some i := by
    constructor
    · rintro ⟨r, hr, hi⟩
      rcases List.mem_cons.1 hr with rfl | hr
      · exact ⟨s.M, List.mem_cons_self, by rw [← hi]; exact (e _ _ _ _ _ rfl).symm⟩
      · rcases List.mem_cons.1 hr with rfl | hr
        · exact ⟨s.A, List.mem_cons_of_mem _ List.mem_cons_self, by rw [← hi]; exact (e _ _ _ _ _ rfl).symm⟩
        · obtain ⟨x, hx, ex⟩ := mkRows_blk _ _ r hr
          exact ⟨x, List.mem_cons_of_mem _ (List.mem_cons_of_mem _ hx), by rw [← ex]; exact hi⟩
    · rintro ⟨r, hr, hi⟩
      rcases List.mem_cons.1 hr with rfl | hr
      · exact ⟨_, List.mem_cons_self, by rw [← hi]; exact e _ _ _ _ _ rfl⟩
      · rcases List.mem_cons.1 hr with rfl | hr
        · exact ⟨_, List.mem_cons_of_mem _ List.mem_cons_self, by rw [← hi]; exact e _ _ _ _ _ rfl⟩
        · obtain ⟨j, hj, rfl⟩ := List.mem_iff_getElem.1 hr
          have hat := mkRows_at (k + 6 * (s.M.cs.length : Int) + 6 * (s.A.cs.length : Int) + s.tabs.length) s.rows j hj
          refine ⟨_, List.mem_cons_of_mem _ (List.mem_cons_of_mem _ (List.mem_of_getElem? hat)), ?_⟩
          rw [← hi]; exact e _ _ _ _ _ rfl
  rw [h1]
end Go.Proofs.Ytbifbeahakchjaa.Sc
