/- Words and lemmas, merged (once: GrAtB, GrAtC, GrAns) -/
import Derived.Test.YthlpchojlddnbaaKiEh
import Derived.Test.YthlpchojlddnbaaGrOk
import Derived.Test.YthlpchojlddnbaaGrSlide
import Derived.Test.YthlpchojlddnbaaGrCopy
namespace Go.Proofs.Ythlpchojlddnbaa.Gr
open Go.RowKit Go.Proofs.Ythlpchojlddnbaa.Bytes Go.Proofs.Ythlpchojlddnbaa.Rows_ Go.Proofs.Ythlpchojlddnbaa.RowK
set_option linter.unusedVariables false
set_option maxRecDepth 100000 in
set_option maxHeartbeats 3200000 in
theorem rowsOf_any (gw gh top end_ : Int) (b o n c lo hi : Nat) (w : World) (h1 : top * gw = (lo : Int)) (h2 : end_ * gw = (hi : Int)) (hlt : lo < hi) (hhi : hi ≤ n) (hnc : n ≤ c) (hn : n ≤ 1099511627776) (hc : c ≤ 9223372036854775807) :
    Calls Try.prog 95 #[.agg #[.int .i64 gw, .int .i64 gh, .slice (some ⟨b, o, none⟩) n c], .int .i64 top, .int .i64 end_] w fun e w' => e = .returned (.slice (some ⟨b, o + lo * 6, none⟩) (hi - lo) (c - lo)) ∧ Below w.heap.size w w' := by
  have hb0 := Lib.hid ((Below.refl w.heap.size w).alloc (Nat.le_refl _) (.cells #[.int .i64 gw, .int .i64 gh, .slice (some ⟨b, o, none⟩) n c] 32))
  have e1 : IntKind.i64.wrap (top * gw) = (lo : Int) := by rw [h1]; exact IntWalk.i64_in _ (by omega)
  have e2 : IntKind.i64.wrap (end_ * gw) = (hi : Int) := by rw [h2]; exact IntWalk.i64_in _ (by omega)
  have b1 : lo ≠ c := by omega
  have b2 : hi ≤ c := by omega
  have b3 : lo ≤ hi := by omega
  clear h1 h2
  go_enter Try.func95, Try.ntmps95
  go_wp2_with fail
  go_ret
  exact ⟨rfl, hb0.out⟩
set_option maxRecDepth 100000 in
set_option maxHeartbeats 3200000 in
theorem rowOf_any (W : Nat) (gh : Int) (b o n c y : Nat) (w : World) (h0 : 1 ≤ W) (hy : y * W + W ≤ n) (hyb : y ≤ 1000000) (hnc : n ≤ c) (hn : n ≤ 1099511627776) (hc : c ≤ 9223372036854775807) :
    Calls Try.prog 48 #[.agg #[.int .i64 (W : Int), .int .i64 gh, .slice (some ⟨b, o, none⟩) n c], .int .i64 (y : Int)] w fun e w' => e = .returned (.slice (some ⟨b, o + y * W * 6, none⟩) W (c - y * W)) ∧ Below w.heap.size w w' := by
  have hb0 := Lib.hid ((Below.refl w.heap.size w).alloc (Nat.le_refl _) (.cells #[.int .i64 (W : Int), .int .i64 gh, .slice (some ⟨b, o, none⟩) n c] 32))
  have HRO := Lib.hid (fun V => rowsOf_any (W : Int) gh (y : Int) ((y : Int) + 1) b o n c (y * W) (y * W + W) V (by rw [Int.natCast_mul]) (by rw [Int.add_mul, Int.one_mul, Int.natCast_add, Int.natCast_mul]) (by omega) hy hnc hn hc)
  rw [show y * W + W - y * W = W by omega] at HRO
  go_enter Try.func48, Try.ntmps48
  go_wp2_with fail
  refine (HRO.out _).mono ?_
  rintro e v1 ⟨rfl, hb1⟩
  have HB1 := Lib.hid (hb0.out.trans (hb1.mono (by simp)))
  clear hb1
  go_wp2_with fail
  go_ret
  exact ⟨rfl, HB1.out⟩

end Go.Proofs.Ythlpchojlddnbaa.Gr
namespace Go.Proofs.Ythlpchojlddnbaa.Gr
open Go.RowKit Go.Proofs.Ythlpchojlddnbaa.Bytes Go.Proofs.Ythlpchojlddnbaa.Rows_ Go.Proofs.Ythlpchojlddnbaa.RowK
set_option linter.unusedVariables false
theorem OwnC.cap {w : World} {base : Nat} {A : Option Addr} {n c : Nat} {cs : List CellD} (h : OwnC w base A n c cs) : n ≤ c ∧ c ≤ 9223372036854775807 := by
  rcases h.2 with ⟨hv, h0⟩ | ⟨g, cap, cur, hv, _, _, hnc, hm, _⟩
  · injection hv with e1 e2 e3; omega
  · injection hv with e1 e2 e3
    unfold maxLen at hm; omega
theorem OwnC.addr {w : World} {base : Nat} {A : Option Addr} {n c : Nat} {cs : List CellD} (h : OwnC w base A n c cs) (hn : 0 < n) : ∃ g, A = some ⟨g, 0, none⟩ := own_addr h hn
end Go.Proofs.Ythlpchojlddnbaa.Gr
namespace Go.Proofs.Ythlpchojlddnbaa.Gr
open Go.RowKit Go.Proofs.Ythlpchojlddnbaa.Bytes Go.Proofs.Ythlpchojlddnbaa.Rows_ Go.Proofs.Ythlpchojlddnbaa.RowK
set_option linter.unusedVariables false
abbrev GridT := Int × Int × List CellD
def zeroT : GridT := (0, 0, [])
def AnsT (w : World) (t : GridT) (e : Ending) (w' : World) : Prop :=
  ∃ A c, e = .returned (.agg #[.int .i64 t.1, .int .i64 t.2.1, .slice A t.2.2.length c]) ∧ OwnC w' w.heap.size A t.2.2.length c t.2.2 ∧ Below w.heap.size w w'
theorem ansZero {w w' : World} (hb : Below w.heap.size w w') : AnsT w zeroT (.returned (.agg #[.int .i64 0, .int .i64 0, .slice none 0 0])) w' := ⟨none, 0, rfl, ownC_nil _ _, hb⟩
theorem ansT {w w' : World} {gw gh : Int} {A : Option Addr} {n c : Nat} {cs : List CellD} (hl : cs.length = n) (ho : OwnC w' w.heap.size A n c cs) (hb : Below w.heap.size w w') : AnsT w (gw, gh, cs) (.returned (.agg #[.int .i64 gw, .int .i64 gh, .slice A n c])) w' := by
  subst hl; exact ⟨A, c, rfl, ho, hb⟩
end Go.Proofs.Ythlpchojlddnbaa.Gr

