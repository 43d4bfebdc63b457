/- Several numbers appended one after the other, in the program: appendVars. -/
import Derived.Test.YteiojpglhmikoaaDoorAppB
namespace Go.Proofs.YteiojpglhmikoaaDoor.Cb
open Go.RowKit Go.Proofs.YteiojpglhmikoaaDoor.Bytes Go.Proofs.YteiojpglhmikoaaDoor.RowK Go.Proofs.YteiojpglhmikoaaDoor.Var
set_option linter.unusedVariables false
theorem Grow.row {a b : World} {u v : Value} {g : Nat} {C : Array Value} (h : Grow a u b v) (hr : Opq.RowB a g C) (hn : u.ownBlock ≠ some g) : Opq.RowB b g C ∧ v.ownBlock ≠ some g :=
  ⟨hr.only h.1 (fun e => hn e), fun e => (h.2 g e).elim hn (fun hl => by have := hr.lt; omega)⟩
def vEncs (xs : List Nat) : List Int := xs.flatMap vEnc
theorem vEncs_succ (xs : List Nat) (k : Nat) (h : k < xs.length) : vEncs (xs.take (k + 1)) = vEncs (xs.take k) ++ vEnc (xs.getD k 0) := by
  have e : xs.getD k 0 = xs[k] := by simp [List.getD, h]
  unfold vEncs; rw [List.take_succ_eq_append_getElem h, List.flatMap_append, e]; simp
theorem vEncs_len (xs : List Nat) (h : ∀ x ∈ xs, x ≤ 4294967295) : (vEncs xs).length ≤ 5 * xs.length := by
  induction xs with
  | nil => simp [vEncs]
  | cons x l ih =>
    have h1 := vEnc_len5 (h x (by simp))
    have h2 := ih (fun y hy => h y (by simp [hy]))
    unfold vEncs at h2 ⊢
    rw [List.flatMap_cons, List.length_append, List.length_cons]; omega
theorem getD_le (xs : List Nat) (k : Nat) (h : ∀ x ∈ xs, x ≤ 4294967295) : xs.getD k 0 ≤ 4294967295 := by
  rcases Nat.lt_or_ge k xs.length with hk | hk
  · have e : xs.getD k 0 = xs[k] := by simp [List.getD, hk]
    rw [e]; exact h _ (List.getElem_mem hk)
  · have e : xs.getD k 0 = 0 := by simp [List.getD, hk]
    omega

/-- what holds of the slice at the head of the k-th round: it is the given one, or one of the call's own -/
def VsR (w : World) (A : Option Addr) (n c base : Nat) (zs : List Int) (xs : List Nat) (P : World → Value → Prop) (k : Nat) (v : Value) (wr : World) : Prop :=
  (k = 0 ∧ v = .slice A n c ∧ wr = w) ∨ (0 < k ∧ ∃ A2 n2 c2, v = .slice A2 n2 c2 ∧ Own wr base A2 n2 c2 (zs ++ vEncs (xs.take k)) ∧ P wr v)

set_option maxRecDepth 100000 in
set_option maxHeartbeats 1600000 in
theorem appendVars_from (A : Option Addr) (n c base b m cm : Nat) (zs : List Int) (xs : List Nat) (w : World) (P : World → Value → Prop)
    (hm : xs.length = m) (hm0 : 0 < m) (hm1 : m ≤ 1000) (hx : ∀ x ∈ xs, x ≤ 4294967295) (hz : zs.length ≤ 4294967296)
    (h1 : Calls Tryd.prog 32 #[.slice A n c, .int .i64 (xs.getD 0 0 : Nat)] w fun e w' => ∃ A' n' c', e = .returned (.slice A' n' c') ∧ Own w' base A' n' c' (zs ++ vEnc (xs.getD 0 0)) ∧ P w' (.slice A' n' c'))
    (hP : ∀ a u d v, P a u → Grow a u d v → P d v) (hB : ∀ a u, P a u → base ≤ a.heap.size)
    (hc0 : w.cell? ⟨b, 0, none⟩ = some (.int .i64 (xs.getD 0 0 : Nat))) (hc : ∀ a u, P a u → ∀ k, k < m → a.cell? ⟨b, k, none⟩ = some (.int .i64 (xs.getD k 0 : Nat))) :
    Calls Tryd.prog 22 #[.slice A n c, .slice (some ⟨b, 0, none⟩) m cm] w fun e w' => ∃ A' n' c', e = .returned (.slice A' n' c') ∧ Own w' base A' n' c' (zs ++ vEncs xs) ∧ P w' (.slice A' n' c') := by
  have HM := Lib.hid hm
  have H1 := Lib.hid h1
  have HX := Lib.hid hx
  have HP := Lib.hid hP
  have HBB := Lib.hid hB
  have HC := Lib.hid hc
  clear hm h1 hx hP hB hc
  go_enter Tryd.func22, Tryd.ntmps22
  go_wp2_with fail
  go_loopw [0, 9] (fun v i wr => ∃ k : Nat, k ≤ m ∧ i = .int .i64 k ∧ VsR w A n c base zs xs P k v wr) (fun _ i _ => m - (intOf i).toNat)
  case atStart => exact ⟨0, Nat.zero_le _, rfl, .inl ⟨rfl, rfl, rfl⟩⟩
  case round =>
    obtain ⟨k, hk, rfl, hv⟩ := hrel
    rcases hv with ⟨rfl, rfl, rfl⟩ | ⟨hk0, A2, n2, c2, rfl, ho2, hp⟩
    · go_wp2_with fail
      refine H1.out.mono ?_
      rintro e w1 ⟨A1, n1, c1, rfl, ho1, hp1⟩
      have HO := Lib.hid (show Own w1 base A1 n1 c1 (zs ++ vEncs (xs.take (0 + 1))) by rw [vEncs_succ xs 0 (by have := HM.out; omega)]; simpa [vEncs] using ho1)
      have HP1 := Lib.hid hp1
      clear ho1 hp1 hc0
      go_wp2_with fail
      refine ⟨⟨0 + 1, by omega, by go_num, .inr ⟨by omega, A1, n1, c1, rfl, HO.out, HP1.out⟩⟩, by simp [intOf]; omega⟩
    · have HO2 := Lib.hid ho2
      have HP2 := Lib.hid hp
      clear ho2 hp hc0
      by_cases hlt : k < m
      · have hcell := HC.out _ _ HP2.out k hlt
        have hn2 : n2 ≤ 5000000000 := by
          have h1 := HO2.out.len
          have h2 := vEncs_len (xs.take k) (fun x h => HX.out x (List.mem_of_mem_take h))
          have h3 : (xs.take k).length ≤ k := List.length_take_le _ _
          rw [List.length_append] at h1
          omega
        have hS := Lib.hid (vEncs_succ xs k (by have := HM.out; omega))
        have hle := getD_le xs k HX.out
        have hBs := HBB.out _ _ HP2.out
        generalize xs.getD k 0 = x at *
        go_wp2_with fail
        refine (appendVarG_any A2 n2 c2 base _ x _ HO2.out hBs (by omega) hle).mono ?_
        rintro e w1 ⟨A1, n1, c1, rfl, ho1, hg1⟩
        have HO := Lib.hid (show Own w1 base A1 n1 c1 (zs ++ vEncs (xs.take (k + 1))) by rw [hS.out, ← List.append_assoc]; exact ho1)
        have HP1 := Lib.hid (HP.out _ _ _ _ HP2.out hg1)
        clear ho1 hg1 hcell
        go_wp2_with fail
        refine ⟨⟨k + 1, by omega, by go_num, .inr ⟨by omega, A1, n1, c1, rfl, HO.out, HP1.out⟩⟩, by simp [intOf]; omega⟩
      · obtain rfl : k = m := by omega
        have HT := Lib.hid (show xs.take k = xs from List.take_of_length_le (by rw [HM.out]; omega))
        go_wp2_with fail
        go_ret
        exact ⟨A2, n2, c2, rfl, by have h := HO2.out; rw [HT.out] at h; exact h, HP2.out⟩

theorem row4 (a b c d : Nat) : ∀ k, k < 4 → (#[Value.int .i64 (a : Int), .int .i64 (b : Int), .int .i64 (c : Int), .int .i64 (d : Int)] : Array Value)[k]? = some (.int .i64 (([a, b, c, d].getD k 0 : Nat) : Int)) := by
  intro k hk
  match k, hk with
  | 0, _ => rfl
  | 1, _ => rfl
  | 2, _ => rfl
  | 3, _ => rfl
  | k + 4, h => omega
end Go.Proofs.YteiojpglhmikoaaDoor.Cb

