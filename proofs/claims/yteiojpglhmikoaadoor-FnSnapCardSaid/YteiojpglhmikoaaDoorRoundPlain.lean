/- Plain facts: what was encoded is read back, at any offset, whatever follows; no program is named. -/
import Derived.Test.YteiojpglhmikoaaDoorGetPlain
namespace Go.Proofs.YteiojpglhmikoaaDoor.Var
theorem cnt_enc (k : Nat) (r : List Int) : ∀ n, n < k → cnt (vEnc n ++ r) + 1 = (vEnc n).length := by
  induction k with
  | zero => intro n h; omega
  | succ k ih =>
    intro n h
    by_cases hs : n < 128
    · rw [vEnc_small hs, List.cons_append, cnt, if_neg (by omega)]; rfl
    · rw [vEnc_big hs, List.cons_append, cnt, if_pos (by omega), List.length_cons, ih (n / 128) (by omega)]
theorem gv_round (zs r : List Int) (n : Nat) (hn : n ≤ 4294967295) (hz : ∀ z ∈ zs, 0 ≤ z ∧ z < 256) (hr : ∀ z ∈ r, 0 ≤ z ∧ z < 256) :
    gvOk (zs ++ vEnc n ++ r) (zs.length : Int) = true ∧ gvN (zs ++ vEnc n ++ r) (zs.length : Int) = (n : Int) ∧
      gvE (zs ++ vEnc n ++ r) (zs.length : Int) = ((zs.length + (vEnc n).length : Nat) : Int) := by
  have hd : (zs ++ vEnc n ++ r).drop zs.length = vEnc n ++ r := by rw [List.append_assoc, List.drop_left]
  have hc := cnt_enc (n + 1) r n (by omega)
  have hk : gvk (zs ++ vEnc n ++ r) zs.length = cnt (vEnc n ++ r) := by unfold gvk; rw [hd]
  have h5 := vEnc_len5 hn
  have hlen : (zs ++ vEnc n ++ r).length = zs.length + (vEnc n).length + r.length := by simp [List.length_append, Nat.add_assoc]
  have hsg : seg (zs ++ vEnc n ++ r) zs.length (cnt (vEnc n ++ r)) = vEnc n := by
    unfold seg; rw [hd, hc, List.take_left]
  have hv : gvv (zs ++ vEnc n ++ r) zs.length (cnt (vEnc n ++ r) + 1) = n := by
    unfold gvv; rw [hd, hc, List.take_left]; exact val_enc (n + 1) n (by omega)
  have hg : ∀ z ∈ zs ++ vEnc n ++ r, 0 ≤ z ∧ z < 256 := by
    intro z h
    rcases List.mem_append.1 h with h | h
    · rcases List.mem_append.1 h with h | h
      · exact hz z h
      · exact vEnc_rng (n + 1) n (by omega) z h
    · exact hr z h
  have he := (seg_enc (zs ++ vEnc n ++ r) zs.length (cnt (vEnc n ++ r)) hg (by omega) (fun j hj => gvk_big _ _ j (by rw [hk]; exact hj))
    (by have := gvk_end (zs ++ vEnc n ++ r) zs.length (by rw [hk]; omega); rwa [hk] at this)).1 (by rw [hv, hsg])
  have hy := gv_yes (zs := zs ++ vEnc n ++ r) (a := zs.length) (by omega) (by rw [hk]; omega) (by rw [hk]; omega) (by rw [hk]; exact he) (by rw [hk, hv]; exact hn)
  rw [hk, hv] at hy
  exact ⟨hy.1, hy.2.1, by rw [hy.2.2]; omega⟩
end Go.Proofs.YteiojpglhmikoaaDoor.Var

