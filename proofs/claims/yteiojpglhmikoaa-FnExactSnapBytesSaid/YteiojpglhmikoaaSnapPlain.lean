/- Plain facts on a snapshot as a list of bytes: how it is written, how it is read, and that reading by writing again and reading by the checksum alone are the same; no program is named. -/
import Derived.Test.YteiojpglhmikoaaFramePlain
namespace Go.Proofs.Yteiojpglhmikoaa.Snap
open Go.Proofs.Yteiojpglhmikoaa.Var Go.Proofs.Yteiojpglhmikoaa.Crc Go.Proofs.Yteiojpglhmikoaa.Frame

/-! ### a snapshot, written -/
def s4 : List Int := [83, 78, 65, 80]
def shd (g s n : Nat) : List Int := s4 ++ vEnc g ++ vEnc s ++ vEnc n
def snB (g s : Nat) (ds : List Int) : List Int := shd g s ds.length ++ (vEnc (crcN (shd g s ds.length ++ ds)) ++ ds)
def snK (g s : Int) (n : Nat) : Bool := decide (1 ≤ g ∧ g ≤ 1000000000 ∧ 1 ≤ s ∧ s ≤ 1000000000 ∧ n ≤ 150000)
def snO (g s : Int) (ds : List Int) : List Int := if snK g s ds.length = true then snB g.toNat s.toNat ds else []
theorem snK_yes {g s : Int} {n : Nat} (a1 : 1 ≤ g) (a2 : g ≤ 1000000000) (h1 : 1 ≤ s) (h2 : s ≤ 1000000000) (h3 : n ≤ 150000) : snK g s n = true := decide_eq_true ⟨a1, a2, h1, h2, h3⟩
theorem snK_no {g s : Int} {n : Nat} (h : g < 1 ∨ 1000000000 < g ∨ s < 1 ∨ 1000000000 < s ∨ 150000 < n) : snK g s n = false := decide_eq_false fun ⟨_, _, _, _, _⟩ => by omega
theorem of_snK {g s : Int} {n : Nat} (h : snK g s n = true) : 1 ≤ g ∧ g ≤ 1000000000 ∧ 1 ≤ s ∧ s ≤ 1000000000 ∧ n ≤ 150000 := of_decide_eq_true h
theorem snO_yes {g s : Int} {ds : List Int} (h : snK g s ds.length = true) : snO g s ds = snB g.toNat s.toNat ds := if_pos h
theorem snO_no {g s : Int} {ds : List Int} (h : snK g s ds.length = false) : snO g s ds = [] := if_neg (by rw [h]; simp)
theorem s4_rng : ∀ z ∈ s4, 0 ≤ z ∧ z < 256 := by intro z hz; simp [s4] at hz; omega
theorem shd_len {g s n : Nat} (hg : g ≤ 1000000000) (hs : s ≤ 1000000000) (hn : n ≤ 150000) : (shd g s n).length ≤ 19 := by
  have h0 := vEnc_len5 (n := g) (by omega)
  have h1 := vEnc_len5 (n := s) (by omega)
  have h2 := vEnc_len5 (n := n) (by omega)
  simp [shd, s4]; omega
theorem shd_rng (g s n : Nat) : ∀ z ∈ shd g s n, 0 ≤ z ∧ z < 256 := by
  intro z hz
  unfold shd at hz
  rcases List.mem_append.1 hz with e | e
  · rcases List.mem_append.1 e with e | e
    · rcases List.mem_append.1 e with e | e
      · exact s4_rng z e
      · exact vEnc_rng (g + 1) g (by omega) z e
    · exact vEnc_rng (s + 1) s (by omega) z e
  · exact vEnc_rng (n + 1) n (by omega) z e
theorem snB_len {g s : Nat} {ds : List Int} (hg : g ≤ 1000000000) (hs : s ≤ 1000000000) (hn : ds.length ≤ 150000) : (snB g s ds).length ≤ ds.length + 24 := by
  have h1 := shd_len hg hs hn
  have h2 := vEnc_len5 (crcN_le (shd g s ds.length ++ ds))
  unfold snB; rw [List.length_append, List.length_append]; omega
theorem snO_len (g s : Int) (ds : List Int) : (snO g s ds).length ≤ 150024 := by
  unfold snO; split
  · rename_i h
    obtain ⟨a1, a2, h1, h2, h3⟩ := of_snK h
    have := snB_len (g := g.toNat) (s := s.toNat) (ds := ds) (by omega) (by omega) h3
    omega
  · simp
/-! ### a snapshot, read: the k-th number stands at 'pos zs k' -/
def pos (zs : List Int) : Nat → Int
  | 0 => 4
  | k + 1 => gvE zs (pos zs k)
end Go.Proofs.Yteiojpglhmikoaa.Snap

