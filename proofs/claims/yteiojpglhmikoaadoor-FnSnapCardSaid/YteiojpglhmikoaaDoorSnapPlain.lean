/- Plain facts on a snapshot as a list of bytes: how it is written, how it is read, and that reading by writing again and reading by the checksum alone are the same; no program is named. -/
import Derived.Test.YteiojpglhmikoaaDoorFramePlain
namespace Go.Proofs.YteiojpglhmikoaaDoor.Snap
open Go.Proofs.YteiojpglhmikoaaDoor.Var Go.Proofs.YteiojpglhmikoaaDoor.Crc Go.Proofs.YteiojpglhmikoaaDoor.Frame

/-! ### a snapshot, written -/
def s4 : List Int := [83, 78, 65, 80]
def shd (g s n : Nat) : List Int := s4 ++ vEnc g ++ vEnc s ++ vEnc n
def snB (g s : Nat) (ds : List Int) : List Int := shd g s ds.length ++ (vEnc (crcN (shd g s ds.length ++ ds)) ++ ds)
def snK (g s : Int) (n : Nat) : Bool := decide (1 ≤ g ∧ g ≤ 1000000000 ∧ 1 ≤ s ∧ s ≤ 1000000000 ∧ n ≤ 150000)
def snO (g s : Int) (ds : List Int) : List Int := if snK g s ds.length = true then snB g.toNat s.toNat ds else []
theorem snK_yes {g s : Int} {n : Nat} (a1 : 1 ≤ g) (a2 : g ≤ 1000000000) (h1 : 1 ≤ s) (h2 : s ≤ 1000000000) (h3 : n ≤ 150000) : snK g s n = true := decide_eq_true ⟨a1, a2, h1, h2, h3⟩
theorem snK_no {g s : Int} {n : Nat} (h : g < 1 ∨ 1000000000 < g ∨ s < 1 ∨ 1000000000 < s ∨ 150000 < n) : snK g s n = false := decide_eq_false fun ⟨_, _, _, _, _⟩ => by omega
theorem snO_yes {g s : Int} {ds : List Int} (h : snK g s ds.length = true) : snO g s ds = snB g.toNat s.toNat ds := if_pos h
theorem snO_no {g s : Int} {ds : List Int} (h : snK g s ds.length = false) : snO g s ds = [] := if_neg (by rw [h]; simp)
theorem s4_rng : ∀ z ∈ s4, 0 ≤ z ∧ z < 256 := by intro z hz; simp [s4] at hz; omega
theorem shd_len {g s n : Nat} (hg : g ≤ 1000000000) (hs : s ≤ 1000000000) (hn : n ≤ 150000) : (shd g s n).length ≤ 19 := by
  have h0 := vEnc_len5 (n := g) (by omega)
  have h1 := vEnc_len5 (n := s) (by omega)
  have h2 := vEnc_len5 (n := n) (by omega)
  simp [shd, s4]; omega
theorem shd_rng (g s n : Nat) : ∀ z ∈ shd g s n, 0 ≤ z ∧ z < 256 := by
  intro z hz
  unfold shd at hz
  rcases List.mem_append.1 hz with e | e
  · rcases List.mem_append.1 e with e | e
    · rcases List.mem_append.1 e with e | e
      · exact s4_rng z e
      · exact vEnc_rng (g + 1) g (by omega) z e
    · exact vEnc_rng (s + 1) s (by omega) z e
  · exact vEnc_rng (n + 1) n (by omega) z e
theorem snB_len {g s : Nat} {ds : List Int} (hg : g ≤ 1000000000) (hs : s ≤ 1000000000) (hn : ds.length ≤ 150000) : (snB g s ds).length ≤ ds.length + 24 := by
  have h1 := shd_len hg hs hn
  have h2 := vEnc_len5 (crcN_le (shd g s ds.length ++ ds))
  unfold snB; rw [List.length_append, List.length_append]; omega
theorem snB_rng (g s : Nat) (ds : List Int) (h : ∀ z ∈ ds, 0 ≤ z ∧ z < 256) : ∀ z ∈ snB g s ds, 0 ≤ z ∧ z < 256 := by
  intro z hz
  unfold snB at hz
  rcases List.mem_append.1 hz with e | e
  · exact shd_rng _ _ _ z e
  · rcases List.mem_append.1 e with e | e
    · exact vEnc_rng _ _ (Nat.lt_succ_self _) z e
    · exact h z e
/-! ### a snapshot, read: the k-th number stands at 'pos zs k' -/
def pos (zs : List Int) : Nat → Int
  | 0 => 4
  | k + 1 => gvE zs (pos zs k)
def num (zs : List Int) (k : Nat) : Int := gvN zs (pos zs k)
def okn (zs : List Int) (k : Nat) : Bool := gvOk zs (pos zs k)
def isS (zs : List Int) : Bool := decide (zs.take 4 = s4)
def ok4 (zs : List Int) : Bool := okn zs 0 && okn zs 1 && okn zs 2 && okn zs 3
def sHead (zs : List Int) : List Int := zs.take (pos zs 3).toNat
def sData (zs : List Int) : List Int := zs.drop (pos zs 4).toNat
def snC (zs : List Int) : Nat :=
  if isS zs = false then 1
  else if ok4 zs = false then 2
  else if num zs 0 < 1 ∨ 1000000000 < num zs 0 ∨ num zs 1 < 1 ∨ 1000000000 < num zs 1 ∨ num zs 2 ≠ (zs.length : Int) - pos zs 4 ∨ 150000 < num zs 2 then 3
  else if num zs 3 ≠ (crcN (sHead zs ++ sData zs) : Int) then 4
  else 0
def snG (zs : List Int) : Int := if snC zs = 0 then num zs 0 else 0
def snS (zs : List Int) : Int := if snC zs = 0 then num zs 1 else 0
def snD (zs : List Int) : List Int := if snC zs = 0 then sData zs else []
theorem sn_bad {zs : List Int} (h : snC zs ≠ 0) : snG zs = 0 ∧ snS zs = 0 ∧ snD zs = [] := by
  unfold snG snS snD; rw [if_neg h, if_neg h, if_neg h]; exact ⟨rfl, rfl, rfl⟩
theorem sn_good {zs : List Int} (h : snC zs = 0) : snG zs = num zs 0 ∧ snS zs = num zs 1 ∧ snD zs = sData zs := by
  unfold snG snS snD; rw [if_pos h, if_pos h, if_pos h]; exact ⟨rfl, rfl, rfl⟩
theorem isS_len {zs : List Int} (h : isS zs = true) : 4 ≤ zs.length := by
  have := congrArg List.length (of_decide_eq_true h)
  rw [List.length_take] at this
  simp [s4] at this; omega
theorem snC_1 {zs : List Int} (h : isS zs = false) : snC zs = 1 := by unfold snC; rw [if_pos h]
theorem snC_2 {zs : List Int} (h : isS zs = true) (h2 : ok4 zs = false) : snC zs = 2 := by unfold snC; rw [if_neg (by rw [h]; simp), if_pos h2]
theorem snC_3 {zs : List Int} (h : isS zs = true) (h2 : ok4 zs = true) (h3 : num zs 0 < 1 ∨ 1000000000 < num zs 0 ∨ num zs 1 < 1 ∨ 1000000000 < num zs 1 ∨ num zs 2 ≠ (zs.length : Int) - pos zs 4 ∨ 150000 < num zs 2) : snC zs = 3 := by
  unfold snC; rw [if_neg (by rw [h]; simp), if_neg (by rw [h2]; simp), if_pos h3]
theorem snC_4 {zs : List Int} (h : isS zs = true) (h2 : ok4 zs = true) (h3 : 1 ≤ num zs 0 ∧ num zs 0 ≤ 1000000000 ∧ 1 ≤ num zs 1 ∧ num zs 1 ≤ 1000000000 ∧ num zs 2 = (zs.length : Int) - pos zs 4 ∧ num zs 2 ≤ 150000)
    (h4 : num zs 3 ≠ (crcN (sHead zs ++ sData zs) : Int)) : snC zs = 4 := by
  unfold snC; rw [if_neg (by rw [h]; simp), if_neg (by rw [h2]; simp), if_neg (by omega), if_pos h4]
theorem snC_0 {zs : List Int} (h : isS zs = true) (h2 : ok4 zs = true) (h3 : 1 ≤ num zs 0 ∧ num zs 0 ≤ 1000000000 ∧ 1 ≤ num zs 1 ∧ num zs 1 ≤ 1000000000 ∧ num zs 2 = (zs.length : Int) - pos zs 4 ∧ num zs 2 ≤ 150000)
    (h4 : num zs 3 = (crcN (sHead zs ++ sData zs) : Int)) : snC zs = 0 := by
  unfold snC; rw [if_neg (by rw [h]; simp), if_neg (by rw [h2]; simp), if_neg (by omega), if_neg (by omega)]

theorem ok4_yes {zs : List Int} (h : ok4 zs = true) : okn zs 0 = true ∧ okn zs 1 = true ∧ okn zs 2 = true ∧ okn zs 3 = true := by
  unfold ok4 at h; simpa [and_assoc] using h
/-- where the numbers lie -/
theorem num_at {zs : List Int} {k : Nat} (h : okn zs k = true) : 0 ≤ num zs k ∧ num zs k ≤ 4294967295 ∧ pos zs k < pos zs (k + 1) ∧ pos zs (k + 1) ≤ zs.length ∧ 0 ≤ pos zs k ∧ pos zs (k + 1) ≤ pos zs k + 5 := gv_pos h
theorem sn_places {zs : List Int} (h : ok4 zs = true) : 4 < pos zs 1 ∧ pos zs 1 < pos zs 2 ∧ pos zs 2 < pos zs 3 ∧ pos zs 3 < pos zs 4 ∧ pos zs 4 ≤ zs.length ∧ pos zs 4 ≤ 24 ∧
    0 ≤ num zs 0 ∧ num zs 0 ≤ 4294967295 ∧ 0 ≤ num zs 1 ∧ num zs 1 ≤ 4294967295 ∧ 0 ≤ num zs 2 ∧ num zs 2 ≤ 4294967295 ∧ 0 ≤ num zs 3 ∧ num zs 3 ≤ 4294967295 := by
  obtain ⟨o0, o1, o2, o3⟩ := ok4_yes h
  have b0 := num_at o0
  have b1 := num_at o1
  have b2 := num_at o2
  have b3 := num_at o3
  have e : pos zs 0 = 4 := rfl
  simp only [Nat.zero_add, Nat.reduceAdd] at b0 b1 b2 b3
  omega
end Go.Proofs.YteiojpglhmikoaaDoor.Snap

