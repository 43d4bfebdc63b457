/- Plain facts on the encoding of operations: how one is written, where a reader stands behind each field, and that what is read of a writing is not cut short; no program is named. -/
import Derived.Test.YteiojpglhmikoaaRoundPlain
import Derived.Test.YteiojpglhmikoaaGtP
import Derived.Test.YteiojpglhmikoaaBytP
namespace Go.Proofs.Yteiojpglhmikoaa.Oq
open Go.RowKit Go.Proofs.Yteiojpglhmikoaa.Var
set_option linter.unusedVariables false

def tE (l : List Int) : List Int := vEnc l.length ++ l
/-- an operation, written -/
def opE (k a b d : Int) (nm tx dr : ByteArray) (ds : List Int) : List Int :=
  vEnc k.toNat ++ vEnc a.toNat ++ vEnc b.toNat ++ vEnc d.toNat ++ tE (byt nm) ++ tE (byt tx) ++ tE (byt dr) ++ tE ds

def R8 (l : List Int) : Prop := ∀ z ∈ l, 0 ≤ z ∧ z < 256
theorem R8.app {a b : List Int} (h : R8 a) (g : R8 b) : R8 (a ++ b) := fun z hz => (List.mem_append.1 hz).elim (h z) (g z)
theorem R8.enc (n : Nat) : R8 (vEnc n) := vEnc_rng (n + 1) n (by omega)
theorem R8.tE {l : List Int} (h : R8 l) : R8 (tE l) := (R8.enc _).app h
theorem R8.nil : R8 [] := fun z hz => by simp at hz
theorem opE_rng (k a b d : Int) (nm tx dr : ByteArray) {ds : List Int} (h : R8 ds) : R8 (opE k a b d nm tx dr ds) := by
  unfold opE
  exact ((((((((R8.enc _).app (R8.enc _)).app (R8.enc _)).app (R8.enc _)).app (R8.tE (byt_rng nm))).app (R8.tE (byt_rng tx))).app (R8.tE (byt_rng dr))).app (R8.tE h))
theorem tE_len {l : List Int} (h : l.length ≤ 4294967295) : (tE l).length ≤ l.length + 5 := by
  unfold tE; rw [List.length_append]; have := vEnc_len5 h; omega
theorem opE_len {k a b d : Int} {nm tx dr : ByteArray} {ds : List Int} (hk : k ≤ 4294967295) (ha : a ≤ 4294967295) (hb : b ≤ 4294967295) (hd : d ≤ 4294967295) (h1 : nm.size ≤ 4000) (h2 : tx.size ≤ 4000) (h3 : dr.size ≤ 4000) (h4 : ds.length ≤ 4000) :
    (opE k a b d nm tx dr ds).length ≤ 17000 := by
  have e1 := vEnc_len5 (n := k.toNat) (by omega)
  have e2 := vEnc_len5 (n := a.toNat) (by omega)
  have e3 := vEnc_len5 (n := b.toNat) (by omega)
  have e4 := vEnc_len5 (n := d.toNat) (by omega)
  have t1 := tE_len (l := byt nm) (by rw [byt_len]; omega)
  have t2 := tE_len (l := byt tx) (by rw [byt_len]; omega)
  have t3 := tE_len (l := byt dr) (by rw [byt_len]; omega)
  have t4 := tE_len (l := ds) (by omega)
  rw [byt_len] at t1 t2 t3
  unfold opE
  simp only [List.length_append]
  omega

/-! ### a reader that stays at -1 from the first defect on -/
def rN (zs : List Int) (p : Int) : Int := if gvOk zs p = true then gvE zs p else -1
def rT (zs : List Int) (p : Int) : Int := if gtOk zs p = true then gtE zs p else -1
theorem gvOk_neg (zs : List Int) : gvOk zs (-1) = false := gv_out (.inl (by omega))
theorem rN_neg (zs : List Int) : rN zs (-1) = -1 := by unfold rN; rw [gvOk_neg]; rfl
theorem rT_neg (zs : List Int) : rT zs (-1) = -1 := by unfold rT; rw [gtOk_no (gvOk_neg zs)]; rfl
theorem rN_at {zs pre r : List Int} {n : Nat} (e : zs = pre ++ vEnc n ++ r) (hn : n ≤ 4294967295) (hz : R8 zs) : rN zs (pre.length : Int) = ((pre ++ vEnc n).length : Int) := by
  subst e
  obtain ⟨h1, h2, h3⟩ := gv_round pre r n hn (fun z h => hz z (by simp [h])) (fun z h => hz z (by simp [h]))
  unfold rN; rw [if_pos h1, h3, List.length_append]
theorem rT_at {zs pre r l : List Int} (e : zs = pre ++ tE l ++ r) (hl : l.length ≤ 4000) (hz : R8 zs) : rT zs (pre.length : Int) = ((pre ++ tE l).length : Int) := by
  have e' : zs = pre ++ vEnc l.length ++ (l ++ r) := by rw [e]; unfold tE; simp [List.append_assoc]
  obtain ⟨h1, h2, h3⟩ := gv_round pre (l ++ r) l.length (by omega) (fun z h => hz z (by rw [e']; simp [h])) (fun z h => hz z (by rw [e]; unfold tE; simp only [List.mem_append] at h ⊢; rcases h with h | h <;> simp [h]))
  rw [← e'] at h1 h2 h3
  have hL : zs.length = pre.length + (vEnc l.length).length + (l.length + r.length) := by rw [e']; simp [List.length_append, Nat.add_assoc]
  obtain ⟨h4, h5, _⟩ := gt_yes h1 h2 h3 hl (by omega)
  unfold rT; rw [if_pos h4, h5]; unfold tE; simp only [List.length_append]; omega

def q1 (zs : List Int) : Int := rN zs 0
def q2 (zs : List Int) : Int := rN zs (q1 zs)
def q3 (zs : List Int) : Int := rN zs (q2 zs)
def q4 (zs : List Int) : Int := rN zs (q3 zs)
def q5 (zs : List Int) : Int := rT zs (q4 zs)
def q6 (zs : List Int) : Int := rT zs (q5 zs)
def q7 (zs : List Int) : Int := rT zs (q6 zs)
def q8 (zs : List Int) : Int := rT zs (q7 zs)
theorem q8_opE {k a b d : Int} {nm tx dr : ByteArray} {ds : List Int} (hk : k ≤ 4294967295) (ha : a ≤ 4294967295) (hb : b ≤ 4294967295) (hd : d ≤ 4294967295) (h1 : nm.size ≤ 4000) (h2 : tx.size ≤ 4000) (h3 : dr.size ≤ 4000) (h4 : ds.length ≤ 4000) (hr : R8 ds) :
    q8 (opE k a b d nm tx dr ds) ≠ -1 := by
  have hz := opE_rng k a b d nm tx dr hr
  generalize e : opE k a b d nm tx dr ds = zs at hz ⊢
  unfold opE at e
  have x1 : q1 zs = (([] ++ vEnc k.toNat : List Int).length : Int) := rN_at (pre := []) (r := vEnc a.toNat ++ vEnc b.toNat ++ vEnc d.toNat ++ tE (byt nm) ++ tE (byt tx) ++ tE (byt dr) ++ tE ds) (by rw [← e]; simp [List.append_assoc]) (by omega) hz
  rw [List.nil_append] at x1
  have x2 : q2 zs = ((vEnc k.toNat ++ vEnc a.toNat).length : Int) := by
    unfold q2; rw [x1]
    exact rN_at (r := vEnc b.toNat ++ vEnc d.toNat ++ tE (byt nm) ++ tE (byt tx) ++ tE (byt dr) ++ tE ds) (by rw [← e]; simp [List.append_assoc]) (by omega) hz
  have x3 : q3 zs = ((vEnc k.toNat ++ vEnc a.toNat ++ vEnc b.toNat).length : Int) := by
    unfold q3; rw [x2]
    exact rN_at (r := vEnc d.toNat ++ tE (byt nm) ++ tE (byt tx) ++ tE (byt dr) ++ tE ds) (by rw [← e]; simp [List.append_assoc]) (by omega) hz
  have x4 : q4 zs = ((vEnc k.toNat ++ vEnc a.toNat ++ vEnc b.toNat ++ vEnc d.toNat).length : Int) := by
    unfold q4; rw [x3]
    exact rN_at (r := tE (byt nm) ++ tE (byt tx) ++ tE (byt dr) ++ tE ds) (by rw [← e]; simp [List.append_assoc]) (by omega) hz
  have x5 : q5 zs = ((vEnc k.toNat ++ vEnc a.toNat ++ vEnc b.toNat ++ vEnc d.toNat ++ tE (byt nm)).length : Int) := by
    unfold q5; rw [x4]
    exact rT_at (r := tE (byt tx) ++ tE (byt dr) ++ tE ds) (by rw [← e]; simp [List.append_assoc]) (by rw [byt_len]; omega) hz
  have x6 : q6 zs = ((vEnc k.toNat ++ vEnc a.toNat ++ vEnc b.toNat ++ vEnc d.toNat ++ tE (byt nm) ++ tE (byt tx)).length : Int) := by
    unfold q6; rw [x5]
    exact rT_at (r := tE (byt dr) ++ tE ds) (by rw [← e]; simp [List.append_assoc]) (by rw [byt_len]; omega) hz
  have x7 : q7 zs = ((vEnc k.toNat ++ vEnc a.toNat ++ vEnc b.toNat ++ vEnc d.toNat ++ tE (byt nm) ++ tE (byt tx) ++ tE (byt dr)).length : Int) := by
    unfold q7; rw [x6]
    exact rT_at (r := tE ds) (by rw [← e]) (by rw [byt_len]; omega) hz
  have x8 : q8 zs = ((vEnc k.toNat ++ vEnc a.toNat ++ vEnc b.toNat ++ vEnc d.toNat ++ tE (byt nm) ++ tE (byt tx) ++ tE (byt dr) ++ tE ds).length : Int) := by
    unfold q8; rw [x7]
    exact rT_at (r := []) (by rw [← e, List.append_nil]) (by omega) hz
  rw [x8]; omega
end Go.Proofs.Yteiojpglhmikoaa.Oq

