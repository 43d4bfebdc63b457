/- Plain facts on journals: what was written is read; from a torn journal exactly the complete frames; a changed last byte of a frame's data stops the reading before that frame. -/
import Derived.Test.YteiojpglhmikoaaJourPlain
import Derived.Test.YteiojpglhmikoaaRoundPlain
namespace Go.Proofs.Yteiojpglhmikoaa.Frame
open Go.Proofs.Yteiojpglhmikoaa.Var Go.Proofs.Yteiojpglhmikoaa.Crc

def Byt (l : List Int) : Prop := ∀ z ∈ l, 0 ≤ z ∧ z < 256
theorem Byt.app {a b : List Int} (h : Byt a) (k : Byt b) : Byt (a ++ b) := fun z hz => (List.mem_append.1 hz).elim (h z) (k z)
theorem Byt.left {a b : List Int} (h : Byt (a ++ b)) : Byt a := fun z hz => h z (List.mem_append.2 (.inl hz))
theorem Byt.right {a b : List Int} (h : Byt (a ++ b)) : Byt b := fun z hz => h z (List.mem_append.2 (.inr hz))
theorem byt_enc (n : Nat) : Byt (vEnc n) := vEnc_rng _ _ (Nat.lt_succ_self n)
theorem byt_take {a : List Int} (h : Byt a) (k : Nat) : Byt (a.take k) := fun z hz => h z (List.mem_of_mem_take hz)

/-! ### a frame among other bytes -/
theorem fr_in (pre post d : List Int) (s c : Nat) (hs : s ≤ 4294967295) (hc : c ≤ 4294967295) (hm : d.length ≤ 4294967295) (h1 : Byt pre) (h2 : Byt d) (h3 : Byt post) (zs : List Int) (hz : zs = pre ++ (hd s d.length ++ vEnc c ++ d) ++ post) :
    pre.length < zs.length ∧ zs.getD pre.length 0 = 167 ∧ fOk3 zs pre.length = true ∧ fSeq zs pre.length = (s : Int) ∧ fSize zs pre.length = (d.length : Int) ∧ fCrc zs pre.length = (c : Int) ∧
      p3 zs pre.length = ((pre.length + (hd s d.length).length + (vEnc c).length : Nat) : Int) ∧ fData zs pre.length = d ∧ fHead zs pre.length = hd s d.length := by
  have b167 : Byt [167] := fun z hz => by rw [List.mem_singleton] at hz; omega
  have q1 := gv_round (pre ++ [167]) (vEnc d.length ++ (vEnc c ++ (d ++ post))) s hs (h1.app b167) ((byt_enc _).app ((byt_enc _).app (h2.app h3)))
  have q2 := gv_round (pre ++ [167] ++ vEnc s) (vEnc c ++ (d ++ post)) d.length hm ((h1.app b167).app (byt_enc _)) ((byt_enc _).app (h2.app h3))
  have q3 := gv_round (pre ++ [167] ++ vEnc s ++ vEnc d.length) (d ++ post) c hc (((h1.app b167).app (byt_enc _)).app (byt_enc _)) (h2.app h3)
  have e1 : pre ++ [167] ++ vEnc s ++ (vEnc d.length ++ (vEnc c ++ (d ++ post))) = zs := by rw [hz]; simp [hd]
  have e2 : pre ++ [167] ++ vEnc s ++ vEnc d.length ++ (vEnc c ++ (d ++ post)) = zs := by rw [hz]; simp [hd]
  have e3 : pre ++ [167] ++ vEnc s ++ vEnc d.length ++ vEnc c ++ (d ++ post) = zs := by rw [hz]; simp [hd]
  rw [e1] at q1
  rw [e2] at q2
  rw [e3] at q3
  have l1 : (pre ++ [167]).length = pre.length + 1 := by simp
  have l2 : (pre ++ [167] ++ vEnc s).length = pre.length + 1 + (vEnc s).length := by rw [List.length_append, l1]
  have l3 : (pre ++ [167] ++ vEnc s ++ vEnc d.length).length = pre.length + 1 + (vEnc s).length + (vEnc d.length).length := by rw [List.length_append, l2]
  rw [l1] at q1
  rw [l2] at q2
  rw [l3] at q3
  have c1 : ((pre.length + 1 : Nat) : Int) = (pre.length : Int) + 1 := by omega
  rw [c1] at q1
  have hh : (hd s d.length).length = 1 + (vEnc s).length + (vEnc d.length).length := by simp [hd]; omega
  have v1 : p1 zs pre.length = ((pre.length + 1 + (vEnc s).length : Nat) : Int) := by unfold p1; rw [q1.2.2]
  have v2 : p2 zs pre.length = ((pre.length + 1 + (vEnc s).length + (vEnc d.length).length : Nat) : Int) := by unfold p2; rw [v1, q2.2.2]
  have v3 : p3 zs pre.length = ((pre.length + 1 + (vEnc s).length + (vEnc d.length).length + (vEnc c).length : Nat) : Int) := by unfold p3; rw [v2, q3.2.2]
  have s2 : fSize zs pre.length = (d.length : Int) := by unfold fSize; rw [v1]; exact q2.2.1
  have hlen : zs.length = pre.length + (hd s d.length).length + (vEnc c).length + d.length + post.length := by rw [hz]; simp only [List.length_append]; omega
  refine ⟨by omega, ?_, ?_, q1.2.1, s2, by unfold fCrc; rw [v2]; exact q3.2.1, by rw [v3, hh]; congr 1; omega, ?_, ?_⟩
  · rw [hz, List.append_assoc]
    simp [List.getD, hd]
  · unfold fOk3; rw [q1.1, v1, q2.1, v2, q3.1]; rfl
  · unfold fData
    rw [v3, s2, Int.toNat_natCast, Int.toNat_natCast]
    have e4 : zs = (pre ++ [167] ++ vEnc s ++ vEnc d.length ++ vEnc c) ++ (d ++ post) := by rw [hz]; simp [hd]
    have l4 : (pre ++ [167] ++ vEnc s ++ vEnc d.length ++ vEnc c).length = pre.length + 1 + (vEnc s).length + (vEnc d.length).length + (vEnc c).length := by rw [List.length_append, l3]
    rw [e4, ← l4, List.drop_left, List.take_left]
  · unfold fHead
    rw [v2, Int.toNat_natCast, Int.toNat_natCast]
    have e5 : zs = pre ++ (hd s d.length ++ (vEnc c ++ d ++ post)) := by rw [hz]; simp
    rw [e5, List.drop_left, show pre.length + 1 + (vEnc s).length + (vEnc d.length).length - pre.length = (hd s d.length).length by omega, List.take_left]
theorem frB_eq (s : Nat) (d : List Int) : frB s d = hd s d.length ++ vEnc (crcN (hd s d.length ++ d)) ++ d := rfl
/-- a right frame is read -/
theorem fr_good_in (pre post d : List Int) (s : Nat) (hs0 : 1 ≤ s) (hs : s ≤ 1000000000) (hm : d.length ≤ 60000) (h1 : Byt pre) (h2 : Byt d) (h3 : Byt post) (zs : List Int) (hz : zs = pre ++ frB s d ++ post) :
    frC zs pre.length = 0 ∧ frSeq zs pre.length = (s : Int) ∧ frData zs pre.length = d ∧ frNext zs pre.length = ((pre.length + (frB s d).length : Nat) : Int) := by
  obtain ⟨a1, a2, a3, a4, a5, a6, a7, a8, a9⟩ := fr_in pre post d s (crcN (hd s d.length ++ d)) (by omega) (crcN_le _) (by omega) h1 h2 h3 zs hz
  have hl : zs.length = pre.length + (hd s d.length).length + (vEnc (crcN (hd s d.length ++ d))).length + d.length + post.length := by rw [hz, frB_eq]; simp only [List.length_append]; omega
  have h0 : frC zs pre.length = 0 := frC_0 a1 a2 a3 (by rw [a4, a5]; omega) (by rw [a5, a7]; omega) (by rw [a6, a9, a8])
  obtain ⟨g1, g2, g3⟩ := fr_good h0
  refine ⟨h0, by rw [g1, a4], by rw [g2, a8], ?_⟩
  rw [g3, a7, a5, frB_eq]; simp only [List.length_append]; omega
/-- a frame with another checksum is not -/
theorem fr_bad_in (pre post d : List Int) (s c : Nat) (hs : s ≤ 4294967295) (hc : c ≤ 4294967295) (hm : d.length ≤ 4294967295) (h1 : Byt pre) (h2 : Byt d) (h3 : Byt post) (zs : List Int) (hz : zs = pre ++ (hd s d.length ++ vEnc c ++ d) ++ post)
    (hne : c ≠ crcN (hd s d.length ++ d)) : frC zs pre.length ≠ 0 := by
  obtain ⟨a1, a2, a3, a4, a5, a6, a7, a8, a9⟩ := fr_in pre post d s c hs hc hm h1 h2 h3 zs hz
  intro h0
  obtain ⟨a, P1, P2, P3, S, Z, C, ea, b0, b1, b2, hN, b3, b4, b5, b6, b7, b8, b9, b10, b11, hC, _⟩ := good_nums h0
  obtain rfl : pre.length = a := by omega
  obtain ⟨x1, x2, x3, x4, x5, x6, hN', _, _, _, _, _, _, _, _, y1, y2, y3, y4, y5, y6⟩ := nums_of a3
  have e2 : p2 zs pre.length = (P2 : Int) := by unfold p2 p1; rw [hN.e1, hN.e2]
  have e3 : p3 zs pre.length = (P3 : Int) := by unfold p3; rw [e2, hN.e3]
  have ez : fSize zs pre.length = (Z : Int) := by unfold fSize p1; rw [hN.e1, hN.v2]
  have ec : fCrc zs pre.length = (C : Int) := by unfold fCrc; rw [e2, hN.v3]
  have eh : (zs.drop pre.length).take (P2 - pre.length) = hd s d.length := by rw [← a9]; unfold fHead; rw [e2, Int.toNat_natCast, Int.toNat_natCast]
  have ed : (zs.drop P3).take Z = d := by rw [← a8]; unfold fData; rw [e3, ez, Int.toNat_natCast, Int.toNat_natCast]
  rw [eh, ed] at hC
  rw [a6] at ec
  exact hne (by omega)

/-! ### more bytes behind -/
theorem cnt_app (l r : List Int) (h : cnt l < l.length) : cnt (l ++ r) = cnt l := by
  induction l with
  | nil => simp at h
  | cons z l ih =>
    rw [List.cons_append, cnt]
    rw [cnt] at h ⊢
    split
    · rename_i hz
      rw [if_pos hz] at h
      rw [ih (by simpa using h)]
    · rfl
theorem gv_app {zs : List Int} {a : Nat} (r : List Int) (h : gvOk zs (a : Int) = true) : gvOk (zs ++ r) (a : Int) = true ∧ gvN (zs ++ r) (a : Int) = gvN zs (a : Int) ∧ gvE (zs ++ r) (a : Int) = gvE zs (a : Int) := by
  obtain ⟨h1, h2, h3, h4, h5, h6⟩ := gv_parts h
  have hd : (zs ++ r).drop a = zs.drop a ++ r := by rw [List.drop_append_of_le_length (by omega)]
  have hk : gvk (zs ++ r) a = gvk zs a := by
    unfold gvk; rw [hd]; exact cnt_app _ _ (by rw [List.length_drop]; unfold gvk at h1; omega)
  have hv : gvv (zs ++ r) a (gvk zs a + 1) = gvv zs a (gvk zs a + 1) := by
    unfold gvv; rw [hd, List.take_append_of_le_length (by rw [List.length_drop]; omega)]
  have hg : (zs ++ r).getD (a + gvk zs a) 0 = zs.getD (a + gvk zs a) 0 := by
    simp only [List.getD, List.getElem?_append_left h1]
  have hy := gv_yes (zs := zs ++ r) (a := a) (by rw [List.length_append]; omega) (by rw [hk]; omega) (by rw [hk, List.length_append]; omega) (by rw [hk, hg]; exact h4) (by rw [hk, hv]; exact h3)
  rw [hk, hv] at hy
  exact ⟨hy.1, by rw [hy.2.1, h5], by rw [hy.2.2, h6]; omega⟩
/-- a part of a frame is no frame -/
theorem fr_torn (pre d q r : List Int) (s : Nat) (hs0 : 1 ≤ s) (hs : s ≤ 1000000000) (hm : d.length ≤ 60000) (h1 : Byt pre) (h2 : Byt d) (hq : q ++ r = frB s d) (hr : 0 < r.length) : frC (pre ++ q) pre.length ≠ 0 := by
  intro h0
  obtain ⟨a, P1, P2, P3, S, Z, C, ea, b0, b1, b2, hN, b3, b4, b5, b6, _⟩ := good_nums h0
  obtain rfl : pre.length = a := by omega
  have hz : pre ++ q ++ r = pre ++ (hd s d.length ++ vEnc (crcN (hd s d.length ++ d)) ++ d) ++ [] := by rw [List.append_assoc, hq, frB_eq, List.append_nil]
  obtain ⟨a1, a2, a3, a4, a5, a6, a7, a8, a9⟩ := fr_in pre [] d s (crcN (hd s d.length ++ d)) (by omega) (crcN_le _) (by omega) h1 h2 (fun z hz => by cases hz) _ hz
  have g1 := gv_app (a := pre.length + 1) r (zs := pre ++ q) (by rw [show ((pre.length + 1 : Nat) : Int) = (pre.length : Int) + 1 by omega]; exact hN.o1)
  rw [show ((pre.length + 1 : Nat) : Int) = (pre.length : Int) + 1 by omega, hN.e1] at g1
  have g2 := gv_app (a := P1) r hN.o2
  rw [hN.e2, hN.v2] at g2
  have g3 := gv_app (a := P2) r hN.o3
  rw [hN.e3] at g3
  have e3 : p3 (pre ++ q ++ r) pre.length = (P3 : Int) := by unfold p3 p2 p1; rw [g1.2.2, g2.2.2, g3.2.2]
  have ez : fSize (pre ++ q ++ r) pre.length = (Z : Int) := by unfold fSize p1; rw [g1.2.2, g2.2.1]
  rw [e3] at a7
  rw [ez] at a5
  have hl := congrArg List.length hq
  rw [frB_eq] at hl
  simp only [List.length_append] at hl b6
  omega

/-! ### the checksum sees a change of the last byte -/
theorem c1_inj {a b : Nat} (ha : a < 4294967296) (hb : b < 4294967296) (h : c1 a = c1 b) : a = b := by
  have key : ∀ x y : Nat, x < 4294967296 → y < 4294967296 → x % 2 = 1 → y % 2 = 0 → c1 x = c1 y → False := by
    intro x y hx hy ox ey e
    rw [c1_odd ox, c1_even ey] at e
    have h1 : (x / 2 ^^^ 2197175160).testBit 31 = true := by
      rw [Nat.testBit_xor, Nat.testBit_lt_two_pow (show x / 2 < 2 ^ 31 by omega)]
      decide
    rw [e, Nat.testBit_lt_two_pow (show y / 2 < 2 ^ 31 by omega)] at h1
    cases h1
  rcases Nat.mod_two_eq_zero_or_one a with pa | pa <;> rcases Nat.mod_two_eq_zero_or_one b with pb | pb
  · rw [c1_even pa, c1_even pb] at h; omega
  · exact (key b a hb ha pb pa h.symm).elim
  · exact (key a b ha hb pa pb h).elim
  · rw [c1_odd pa, c1_odd pb] at h
    have := congrArg (fun t => t ^^^ 2197175160) h
    simp only [Nat.xor_assoc, Nat.xor_self, Nat.xor_zero] at this
    omega
theorem cn_inj (j : Nat) {a b : Nat} (ha : a < 4294967296) (hb : b < 4294967296) (h : cn j a = cn j b) : a = b := by
  induction j with
  | zero => exact h
  | succ j ih => exact ih (c1_inj (cn_lt j ha) (cn_lt j hb) h)
theorem crc_last (x : List Int) (a b : Int) (hx : Byt x) (ha : 0 ≤ a ∧ a < 256) (hb : 0 ≤ b ∧ b < 256) (hne : a ≠ b) : crcN (x ++ [a]) ≠ crcN (x ++ [b]) := by
  intro h
  have hr := cf_lt x hx
  have l1 := cb_lt hr ha.2
  have l2 := cb_lt hr hb.2
  unfold crcN at h
  rw [cf_snoc, cf_snoc] at h
  have h1 : cb (cf x) a = cb (cf x) b := by omega
  unfold cb at h1
  have h2 := cn_inj 8 (xor_byte_lt hr ha.2) (xor_byte_lt hr hb.2) h1
  have h3 := congrArg (fun t => cf x ^^^ t) h2
  simp only [← Nat.xor_assoc, Nat.xor_self, Nat.zero_xor] at h3
  omega

/-! ### journals -/
def Datas (l : List (List Int)) : Prop := ∀ d ∈ l, Byt d
theorem frO_pos {s : Int} {d : List Int} (h : frK s d.length = true) : 0 < (frO s d).length := by
  rw [frO_yes h, frB_eq]; simp [hd]
theorem jrK_cons {s : Int} {d : List Int} {l : List (List Int)} (h : jrK s (d :: l) = true) : frK s d.length = true ∧ jrK (s + 1) l = true := by
  rw [jrK, Bool.and_eq_true] at h; exact h
theorem jrB_byt (l : List (List Int)) : ∀ s, Datas l → Byt (jrB s l) := by
  induction l with
  | nil => intro s _ z hz; simp [jrB] at hz
  | cons d l ih => intro s h; rw [jrB]; exact Byt.app (frO_rng s d (h d (by simp))) (ih (s + 1) fun x hx => h x (by simp [hx]))
theorem step_in {s : Int} {d : List Int} {pre post : List Int} (hk : frK s d.length = true) (h1 : Byt pre) (h2 : Byt d) (h3 : Byt post) (zs : List Int) (hz : zs = pre ++ frO s d ++ post) :
    jStep zs s pre.length = true ∧ frData zs pre.length = d ∧ frNext zs pre.length = ((pre ++ frO s d).length : Int) := by
  obtain ⟨q1, q2, q3⟩ := of_frK hk
  obtain ⟨n, rfl⟩ := Int.eq_ofNat_of_zero_le (show 0 ≤ s by omega)
  rw [frO_yes hk, Int.toNat_natCast] at hz ⊢
  obtain ⟨a1, a2, a3, a4⟩ := fr_good_in pre post d n (by omega) (by omega) q3 h1 h2 h3 zs hz
  exact ⟨jStep_mk a1 a2, a3, by rw [a4, List.length_append]⟩
/-- frames that stand one behind the other are read, up to where the reading stops -/
theorem jr_read (l : List (List Int)) : ∀ (s : Int) (pre post : List Int) (f : Nat) (zs : List Int), jrK s l = true → Datas l → Byt pre → Byt post → zs = pre ++ jrB s l ++ post → l.length ≤ f → jStep zs (s + l.length) ((pre ++ jrB s l).length : Int) = false →
    jrL f zs s pre.length = l ∧ jrE f zs s pre.length = ((pre ++ jrB s l).length : Int) := by
  induction l with
  | nil =>
    intro s pre post f zs _ _ _ _ hz _ hst
    have hst' : jStep zs s pre.length = false := by simpa [jrB] using hst
    exact ⟨jrL_stop hst', by rw [jrE_stop hst']; simp [jrB]⟩
  | cons d l ih =>
    intro s pre post f zs hk hb h1 h3 hz hf hst
    obtain ⟨k1, k2⟩ := jrK_cons hk
    obtain ⟨f, rfl⟩ : ∃ m, f = m + 1 := ⟨f - 1, by rw [List.length_cons] at hf; omega⟩
    have hbd : Byt d := hb d (by simp)
    have hbl : Datas l := fun x hx => hb x (by simp [hx])
    have e : pre ++ jrB s (d :: l) = (pre ++ frO s d) ++ jrB (s + 1) l := by rw [jrB, List.append_assoc]
    rw [e] at hz hst ⊢
    obtain ⟨a1, a2, a3⟩ := step_in (post := jrB (s + 1) l ++ post) k1 h1 hbd ((jrB_byt l (s + 1) hbl).app h3) zs (by rw [hz, List.append_assoc])
    rw [jrL_succ a1, jrE_succ a1, a2, a3]
    have := ih (s + 1) (pre ++ frO s d) post f zs k2 hbl (h1.app (frO_rng s d hbd)) h3 hz (by rw [List.length_cons] at hf; omega) (by rw [← hst, List.length_cons]; congr 1; omega)
    exact ⟨by rw [this.1], this.2⟩
/-- how many frames are complete within k bytes -/
def tc : Int → List (List Int) → Nat → Nat
  | _, [], _ => 0
  | s, d :: l, k => if (frO s d).length ≤ k then tc (s + 1) l (k - (frO s d).length) + 1 else 0
theorem tc_le (l : List (List Int)) : ∀ s k, tc s l k ≤ l.length := by
  induction l with
  | nil => intro s k; simp [tc]
  | cons d l ih => intro s k; rw [tc]; split; have := ih (s + 1) (k - (frO s d).length); rw [List.length_cons]; omega; omega
theorem tc_len (l : List (List Int)) : ∀ s k, jrK s l = true → tc s l k ≤ ((jrB s l).take k).length ∧ (jrB s (l.take (tc s l k))).length ≤ k := by
  induction l with
  | nil => intro s k _; simp [tc, jrB]
  | cons d l ih =>
    intro s k hk
    obtain ⟨k1, k2⟩ := jrK_cons hk
    have hp := frO_pos k1
    rw [tc]; split
    · have := ih (s + 1) (k - (frO s d).length) k2
      rw [List.length_take] at this
      rw [jrB, List.take_succ_cons, jrB, List.length_take, List.length_append, List.length_append]
      omega
    · simp [jrB]
theorem tc_iff (l : List (List Int)) : ∀ s k i, i < l.length → ((jrB s (l.take (i + 1))).length ≤ k ↔ i < tc s l k) := by
  induction l with
  | nil => intro s k i h; simp at h
  | cons d l ih =>
    intro s k i h
    rw [tc, List.take_succ_cons, jrB, List.length_append]
    by_cases hle : (frO s d).length ≤ k
    · rw [if_pos hle]
      cases i with
      | zero => simp [jrB]; exact hle
      | succ i => 
        have := ih (s + 1) (k - (frO s d).length) i (by rw [List.length_cons] at h; omega)
        omega
    · rw [if_neg hle]; omega
theorem tc_all (l : List (List Int)) (s : Int) (k : Nat) (h : (jrB s l).length ≤ k) : tc s l k = l.length := by
  have h1 := tc_le l s k
  rcases Nat.lt_or_ge (tc s l k) l.length with h2 | h2
  · have h3 := (tc_iff l s k (tc s l k) h2).1 (by
      have e := congrArg List.length (jrB_app (l.take (tc s l k + 1)) (l.drop (tc s l k + 1)) s)
      rw [List.take_append_drop, List.length_append] at e; omega)
    omega
  · omega
theorem tc_some (l : List (List Int)) (s : Int) (k : Nat) (h0 : 0 < l.length) (h : k < (jrB s l).length) : tc s l k < l.length := by
  rcases Nat.lt_or_ge (tc s l k) l.length with h2 | h2
  · exact h2
  · exfalso
    have h1 := tc_le l s k
    have h3 := (tc_iff l s k (l.length - 1) (by omega)).2 (by omega)
    rw [show l.length - 1 + 1 = l.length by omega, List.take_length] at h3
    omega
theorem jr_torn (l : List (List Int)) : ∀ (s : Int) (pre : List Int) (k f : Nat) (zs : List Int), jrK s l = true → Datas l → Byt pre → zs = pre ++ (jrB s l).take k → tc s l k ≤ f →
    jrL f zs s pre.length = l.take (tc s l k) ∧ jrE f zs s pre.length = ((pre ++ jrB s (l.take (tc s l k))).length : Int) := by
  induction l with
  | nil =>
    intro s pre k f zs _ _ _ hz _
    have e : zs = pre := by rw [hz]; simp [jrB]
    have hst : jStep zs s pre.length = false := jStep_no1 (by rw [frC_2 (by rw [e]; exact Nat.le_refl _) (.inl (by rw [e]))]; omega)
    exact ⟨by rw [jrL_stop hst]; simp, by rw [jrE_stop hst]; simp [jrB]⟩
  | cons d l ih =>
    intro s pre k f zs hk hb h1 hz hf
    obtain ⟨k1, k2⟩ := jrK_cons hk
    have hbd : Byt d := hb d (by simp)
    have hbl : Datas l := fun x hx => hb x (by simp [hx])
    rw [tc] at hf ⊢
    by_cases hle : (frO s d).length ≤ k
    · rw [if_pos hle] at hf ⊢
      obtain ⟨f, rfl⟩ : ∃ m, f = m + 1 := ⟨f - 1, by omega⟩
      have e : zs = (pre ++ frO s d) ++ (jrB (s + 1) l).take (k - (frO s d).length) := by
        rw [hz, jrB, List.take_append, List.take_of_length_le hle, List.append_assoc]
      obtain ⟨a1, a2, a3⟩ := step_in (post := (jrB (s + 1) l).take (k - (frO s d).length)) k1 h1 hbd (byt_take (jrB_byt l (s + 1) hbl) _) zs e
      rw [jrL_succ a1, jrE_succ a1, a2, a3]
      have := ih (s + 1) (pre ++ frO s d) (k - (frO s d).length) f zs k2 hbl (h1.app (frO_rng s d hbd)) e (by omega)
      refine ⟨by rw [this.1, List.take_succ_cons], ?_⟩
      rw [this.2, List.take_succ_cons, jrB, List.append_assoc]
    · rw [if_neg hle] at hf ⊢
      obtain ⟨q1, q2, q3⟩ := of_frK k1
      have e : zs = pre ++ (frO s d).take k := by rw [hz, jrB, List.take_append_of_le_length (by omega)]
      have hst : jStep zs s pre.length = false := jStep_no1 (by
        rw [e]
        refine fr_torn pre d ((frO s d).take k) ((frO s d).drop k) s.toNat (by omega) (by omega) q3 h1 hbd ?_ (by rw [List.length_drop]; omega)
        rw [List.take_append_drop, frO_yes k1])
      exact ⟨by rw [jrL_stop hst]; simp, by rw [jrE_stop hst]; simp [jrB]⟩
/-- the three readings of the law -/
theorem read_cut (l : List (List Int)) (s : Int) (k : Nat) (hk : jrK s l = true) (hb : Datas l) : jL ((jrB s l).take k) s = l.take (tc s l k) ∧ jE ((jrB s l).take k) s = ((jrB s (l.take (tc s l k))).length : Int) := by
  have h := jr_torn l s [] k (((jrB s l).take k).length + 1) ((jrB s l).take k) hk hb (fun z hz => by cases hz) (by simp) (by have := (tc_len l s k hk).1; omega)
  exact ⟨h.1, h.2⟩
theorem read_all (l : List (List Int)) (s : Int) (hk : jrK s l = true) (hb : Datas l) : jL (jrB s l) s = l ∧ jE (jrB s l) s = ((jrB s l).length : Int) := by
  have h := read_cut l s (jrB s l).length hk hb
  rw [List.take_length, tc_all l s _ (Nat.le_refl _), List.take_length] at h
  exact h
theorem read_bent (l : List (List Int)) (s : Int) (i : Nat) (hi : i < l.length) (hk : jrK s l = true) (hb : Datas l) (v : Int) (hv : 0 ≤ v ∧ v < 256) (hd0 : 0 < (l[i]).length)
    (hne : v ≠ (jrB s l).getD ((jrB s (l.take (i + 1))).length - 1) 0) :
    jL ((jrB s l).set ((jrB s (l.take (i + 1))).length - 1) v) s = l.take i := by
  have hsp : jrK s (l.take i) = true ∧ frK (s + i) (l[i]).length = true := by
    have h1 := jrK_app (l.take (i + 1)) (l.drop (i + 1)) s
    rw [List.take_append_drop, hk, List.take_succ_eq_append_getElem hi, jrK_snoc, List.length_take, Nat.min_eq_left (by omega)] at h1
    have h2 := (Bool.and_eq_true _ _).mp h1.symm
    exact (Bool.and_eq_true _ _).mp h2.1
  obtain ⟨kp, kf⟩ := hsp
  have hbi : Byt l[i] := hb _ (List.getElem_mem hi)
  have hbt : Datas (l.take i) := fun x hx => hb x (List.mem_of_mem_take hx)
  have hbp : Byt (jrB s (l.take i)) := jrB_byt _ s hbt
  have lt : (l.take i).length = i := by rw [List.length_take]; omega
  -- the journal, in three parts
  have e1 : jrB s (l.take (i + 1)) = jrB s (l.take i) ++ frO (s + i) l[i] := by rw [List.take_succ_eq_append_getElem hi, jrB_snoc, lt]
  have e2 : jrB s l = jrB s (l.take i) ++ frO (s + i) l[i] ++ jrB (s + (i + 1 : Nat)) (l.drop (i + 1)) := by
    have := jrB_app (l.take (i + 1)) (l.drop (i + 1)) s
    rw [List.take_append_drop, e1] at this
    rw [this]; congr 2
    rw [List.length_take, Nat.min_eq_left (by omega)]
  have hbr : Byt (jrB (s + (i + 1 : Nat)) (l.drop (i + 1))) := jrB_byt _ _ fun x hx => hb x (List.mem_of_mem_drop hx)
  obtain ⟨q1, q2, q3⟩ := of_frK kf
  obtain ⟨t, ht⟩ : ∃ t : Nat, s + i = (t : Int) := ⟨(s + i).toNat, by omega⟩
  have hnil : l[i] ≠ [] := by intro h; rw [h] at hd0; simp at hd0
  obtain ⟨x, z, hxz⟩ : ∃ x z, l[i] = x ++ [z] := ⟨l[i].dropLast, l[i].getLast hnil, (List.dropLast_concat_getLast hnil).symm⟩
  clear hnil
  have ef : frO (s + i) l[i] = (hd t l[i].length ++ vEnc (crcN (hd t l[i].length ++ l[i])) ++ x) ++ [z] := by
    rw [frO_yes kf, ht, Int.toNat_natCast, frB_eq]
    rw [List.append_assoc _ x [z], ← hxz]
  generalize hpre : jrB s (l.take i) = pre at *
  generalize jrB (s + (i + 1 : Nat)) (l.drop (i + 1)) = post at *
  have hpos : (jrB s (l.take (i + 1))).length - 1 = (pre ++ (hd t l[i].length ++ vEnc (crcN (hd t l[i].length ++ l[i])) ++ x)).length := by
    rw [e1, ef]; simp only [List.length_append, List.length_cons, List.length_nil]; omega
  rw [hpos] at hne ⊢
  have e3 : jrB s l = (pre ++ (hd t l[i].length ++ vEnc (crcN (hd t l[i].length ++ l[i])) ++ x)) ++ (z :: post) := by rw [e2, ef]; simp
  rw [e3] at hne ⊢
  have hz : z ≠ v := by
    intro h; apply hne
    simp only [List.getD, List.getElem?_append_right (Nat.le_refl _), Nat.sub_self]; simp [h]
  rw [List.set_append_right _ _ (Nat.le_refl _), Nat.sub_self, List.set_cons_zero]
  have hlx : (x ++ [v]).length = l[i].length := by rw [hxz]; simp
  have hx : Byt x := by rw [hxz] at hbi; exact hbi.left
  have hz2 : 0 ≤ z ∧ z < 256 := by rw [hxz] at hbi; exact hbi z (by simp)
  have hbv : Byt (x ++ [v]) := hx.app fun y hy => by rw [List.mem_singleton] at hy; subst hy; exact hv
  have hzs : (pre ++ (hd t l[i].length ++ vEnc (crcN (hd t l[i].length ++ l[i])) ++ x)) ++ (v :: post) = pre ++ (hd t (x ++ [v]).length ++ vEnc (crcN (hd t l[i].length ++ l[i])) ++ (x ++ [v])) ++ post := by rw [hlx]; simp
  have hst := fr_bad_in pre post (x ++ [v]) t (crcN (hd t l[i].length ++ l[i])) (by omega) (crcN_le _) (by rw [hlx]; omega) hbp hbv hbr _ hzs (by
    rw [hlx]
    have h1 : hd t l[i].length ++ l[i] = (hd t l[i].length ++ x) ++ [z] := by rw [List.append_assoc, ← hxz]
    rw [h1, ← List.append_assoc]
    exact crc_last _ z v (Byt.app (hd_rng _ _) hx) hz2 hv hz)
  have hr := jr_read (l.take i) s [] ((hd t l[i].length ++ vEnc (crcN (hd t l[i].length ++ l[i])) ++ x) ++ (v :: post)) (((pre ++ (hd t l[i].length ++ vEnc (crcN (hd t l[i].length ++ l[i])) ++ x)) ++ (v :: post)).length + 1) ((pre ++ (hd t l[i].length ++ vEnc (crcN (hd t l[i].length ++ l[i])) ++ x)) ++ (v :: post)) kp hbt (fun z hz => by cases hz)
    (by
      refine Byt.app (Byt.app (Byt.app (hd_rng _ _) (byt_enc _)) hx) fun y hy => ?_
      rcases List.mem_cons.1 hy with rfl | hy
      · exact hv
      · exact hbr y hy)
    (by rw [hpre]; simp)
    (by
      have h1 := (tc_len (l.take i) s (jrB s (l.take i)).length kp).1
      rw [tc_all _ _ _ (Nat.le_refl _), List.take_length, hpre] at h1
      simp only [List.length_append]; omega)
    (by
      rw [hpre, lt]
      exact jStep_no1 hst)
  exact hr.1
theorem jrK_of (l : List (List Int)) : ∀ s : Int, 1 ≤ s → s + l.length ≤ 1000000000 → (∀ d ∈ l, d.length ≤ 60000) → jrK s l = true := by
  induction l with
  | nil => intro s _ _ _; rfl
  | cons d l ih =>
    intro s h1 h2 h3
    rw [List.length_cons] at h2
    rw [jrK, frK_yes h1 (by omega) (h3 d (by simp)), ih (s + 1) (by omega) (by omega) fun x hx => h3 x (by simp [hx])]; rfl
theorem jrB_len9 (l : List (List Int)) : ∀ s : Int, (∀ d ∈ l, d.length ≤ 9) → (jrB s l).length ≤ 25 * l.length := by
  induction l with
  | nil => intro s _; simp [jrB]
  | cons d l ih =>
    intro s h
    have h1 := frO_len' s d
    have h2 := h d (by simp)
    have h3 := ih (s + 1) fun x hx => h x (by simp [hx])
    rw [jrB, List.length_append, List.length_cons]; omega
theorem jrB_next (l : List (List Int)) (s : Int) (i : Nat) (hi : i < l.length) : jrB s (l.take (i + 1)) = jrB s (l.take i) ++ frO (s + i) l[i] := by
  rw [List.take_succ_eq_append_getElem hi, jrB_snoc, List.length_take, Nat.min_eq_left (by omega)]
theorem jrB_take_le (l : List (List Int)) (s : Int) (i : Nat) : (jrB s (l.take i)).length ≤ (jrB s l).length := by
  have h := congrArg List.length (jrB_app (l.take i) (l.drop i) s)
  rw [List.take_append_drop, List.length_append] at h; omega
theorem frK_at (l : List (List Int)) (s : Int) (i : Nat) (hi : i < l.length) (hk : jrK s l = true) : frK (s + i) (l[i]).length = true := by
  have h1 := jrK_app (l.take (i + 1)) (l.drop (i + 1)) s
  rw [List.take_append_drop, hk, List.take_succ_eq_append_getElem hi, jrK_snoc, List.length_take, Nat.min_eq_left (by omega)] at h1
  have h2 := (Bool.and_eq_true _ _).mp h1.symm
  exact ((Bool.and_eq_true _ _).mp h2.1).2
end Go.Proofs.Yteiojpglhmikoaa.Frame

