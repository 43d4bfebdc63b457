/- Plain facts on snapshots: what was written is read; with a byte behind it it is not; a changed byte of its data shows. -/
import Derived.Test.YteiojpglhmikoaaDoorSnapPlain
import Derived.Test.YteiojpglhmikoaaDoorRoundPlain
namespace Go.Proofs.YteiojpglhmikoaaDoor.Snap
open Go.Proofs.YteiojpglhmikoaaDoor.Var Go.Proofs.YteiojpglhmikoaaDoor.Crc Go.Proofs.YteiojpglhmikoaaDoor.Frame

def Byts (l : List Int) : Prop := ∀ z ∈ l, 0 ≤ z ∧ z < 256
theorem Byts.app {a b : List Int} (h : Byts a) (k : Byts b) : Byts (a ++ b) := fun z hz => (List.mem_append.1 hz).elim (h z) (k z)
theorem byts_enc (n : Nat) : Byts (vEnc n) := vEnc_rng _ _ (Nat.lt_succ_self n)
/-- one number further -/
theorem num_step {pre suf : List Int} {k n : Nat} {zs : List Int} (hz : zs = pre ++ vEnc n ++ suf) (hn : n ≤ 4294967295) (h1 : Byts pre) (h2 : Byts suf) (hp : pos zs k = (pre.length : Int)) :
    okn zs k = true ∧ num zs k = (n : Int) ∧ pos zs (k + 1) = ((pre ++ vEnc n).length : Int) := by
  obtain ⟨a, b, c⟩ := gv_round pre suf n hn h1 h2
  rw [← hz, ← hp] at a b c
  refine ⟨a, b, ?_⟩
  show gvE zs (pos zs k) = _
  rw [c, List.length_append]
theorem sn_form {g s n c : Nat} {d zs : List Int} (hz : zs = shd g s n ++ (vEnc c ++ d)) (hg : g ≤ 4294967295) (hs : s ≤ 4294967295) (hn : n ≤ 4294967295) (hc : c ≤ 4294967295) (hd : Byts d) :
    isS zs = true ∧ ok4 zs = true ∧ num zs 0 = (g : Int) ∧ num zs 1 = (s : Int) ∧ num zs 2 = (n : Int) ∧ num zs 3 = (c : Int) ∧ sHead zs = shd g s n ∧ sData zs = d ∧ (zs.length : Int) - pos zs 4 = (d.length : Int) := by
  have e0 : zs = s4 ++ vEnc g ++ (vEnc s ++ (vEnc n ++ (vEnc c ++ d))) := by rw [hz]; simp [shd, List.append_assoc]
  obtain ⟨a0, b0, c0⟩ := num_step (k := 0) e0 hg s4_rng (((byts_enc s).app ((byts_enc n).app ((byts_enc c).app hd)))) rfl
  have e1 : zs = s4 ++ vEnc g ++ vEnc s ++ (vEnc n ++ (vEnc c ++ d)) := by rw [e0]; simp [List.append_assoc]
  have h1 : Byts (s4 ++ vEnc g) := Byts.app s4_rng (byts_enc g)
  obtain ⟨a1, b1, c1⟩ := num_step (k := 1) e1 hs h1 ((byts_enc n).app ((byts_enc c).app hd)) c0
  have e2 : zs = s4 ++ vEnc g ++ vEnc s ++ vEnc n ++ (vEnc c ++ d) := by rw [e0]; simp [List.append_assoc]
  have h2 : Byts (s4 ++ vEnc g ++ vEnc s) := h1.app (byts_enc s)
  obtain ⟨a2, b2, c2⟩ := num_step (k := 2) e2 hn h2 ((byts_enc c).app hd) c1
  have e3 : zs = s4 ++ vEnc g ++ vEnc s ++ vEnc n ++ vEnc c ++ d := by rw [e0]; simp [List.append_assoc]
  have h3 : Byts (s4 ++ vEnc g ++ vEnc s ++ vEnc n) := h2.app (byts_enc n)
  obtain ⟨a3, b3, c3⟩ := num_step (k := 3) e3 hc h3 hd c2
  refine ⟨decide_eq_true ?_, ?_, b0, b1, b2, b3, ?_, ?_, ?_⟩
  · rw [e0]; simp [s4]
  · unfold ok4; rw [a0, a1, a2, a3]; rfl
  · unfold sHead; rw [c2, Int.toNat_natCast, e2, List.take_left]; rfl
  · unfold sData; rw [c3, Int.toNat_natCast, e3, List.drop_left]
  · rw [c3, e3]; simp only [List.length_append]; omega
theorem sn_read {g s : Nat} {d : List Int} (hg0 : 1 ≤ g) (hg : g ≤ 1000000000) (hs0 : 1 ≤ s) (hs : s ≤ 1000000000) (hn : d.length ≤ 150000) (hd : Byts d) :
    snC (snB g s d) = 0 ∧ snG (snB g s d) = (g : Int) ∧ snS (snB g s d) = (s : Int) ∧ snD (snB g s d) = d := by
  obtain ⟨h1, h2, n0, n1, n2, n3, hh, hdd, hl⟩ := sn_form (zs := snB g s d) rfl (by omega) (by omega) (by omega) (crcN_le _) hd
  have hc := snC_0 h1 h2 (by rw [n0, n1, n2, hl]; omega) (by rw [n3, hh, hdd])
  obtain ⟨q1, q2, q3⟩ := sn_good hc
  exact ⟨hc, q1.trans n0, q2.trans n1, q3.trans hdd⟩
theorem sn_more {g s : Nat} {d r : List Int} (hg : g ≤ 1000000000) (hs : s ≤ 1000000000) (hn : d.length ≤ 150000) (hd : Byts d) (hr : Byts r) (h0 : 0 < r.length) : snC (snB g s d ++ r) = 3 := by
  obtain ⟨h1, h2, n0, n1, n2, n3, hh, hdd, hl⟩ := sn_form (g := g) (s := s) (n := d.length) (c := crcN (shd g s d.length ++ d)) (d := d ++ r) (zs := snB g s d ++ r) (by unfold snB; simp [List.append_assoc]) (by omega) (by omega) (by omega) (crcN_le _) (hd.app hr)
  refine snC_3 h1 h2 ?_
  rw [n2, hl, List.length_append]; omega

/-! ### the checksum sees a change of any byte -/
theorem c1_inj {a b : Nat} (ha : a < 4294967296) (hb : b < 4294967296) (h : c1 a = c1 b) : a = b := by
  have key : ∀ x y : Nat, x < 4294967296 → y < 4294967296 → x % 2 = 1 → y % 2 = 0 → c1 x = c1 y → False := by
    intro x y hx hy ox ey e
    rw [c1_odd ox, c1_even ey] at e
    have h1 : (x / 2 ^^^ 2197175160).testBit 31 = true := by
      rw [Nat.testBit_xor, Nat.testBit_lt_two_pow (show x / 2 < 2 ^ 31 by omega)]
      decide
    rw [e, Nat.testBit_lt_two_pow (show y / 2 < 2 ^ 31 by omega)] at h1
    cases h1
  rcases Nat.mod_two_eq_zero_or_one a with pa | pa <;> rcases Nat.mod_two_eq_zero_or_one b with pb | pb
  · rw [c1_even pa, c1_even pb] at h; omega
  · exact (key b a hb ha pb pa h.symm).elim
  · exact (key a b ha hb pa pb h).elim
  · rw [c1_odd pa, c1_odd pb] at h
    have := congrArg (fun t => t ^^^ 2197175160) h
    simp only [Nat.xor_assoc, Nat.xor_self, Nat.xor_zero] at this
    omega
theorem cn_inj (j : Nat) {a b : Nat} (ha : a < 4294967296) (hb : b < 4294967296) (h : cn j a = cn j b) : a = b := by
  induction j with
  | zero => exact h
  | succ j ih => exact ih (c1_inj (cn_lt j ha) (cn_lt j hb) h)
theorem cf_rest (r : List Int) : ∀ (x y : List Int), Byts x → Byts y → Byts r → cf x ≠ cf y → cf (x ++ r) ≠ cf (y ++ r) := by
  induction r with
  | nil => intro x y _ _ _ h; rwa [List.append_nil, List.append_nil]
  | cons c r ih =>
    intro x y hx hy hr hne
    have hc : 0 ≤ c ∧ c < 256 := hr c List.mem_cons_self
    have hr1 : Byts r := fun z hz => hr z (List.mem_cons_of_mem _ hz)
    have b1 : Byts [c] := fun z hz => by rw [List.mem_singleton] at hz; subst hz; exact hc
    have h := ih (x ++ [c]) (y ++ [c]) (hx.app b1) (hy.app b1) hr1 (by
      intro h
      rw [cf_snoc, cf_snoc] at h
      unfold cb at h
      have h2 := cn_inj 8 (xor_byte_lt (cf_lt x hx) hc.2) (xor_byte_lt (cf_lt y hy) hc.2) h
      have h3 := congrArg (fun t => t ^^^ c.toNat) h2
      simp only [Nat.xor_assoc, Nat.xor_self, Nat.xor_zero] at h3
      exact hne h3)
    rwa [List.append_assoc, List.append_assoc] at h
theorem crc_byte (x r : List Int) (a b : Int) (hx : Byts x) (ha : 0 ≤ a ∧ a < 256) (hb : 0 ≤ b ∧ b < 256) (hne : a ≠ b) (hr : Byts r) : cf (x ++ [a] ++ r) ≠ cf (x ++ [b] ++ r) := by
  have b1 : Byts [a] := fun z hz => by rw [List.mem_singleton] at hz; subst hz; exact ha
  have b2 : Byts [b] := fun z hz => by rw [List.mem_singleton] at hz; subst hz; exact hb
  refine cf_rest r _ _ (hx.app b1) (hx.app b2) hr ?_
  intro h
  have hl := cf_lt x hx
  rw [cf_snoc, cf_snoc] at h
  unfold cb at h
  have h2 := cn_inj 8 (xor_byte_lt hl ha.2) (xor_byte_lt hl hb.2) h
  have h3 := congrArg (fun t => cf x ^^^ t) h2
  simp only [← Nat.xor_assoc, Nat.xor_self, Nat.zero_xor] at h3
  omega
theorem crc_set (x d : List Int) (k : Nat) (v : Int) (hx : Byts x) (hd : Byts d) (hk : k < d.length) (hv : 0 ≤ v ∧ v < 256) (hne : v ≠ d.getD k 0) : crcN (x ++ d) ≠ crcN (x ++ d.set k v) := by
  have e0 : d.getD k 0 = d[k] := by simp [List.getD, hk]
  have e1 : d = d.take k ++ [d[k]] ++ d.drop (k + 1) := by rw [List.append_assoc, List.singleton_append, ← List.drop_eq_getElem_cons hk, List.take_append_drop]
  have e2 : d.set k v = d.take k ++ [v] ++ d.drop (k + 1) := by rw [List.set_eq_take_append_cons_drop, if_pos hk, List.append_assoc]; rfl
  have b1 : Byts (d.take k) := fun z hz => hd z (List.mem_of_mem_take hz)
  have b2 : Byts (d.drop (k + 1)) := fun z hz => hd z (List.mem_of_mem_drop hz)
  have b3 : Byts [d[k]] := fun z hz => by rw [List.mem_singleton] at hz; subst hz; exact hd _ (List.getElem_mem hk)
  have b4 : Byts [v] := fun z hz => by rw [List.mem_singleton] at hz; subst hz; exact hv
  have h := crc_byte (x ++ d.take k) (d.drop (k + 1)) d[k] v (hx.app b1) (hd _ (List.getElem_mem hk)) hv (by rw [← e0]; exact fun h => hne h.symm) b2
  have l1 := cf_lt (x ++ d.take k ++ [d[k]] ++ d.drop (k + 1)) (((hx.app b1).app b3).app b2)
  have l2 := cf_lt (x ++ d.take k ++ [v] ++ d.drop (k + 1)) (((hx.app b1).app b4).app b2)
  have f1 : x ++ d = x ++ d.take k ++ [d[k]] ++ d.drop (k + 1) := by
    conv => lhs; rw [e1]
    simp [List.append_assoc]
  have f2 : x ++ d.set k v = x ++ d.take k ++ [v] ++ d.drop (k + 1) := by rw [e2]; simp [List.append_assoc]
  rw [f1, f2]
  unfold crcN
  omega
/-- a changed byte of the data shows -/
theorem sn_bent {g s : Nat} {d : List Int} (hg0 : 1 ≤ g) (hg : g ≤ 1000000000) (hs0 : 1 ≤ s) (hs : s ≤ 1000000000) (hn : d.length ≤ 150000) (hd : Byts d) (k : Nat) (hk : k < d.length) (v : Int) (hv : 0 ≤ v ∧ v < 256)
    (i : Nat) (hi : i + 1 + k = (snB g s d).length) (hne : v ≠ (snB g s d).getD i 0) : snC ((snB g s d).set i v) = 4 := by
  have hlen : (snB g s d).length = (shd g s d.length ++ vEnc (crcN (shd g s d.length ++ d))).length + d.length := by unfold snB; rw [← List.append_assoc, List.length_append]
  have hi2 : i = (shd g s d.length ++ vEnc (crcN (shd g s d.length ++ d))).length + (d.length - 1 - k) := by omega
  have hb : snB g s d = (shd g s d.length ++ vEnc (crcN (shd g s d.length ++ d))) ++ d := by unfold snB; rw [List.append_assoc]
  have hset : (snB g s d).set i v = shd g s d.length ++ (vEnc (crcN (shd g s d.length ++ d)) ++ d.set (d.length - 1 - k) v) := by
    rw [hb, hi2, List.set_append_right _ _ (by omega), Nat.add_sub_cancel_left, List.append_assoc]
  have hget : (snB g s d).getD i 0 = d.getD (d.length - 1 - k) 0 := by
    rw [hb, hi2]; simp only [List.getD]; rw [List.getElem?_append_right (by omega), Nat.add_sub_cancel_left]
  rw [hget] at hne
  have hds : Byts (d.set (d.length - 1 - k) v) := fun z hz => (List.mem_or_eq_of_mem_set hz).elim (hd z) (fun e => by subst e; exact hv)
  have hcr := crc_set (shd g s d.length) d (d.length - 1 - k) v (shd_rng _ _ _) hd (by omega) hv hne
  rw [hset]
  obtain ⟨h1, h2, n0, n1, n2, n3, hh, hdd, hl⟩ := sn_form (g := g) (s := s) (n := d.length) (c := crcN (shd g s d.length ++ d)) (d := d.set (d.length - 1 - k) v) (zs := shd g s d.length ++ (vEnc (crcN (shd g s d.length ++ d)) ++ d.set (d.length - 1 - k) v)) rfl (by omega) (by omega) (by omega) (crcN_le _) hds
  refine snC_4 h1 h2 (by rw [n0, n1, n2, hl, List.length_set]; omega) ?_
  rw [n3, hh, hdd]
  exact fun h => hcr (by omega)
end Go.Proofs.YteiojpglhmikoaaDoor.Snap

