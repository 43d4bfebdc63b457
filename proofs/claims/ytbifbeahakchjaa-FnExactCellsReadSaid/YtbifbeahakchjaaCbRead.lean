/- Reading runs of cells out of bytes: plain functions over lists; nothing of the program is named. -/
import Derived.Test.YtbifbeahakchjaaCbPlain
namespace Go.Proofs.Ytbifbeahakchjaa.Cb
open Go.Proofs.Ytbifbeahakchjaa.Gr Go.Proofs.Ytbifbeahakchjaa.Var Go.Proofs.Ytbifbeahakchjaa.Attr Go.Proofs.Ytbifbeahakchjaa.Rune
set_option linter.unusedVariables false
/-- the offsets and numbers of a run at p -/
def cQ (zs : List Int) (p : Int) : Int := gvE zs p
def cX (zs : List Int) (p : Int) : Int := gvE zs (cQ zs p)
def cY (zs : List Int) (p : Int) : Int := gvE zs (cX zs p)
def cK (zs : List Int) (p : Int) : Int := gvN zs p
def cA (zs : List Int) (p : Int) : Int := gvN zs (cX zs p)
def atC (r n : Int) : CellD := ⟨r, n / 8 % 9, n / 72, n % 2 == 1, n / 2 % 2 == 1, n / 4 % 2 == 1⟩
def cC (zs : List Int) (p : Int) : CellD := atC (gvN zs (cQ zs p)) (cA zs p)
def hOk (zs : List Int) (p : Int) : Bool := gvOk zs p && (gvOk zs (cQ zs p) && (gvOk zs (cX zs p) && decide (cA zs p < 648)))
/-- runs at p that make n cells -/
def rs (zs : List Int) : Nat → Int → Nat → Option (List (Nat × CellD) × Int)
  | _, p, 0 => some ([], p)
  | 0, _, _ + 1 => none
  | f + 1, p, n + 1 => if (hOk zs p && decide (1 ≤ cK zs p ∧ cK zs p ≤ (n : Int) + 1)) = true then (rs zs f (cY zs p) (n + 1 - (cK zs p).toNat)).map fun q => (((cK zs p).toNat, cC zs p) :: q.1, q.2) else none
/-- the same, and every run is one that the encoding writes -/
def rd (zs : List Int) : Nat → Option CellD → Int → Nat → Option (List (Nat × CellD) × Int)
  | _, _, p, 0 => some ([], p)
  | 0, _, _, _ + 1 => none
  | f + 1, last, p, n + 1 => if (hOk zs p && decide (1 ≤ cK zs p ∧ cK zs p ≤ (n : Int) + 1)) = true ∧ (showB (cC zs p).r && newC last (cC zs p)) = true then (rd zs f (some (cC zs p)) (cY zs p) (n + 1 - (cK zs p).toNat)).map fun q => (((cK zs p).toNat, cC zs p) :: q.1, q.2) else none
theorem rd_rs (zs : List Int) : ∀ (f : Nat) (last : Option CellD) (p : Int) (n : Nat), rd zs f last p n = (rs zs f p n).bind fun q => if goodR last q.1 = true then some q else none
  | 0, last, p, 0 => by simp [rd, rs, goodR]
  | f + 1, last, p, 0 => by simp [rd, rs, goodR]
  | 0, last, p, n + 1 => by simp [rd, rs]
  | f + 1, last, p, n + 1 => by
    rw [rd, rs]
    by_cases h1 : (hOk zs p && decide (1 ≤ cK zs p ∧ cK zs p ≤ (n : Int) + 1)) = true
    · rw [if_pos h1, rd_rs zs f]
      by_cases h2 : (showB (cC zs p).r && newC last (cC zs p)) = true
      · rw [if_pos ⟨h1, h2⟩]
        cases rs zs f (cY zs p) (n + 1 - (cK zs p).toNat) with
        | none => rfl
        | some q =>
          simp only [Option.bind_some, Option.map_some]
          have e : goodR last (((cK zs p).toNat, cC zs p) :: q.1) = goodR (some (cC zs p)) q.1 := by
            rw [Bool.and_eq_true] at h2
            unfold goodR; rw [h2.1, h2.2]; cases q.1 <;> simp [goodR]
          rw [e]
          by_cases hg : goodR (some (cC zs p)) q.1 = true
          · rw [if_pos hg, if_pos hg]; rfl
          · rw [if_neg hg, if_neg hg]; rfl
      · rw [if_neg (fun h => h2 h.2)]
        cases rs zs f (cY zs p) (n + 1 - (cK zs p).toNat) with
        | none => rfl
        | some q =>
          simp only [Option.bind_some, Option.map_some]
          have e : goodR last (((cK zs p).toNat, cC zs p) :: q.1) = false := by
            unfold goodR; rw [← Bool.and_assoc]
            rw [show (showB (cC zs p).r && newC last (cC zs p)) = false by simpa using h2]; rfl
          rw [e]; simp
    · rw [if_neg h1, if_neg (fun h => h1 h.1)]; rfl
/-! ### one step of each reading -/
theorem rs_zero (zs : List Int) (f : Nat) (p : Int) : rs zs f p 0 = some ([], p) := by cases f <;> rfl
theorem rd_zero (zs : List Int) (f : Nat) (last : Option CellD) (p : Int) : rd zs f last p 0 = some ([], p) := by cases f <;> rfl
/-! ### what the bytes of a run are -/
theorem gv_seg {zs : List Int} {a : Nat} (hg : ∀ z ∈ zs, 0 ≤ z ∧ z < 256) (h : gvOk zs (a : Int) = true) : ∃ b : Nat, gvE zs (a : Int) = (b : Int) ∧ a ≤ b ∧ b ≤ zs.length ∧ 0 ≤ gvN zs (a : Int) ∧ gvN zs (a : Int) ≤ 4294967295 ∧ zs.drop a = vEnc (gvN zs (a : Int)).toNat ++ zs.drop b := by
  have h' := h
  unfold gvOk at h'
  rw [Int.toNat_natCast] at h'
  obtain ⟨h0, h1, h2, h3, h4, h5⟩ := of_decide_eq_true h'
  obtain ⟨_, e1, e2⟩ := gv_yes (by omega) h2 h3 h4 h5
  have hs := (seg_enc zs a (gvk zs a) hg h3 (fun j hj => gvk_big zs a j hj) (gvk_end zs a h3)).2 h4
  refine ⟨a + gvk zs a + 1, by rw [e2]; omega, by omega, by omega, by rw [e1]; omega, by rw [e1]; omega, ?_⟩
  rw [e1, Int.toNat_natCast, hs]
  unfold seg
  rw [show a + gvk zs a + 1 = a + (gvk zs a + 1) by omega, ← List.drop_drop, List.take_append_drop]
theorem numC_atC (r n : Int) (h0 : 0 ≤ n) (h1 : n < 648) : numC (atC r n) = n.toNat ∧ okA (atC r n).fg (atC r n).bg = true := by
  have ho : okA (atC r n).fg (atC r n).bg = true := by
    unfold okA atC; exact decide_eq_true ⟨by show 0 ≤ n / 8 % 9; omega, by show n / 8 % 9 ≤ 8; omega, by show 0 ≤ n / 72; omega, by show n / 72 ≤ 8; omega⟩
  refine ⟨?_, ho⟩
  unfold numC
  rw [anV_yes _ _ _ ho]
  congr 1
  show n / 72 * 72 + n / 8 % 9 * 8 + bi (n % 2 == 1) 1 + bi (n / 2 % 2 == 1) 2 + bi (n / 4 % 2 == 1) 4 = n
  have hb : ∀ (z m : Int), bi (z == 1) m = if z = 1 then m else 0 := by intro z m; unfold bi; simp
  rw [hb, hb, hb]
  split <;> split <;> split <;> omega
theorem hd_seg {zs : List Int} {a : Nat} (hg : ∀ z ∈ zs, 0 ≤ z ∧ z < 256) (h : hOk zs (a : Int) = true) : ∃ b : Nat, cY zs (a : Int) = (b : Int) ∧ a ≤ b ∧ b ≤ zs.length ∧ 0 ≤ cK zs a ∧ cK zs a ≤ 4294967295 ∧ 0 ≤ (cC zs a).r ∧ zs.drop a = encC (cK zs a).toNat (cC zs a) ++ zs.drop b := by
  unfold hOk at h
  rw [Bool.and_eq_true, Bool.and_eq_true, Bool.and_eq_true] at h
  obtain ⟨h1, h2, h3, h4⟩ := h
  obtain ⟨q, e1, l1, m1, k1, k1', s1⟩ := gv_seg hg h1
  have e1' : cQ zs (a : Int) = (q : Int) := e1
  rw [e1'] at h2
  obtain ⟨x, e2, l2, m2, k2, k2', s2⟩ := gv_seg hg h2
  have e2' : cX zs (a : Int) = (x : Int) := by unfold cX; rw [e1', e2]
  rw [e2'] at h3
  obtain ⟨y, e3, l3, m3, k3, k3', s3⟩ := gv_seg hg h3
  have e3' : cY zs (a : Int) = (y : Int) := by unfold cY; rw [e2', e3]
  have h4' := of_decide_eq_true h4
  have ea : cA zs (a : Int) = gvN zs (x : Int) := by unfold cA; rw [e2']
  have er : (cC zs (a : Int)).r = gvN zs (q : Int) := by unfold cC atC; rw [e1']
  refine ⟨y, e3', by omega, m3, k1, k1', by rw [er]; exact k2, ?_⟩
  have en : numC (cC zs (a : Int)) = (gvN zs (x : Int)).toNat := by
    unfold cC; rw [(numC_atC _ _ (by rw [ea]; exact k3) h4').1, ea]
  unfold encC
  rw [en, er, List.append_assoc, List.append_assoc, ← s3, ← s2]
  exact s1
theorem rs_seg {zs : List Int} (hg : ∀ z ∈ zs, 0 ≤ z ∧ z < 256) : ∀ (f : Nat) (a n : Nat) (R : List (Nat × CellD)) (e : Int), a ≤ zs.length → rs zs f (a : Int) n = some (R, e) →
    ∃ b : Nat, e = (b : Int) ∧ a ≤ b ∧ b ≤ zs.length ∧ (expand R).length = n ∧ (∀ p ∈ R, 1 ≤ p.1) ∧ zs.drop a = encRs R ++ zs.drop b
  | 0, a, 0, R, e, ha, h => by
    rw [rs_zero] at h; injection h with h; injection h with h1 h2; subst h1 h2
    exact ⟨a, rfl, Nat.le_refl _, ha, rfl, by simp, by simp [encRs]⟩
  | f + 1, a, 0, R, e, ha, h => by
    rw [rs_zero] at h; injection h with h; injection h with h1 h2; subst h1 h2
    exact ⟨a, rfl, Nat.le_refl _, ha, rfl, by simp, by simp [encRs]⟩
  | 0, a, n + 1, R, e, ha, h => by simp [rs] at h
  | f + 1, a, n + 1, R, e, ha, h => by
    rw [rs] at h
    by_cases h1 : (hOk zs (a : Int) && decide (1 ≤ cK zs (a : Int) ∧ cK zs (a : Int) ≤ (n : Int) + 1)) = true
    · rw [if_pos h1] at h
      rw [Bool.and_eq_true] at h1
      have h2 := of_decide_eq_true h1.2
      obtain ⟨b, e1, l1, m1, k1, k1', r1, s1⟩ := hd_seg hg h1.1
      rw [e1] at h
      cases hr : rs zs f (b : Int) (n + 1 - (cK zs (a : Int)).toNat) with
      | none => rw [hr] at h; simp at h
      | some q =>
        rw [hr] at h
        simp only [Option.map_some] at h
        injection h with h; injection h with h3 h4
        subst h3 h4
        obtain ⟨d, e5, l5, m5, n5, p5, s5⟩ := rs_seg hg f b _ q.1 q.2 m1 hr
        refine ⟨d, e5, by omega, m5, ?_, ?_, ?_⟩
        · rw [expand_cons, List.length_append, List.length_replicate, n5]; omega
        · intro p hp
          rcases List.mem_cons.1 hp with rfl | hp
          · show 1 ≤ (cK zs (a : Int)).toNat; omega
          · exact p5 p hp
        · rw [s1, s5, encRs_cons, List.append_assoc]
    · rw [if_neg h1] at h; cases h
theorem rs_okA {zs : List Int} (hg : ∀ z ∈ zs, 0 ≤ z ∧ z < 256) : ∀ (f : Nat) (a n : Nat) (R : List (Nat × CellD)) (e : Int), rs zs f (a : Int) n = some (R, e) → ∀ p ∈ R, okA p.2.fg p.2.bg = true
  | 0, a, 0, R, e, h => by rw [rs_zero] at h; injection h with h; injection h with h1 h2; subst h1; simp
  | f + 1, a, 0, R, e, h => by rw [rs_zero] at h; injection h with h; injection h with h1 h2; subst h1; simp
  | 0, a, n + 1, R, e, h => by simp [rs] at h
  | f + 1, a, n + 1, R, e, h => by
    rw [rs] at h
    by_cases h1 : (hOk zs (a : Int) && decide (1 ≤ cK zs (a : Int) ∧ cK zs (a : Int) ≤ (n : Int) + 1)) = true
    · rw [if_pos h1] at h
      rw [Bool.and_eq_true] at h1
      obtain ⟨b, e1, l1, m1, k1, k1', r1, s1⟩ := hd_seg hg h1.1
      rw [e1] at h
      have h7 := h1.1
      unfold hOk at h7
      rw [Bool.and_eq_true, Bool.and_eq_true, Bool.and_eq_true] at h7
      have h8 := of_decide_eq_true h7.2.2.2
      have h9 : 0 ≤ cA zs (a : Int) := by
        unfold cA gvN; split <;> omega
      cases hr : rs zs f (b : Int) (n + 1 - (cK zs (a : Int)).toNat) with
      | none => rw [hr] at h; simp at h
      | some q =>
        rw [hr] at h
        simp only [Option.map_some] at h
        injection h with h; injection h with h3 h4
        subst h3 h4
        intro p hp
        rcases List.mem_cons.1 hp with rfl | hp
        · exact (numC_atC _ _ h9 h8).2
        · exact rs_okA hg f b _ q.1 q.2 hr p hp
    · rw [if_neg h1] at h; cases h
theorem good_show : ∀ (R : List (Nat × CellD)) (last : Option CellD), goodR last R = true → ∀ p ∈ R, showB p.2.r = true
  | [], _, _ => by simp
  | (k, c) :: R, last, hg => by
    unfold goodR at hg
    rw [Bool.and_eq_true, Bool.and_eq_true] at hg
    intro p hp
    rcases List.mem_cons.1 hp with rfl | hp
    · exact hg.1
    · exact good_show R (some c) hg.2.2 p hp
/-- what both answer -/
def crV (zs : List Int) (at_ n : Int) : Option (List (Nat × CellD) × Int) := if 0 ≤ at_ ∧ at_ ≤ zs.length ∧ 0 ≤ n ∧ n ≤ 4000 then rd zs n.toNat none at_ n.toNat else none
/-- the model's last test says just whether the runs are ones that the encoding writes -/
theorem last_test {zs : List Int} (hg : ∀ z ∈ zs, 0 ≤ z ∧ z < 256) {f a n : Nat} {R : List (Nat × CellD)} {e : Int} (ha : a ≤ zs.length) (h : rs zs f (a : Int) n = some (R, e)) :
    goodR none R = ((expand R).all okC && decide (encR (expand R) = (zs.drop a).take (e.toNat - a))) := by
  obtain ⟨b, rfl, l1, m1, n1, p1, s1⟩ := rs_seg hg f a n R e ha h
  have hlen : (encRs R).length = b - a := by
    have := congrArg List.length s1
    rw [List.length_append, List.length_drop, List.length_drop] at this; omega
  have hseg : (zs.drop a).take (b - a) = encRs R := by rw [s1, ← hlen, List.take_left]
  rw [Int.toNat_natCast, hseg]
  have hs : (expand R).all okC = true ↔ ∀ p ∈ R, showB p.2.r = true := by
    rw [List.all_eq_true]
    constructor
    · intro h2 p hp
      have h3 := h2 p.2 (by unfold expand; rw [List.mem_flatMap]; exact ⟨p, hp, List.mem_replicate.2 ⟨by have := p1 p hp; omega, rfl⟩⟩)
      unfold okC at h3
      rw [Bool.and_eq_true] at h3; exact h3.1
    · intro h2 x hx
      unfold expand at hx
      rw [List.mem_flatMap] at hx
      obtain ⟨p, hp, hx⟩ := hx
      obtain ⟨_, rfl⟩ := List.mem_replicate.1 hx
      have h3 := h2 p hp
      unfold okC
      rw [h3, Bool.true_and]
      exact rs_okA hg f a n R _ h p hp
  cases hgd : goodR none R
  · cases hall : (expand R).all okC
    · rfl
    · rw [Bool.true_and]
      symm
      rw [decide_eq_false_iff_not]
      intro he
      rw [enc_good R none p1 (hs.1 hall) (fun _ _ _ _ => rfl) he] at hgd
      cases hgd
  · have hall : (expand R).all okC = true := hs.2 (good_show R none hgd)
    rw [hall, good_enc R none p1 hgd]; simp
end Go.Proofs.Ytbifbeahakchjaa.Cb
