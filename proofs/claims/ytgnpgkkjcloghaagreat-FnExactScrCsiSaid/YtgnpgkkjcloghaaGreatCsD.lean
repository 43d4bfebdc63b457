/- What a control sequence makes of a screen's data. No function of the program is named. -/
import Derived.Test.YtgnpgkkjcloghaaGreatSgr
import Derived.Test.YtgnpgkkjcloghaaGreatKiS
set_option linter.unusedVariables false
namespace Go.Proofs.YtgnpgkkjcloghaaGreat.Sc
open Go.RowKit Bytes Rows_ RowK Gr DOk Opq Attr
def argV (zs : List Int) (i : Nat) (other : Int) : Int := match zs[i]? with
  | some z => if z = 0 then other else z
  | none => other
def argB (zs : List Int) : Bool := decide (zs.length ≤ 8) && zs.all fun z => decide (0 ≤ z ∧ z ≤ 9999)
theorem argB_t {zs : List Int} (h : argB zs = true) : zs.length ≤ 8 ∧ ∀ z ∈ zs, 0 ≤ z ∧ z ≤ 9999 := by
  unfold argB at h
  rw [Bool.and_eq_true, List.all_eq_true] at h
  exact ⟨of_decide_eq_true h.1, fun z hz => of_decide_eq_true (h.2 z hz)⟩
theorem argV_bd {zs : List Int} (h : argB zs = true) (i : Nat) {o lo hi : Int} (h0 : 0 ≤ lo) (h1 : lo ≤ 1) (h2 : 9999 ≤ hi) (ho : lo ≤ o ∧ o ≤ hi) : lo ≤ argV zs i o ∧ argV zs i o ≤ hi := by
  obtain ⟨_, hz⟩ := argB_t h
  unfold argV
  cases hg : zs[i]? with
  | none => exact ho
  | some z =>
    obtain ⟨hi', rfl⟩ := List.getElem?_eq_some_iff.1 hg
    have := hz _ (List.getElem_mem hi')
    show lo ≤ (if zs[i] = 0 then o else zs[i]) ∧ (if zs[i] = 0 then o else zs[i]) ≤ hi
    split
    · exact ho
    · omega
def atD (d : ScrD) : Nat := (d.y * d.w + d.x).toNat
def blD (d : ScrD) (lo m : Nat) : ScrD := putD d (over (shD d) lo (List.replicate m blankC))
def eraseD (d : ScrD) (lo hi : Nat) (k : Int) : ScrD := if k = 0 then blD d (atD d) (hi - atD d) else if k = 1 then blD d lo (atD d + 1 - lo) else if k = 2 then blD d lo (hi - lo) else d
def slideD (d : ScrD) (n : Int) : ScrD := putD d (over (shD d) (atD d) (shiftL (shD d) (atD d) (d.w - d.x).toNat n))
def x0W (d : ScrD) : ScrD := { d with x := 0, wrap := false }
def linesD (d : ScrD) (n : Int) : ScrD := if d.y < d.top ∨ d.bot < d.y then d else x0W (putD d (rollC d d.y d.bot n))
def attrD (d : ScrD) (a : AD) : ScrD := { d with fg := a.fg, bg := a.bg, b := a.b, u := a.u, t := a.t }
def curA (d : ScrD) : AD := ⟨d.fg, d.bg, d.b, d.u, d.t⟩
def edgeD (d : ScrD) (t u : Int) : ScrD := goD { d with top := t, bot := u } 0 0
def regionD (d : ScrD) (zs : List Int) : ScrD := if argV zs 1 d.h - 1 ≤ argV zs 0 1 - 1 ∨ d.h ≤ argV zs 1 d.h - 1 then d else edgeD d (argV zs 0 1 - 1) (argV zs 1 d.h - 1)
def tabsOff (d : ScrD) (k : Int) : ScrD := if k = 0 then tabsD d (d.tabs.filter fun x => !decide (x = d.x)) else if k = 3 then tabsD d [] else d
def onAltD (d : ScrD) : ScrD := { saveD d with onAlt := true, A := List.replicate d.A.length blankC }
def offAltD (d : ScrD) : ScrD := backD { d with onAlt := false }
def altD (d : ScrD) (on : Bool) : ScrD := if d.onAlt = on then d else if on then onAltD d else offAltD d
def noWrapD (d : ScrD) (on : Bool) : ScrD := { d with noWrap := !on, wrap := d.wrap && on }
def hideD (d : ScrD) (on : Bool) : ScrD := { d with hide := !on }
def modeD (d : ScrD) (m : Int) (on : Bool) : ScrD := if m = 7 then noWrapD d on else if m = 25 then hideD d on else if m = 1049 then altD d on else d
def modesD (d : ScrD) (zs : List Int) (on : Bool) : ScrD := zs.foldl (fun d m => modeD d m on) d
def csiP (d : ScrD) (zs : List Int) (b : Int) : ScrD :=
  if b = 65 then goD d d.x (d.y - argV zs 0 1) else if b = 66 then goD d d.x (d.y + argV zs 0 1)
  else if b = 67 then goD d (d.x + argV zs 0 1) d.y else if b = 68 then goD d (d.x - argV zs 0 1) d.y
  else if b = 71 then goD d (argV zs 0 1 - 1) d.y else if b = 100 then goD d d.x (argV zs 0 1 - 1)
  else if b = 72 ∨ b = 102 then goD d (argV zs 1 1 - 1) (argV zs 0 1 - 1)
  else if b = 74 then eraseD d 0 (d.w * d.h).toNat (argV zs 0 0) else if b = 75 then eraseD d (d.y * d.w).toNat (d.y * d.w + d.w).toNat (argV zs 0 0)
  else if b = 88 then blD d (atD d) (min (argV zs 0 1) (d.w - d.x)).toNat
  else if b = 64 then slideD d (argV zs 0 1) else if b = 80 then slideD d (-argV zs 0 1)
  else if b = 76 then linesD d (-argV zs 0 1) else if b = 77 then linesD d (argV zs 0 1)
  else if b = 83 then scrollD d (argV zs 0 1) else if b = 84 then scrollD d (-argV zs 0 1)
  else if b = 109 then attrD d (sgr (curA d) zs) else if b = 114 then regionD d zs else if b = 103 then tabsOff d (argV zs 0 0) else d
def csiD (d : ScrD) (mark : Bool) (zs : List Int) (b : Int) : ScrD :=
  if mark then (if b = 104 ∨ b = 108 then modesD d zs (decide (b = 104)) else d) else csiP d zs b
theorem at_fit {d : ScrD} {W H X Y T Bt L : Nat} (f : Fit d W H X Y T Bt L) : atD d = Y * W + X ∧ Y * W + X < W * H ∧ Y * W + W ≤ W * H := by
  have hx := f.x2; have hy := f.y2
  have h1 : Y * W + W ≤ H * W := by rw [← Nat.succ_mul]; exact Nat.mul_le_mul_right _ hy
  refine ⟨?_, ?_, ?_⟩
  · unfold atD; rw [f.y, f.x, f.w, ← Int.natCast_mul, ← Int.natCast_add, Int.toNat_natCast]
  · rw [Nat.mul_comm W H]; omega
  · rw [Nat.mul_comm W H]; exact h1
theorem sh_len {d : ScrD} {W H X Y T Bt L : Nat} (f : Fit d W H X Y T Bt L) : (shD d).length = W * H := by
  unfold shD; split
  · exact f.al
  · exact f.ml
theorem ok_bl {d : ScrD} (h : okD d = true) {lo m : Nat} (hl : lo + m ≤ (shD d).length) : okD (blD d lo m) = true :=
  ok_put h (over_len (by simpa using hl)) (all_over (ok_shall h) (List.all_eq_true.2 fun c hc => by rw [List.eq_of_mem_replicate hc]; exact okC_blank))
theorem ok_slide {d : ScrD} (h : okD d = true) (n : Int) : okD (slideD d n) = true := by
  obtain ⟨W, H, X, Y, T, Bt, L, f⟩ := ok_fit h
  obtain ⟨e1, e2, e3⟩ := at_fit f
  have hx := f.x2
  refine ok_put h (over_len ?_) (all_over (ok_shall h) (all_shift (ok_shall h) _ _ _))
  rw [shiftL_len, sh_len f, e1, f.w, f.x]; omega
theorem ok_erase {d : ScrD} (h : okD d = true) {lo hi : Nat} (k : Int) (h1 : lo ≤ hi) (h2 : hi ≤ (shD d).length) (h3 : lo ≤ atD d) (h4 : atD d < hi) : okD (eraseD d lo hi k) = true := by
  unfold eraseD
  split
  · exact ok_bl h (by omega)
  · split
    · exact ok_bl h (by omega)
    · split
      · exact ok_bl h (by omega)
      · exact h
theorem rollC_len2 {d : ScrD} {W H X Y T Bt L : Nat} (f : Fit d W H X Y T Bt L) (n : Int) (h1 : Y ≤ Bt) : (rollC d d.y d.bot n).length = (shD d).length := by
  unfold rollC
  refine over_len ?_
  rw [shiftL_len, sh_len f, f.y, f.bot, f.w]
  have hb := f.bh
  have e1 : ((Y : Int) * (W : Int)).toNat = Y * W := by rw [← Int.natCast_mul, Int.toNat_natCast]
  have e2 : (((Bt : Int) + 1 - (Y : Int)) * (W : Int)).toNat = (Bt + 1 - Y) * W := by
    rw [show (Bt : Int) + 1 - (Y : Int) = ((Bt + 1 - Y : Nat) : Int) by omega, ← Int.natCast_mul, Int.toNat_natCast]
  rw [e1, e2, ← Nat.add_mul, Nat.mul_comm W H]
  exact Nat.mul_le_mul_right _ (by omega)
theorem ok_x0W {d : ScrD} (h : okD d = true) : okD (x0W d) = true := by
  obtain ⟨W, H, X, Y, T, Bt, L, f⟩ := ok_fit h
  have := f.y; have := f.y2; have := f.h; have := f.w; have := f.w1
  exact ok_at h 0 d.y false (by omega) (by omega) (by simp)
theorem ok_lines {d : ScrD} (h : okD d = true) (n : Int) : okD (linesD d n) = true := by
  obtain ⟨W, H, X, Y, T, Bt, L, f⟩ := ok_fit h
  unfold linesD
  split
  · exact h
  · rename_i hn
    have hy := f.y; have hb := f.bot
    exact ok_x0W (ok_put h (rollC_len2 f n (by omega)) (rollC_all h _ _ _))
theorem ok_scroll {d : ScrD} (h : okD d = true) (n : Int) : okD (scrollD d n) = true := by
  obtain ⟨W, H, X, Y, T, Bt, L, f⟩ := ok_fit h
  have hl := rollC_len f n
  have ha := rollC_all h d.top d.bot n
  unfold scrollD
  cases keepsB d
  · exact ok_put h hl ha
  · have e : keptD d n = { d with rows := keepN L d.rows (rowsM d.M W (min n (d.bot + 1)).toNat) } := by unfold keptD; rw [f.lim, f.w]; rfl
    have hk : okD (keptD d n) = true := by rw [e]; exact ok_keepN h f (by have h1 := f.bot; have h2 := f.bh; omega)
    exact ok_put hk hl ha
theorem okA_one {a : AD} (h : okA a.fg a.bg = true) (n : Int) : okA (one a n).fg (one a n).bg = true := by
  have h' := okA_t h
  have hz : okA 0 a.bg = true := decide_eq_true (by omega)
  have hz2 : okA a.fg 0 = true := decide_eq_true (by omega)
  unfold one
  split
  · rfl
  · split
    · exact h
    · split
      · exact h
      · split
        · exact h
        · split
          · exact h
          · split
            · exact h
            · split
              · exact h
              · split
                · exact hz
                · split
                  · exact hz2
                  · split
                    · exact decide_eq_true (by show 0 ≤ n - 29 ∧ n - 29 ≤ 8 ∧ 0 ≤ a.bg ∧ a.bg ≤ 8; omega)
                    · split
                      · exact decide_eq_true (by show 0 ≤ a.fg ∧ a.fg ≤ 8 ∧ 0 ≤ n - 39 ∧ n - 39 ≤ 8; omega)
                      · exact h
theorem okA_sgrL : ∀ (l : List Int) (a : AD), okA a.fg a.bg = true → okA (sgrL a l).fg (sgrL a l).bg = true
  | [], a, h => h
  | z :: l, a, h => okA_sgrL l (one a z) (okA_one h z)
theorem okA_sgr (a : AD) (l : List Int) : okA (sgr a l).fg (sgr a l).bg = true := by
  unfold sgr
  split
  · rename_i h; exact okA_sgrL l a h.1
  · rfl
theorem ok_attr {d : ScrD} (h : okD d = true) {a : AD} (ha : okA a.fg a.bg = true) : okD (attrD d a) = true := by
  obtain ⟨h1, ⟨a1, a2, a3, a4, a5, a6, a7, a8, a9, a10, a11⟩, h2⟩ := okD_iff.1 h
  exact okD_t ⟨h1, ⟨a1, a2, a3, a4, a5, a6, a7, a8, a9, ha, a11⟩, h2⟩
theorem ok_edge {d : ScrD} (h : okD d = true) {t u : Int} (h0 : 0 ≤ t) (h1 : t < u) (h2 : u < d.h) : okD (edgeD d t u) = true := by
  obtain ⟨c1, c3, ⟨_, _, _, _, b1, b2, b3⟩, h4⟩ := okD_iff.1 h
  have hd : okD { d with top := t, bot := u } = true := okD_t ⟨c1, c3, ⟨h0, h2, by show t ≤ u; omega, (fun e => by have e : t = u := e; omega), b1, b2, b3⟩, h4⟩
  exact ok_go hd 0 0
theorem ok_region {d : ScrD} (h : okD d = true) {zs : List Int} (hz : argB zs = true) : okD (regionD d zs) = true := by
  unfold regionD
  split
  · exact h
  · have := (argV_bd hz 0 (o := 1) (lo := 1) (hi := 9999) (by omega) (by omega) (by omega) (by omega)).1
    exact ok_edge h (by omega) (by omega) (by omega)
theorem okT_filter (p : Int → Bool) (w : Int) : ∀ (l : List Int) (last : Int), okT last w l = true → ∀ q, q ≤ last → okT q w (l.filter p) = true
  | [], _, _, _, _ => rfl
  | z :: l, last, h, q, hq => by
    rw [okT, Bool.and_eq_true] at h
    have h1 := of_decide_eq_true h.1
    cases hp : p z
    · rw [List.filter_cons_of_neg (by rw [hp]; decide)]
      exact okT_filter p w l z h.2 q (by omega)
    · rw [List.filter_cons_of_pos hp, okT, okT_filter p w l z h.2 z (Int.le_refl _), Bool.and_true]
      exact decide_eq_true ⟨by omega, h1.2⟩
theorem ok_tabsOff {d : ScrD} (h : okD d = true) (k : Int) : okD (tabsOff d k) = true := by
  unfold tabsOff
  split
  · exact ok_tabsL h (okT_filter _ _ _ _ (okD_iff.1 h).2.2.2.1 _ (Int.le_refl _))
  · split
    · exact ok_tabsL h rfl
    · exact h
theorem ok_onAlt {d : ScrD} (h : okD d = true) : okD (onAltD d) = true := by
  have hs := ok_save h
  obtain ⟨⟨g1, g2, e1, e2, e3, e4⟩, h2⟩ := okD_iff.1 hs
  refine okD_t ⟨⟨g1, ?_, e1, e2, e3, e4⟩, h2⟩
  have g3 : okG d.aw d.ah d.A = true := g2
  show okG d.aw d.ah (List.replicate d.A.length blankC) = true
  unfold okG at g3 ⊢
  rw [Bool.and_eq_true, Bool.and_eq_true] at g3
  rw [g3.1, Bool.true_and, Bool.and_eq_true, List.length_replicate]
  exact ⟨g3.2.1, List.all_eq_true.2 fun c hc => by rw [List.eq_of_mem_replicate hc]; exact okC_blank⟩
theorem ok_offAlt {d : ScrD} (h : okD d = true) : okD (offAltD d) = true := ok_back (okD_t (okD_iff.1 h))
theorem ok_alt {d : ScrD} (h : okD d = true) (on : Bool) : okD (altD d on) = true := by
  unfold altD
  split
  · exact h
  · split
    · exact ok_onAlt h
    · exact ok_offAlt h
theorem ok_mode {d : ScrD} (h : okD d = true) (m : Int) (on : Bool) : okD (modeD d m on) = true := by
  unfold modeD
  split
  · obtain ⟨h1, ⟨a1, a2, a3, a4, a5, a6⟩, h2⟩ := okD_iff.1 h
    exact okD_t ⟨h1, ⟨a1, a2, a3, a4, (fun e => a5 (by have e : (d.wrap && on) = true := e; rw [Bool.and_eq_true] at e; exact e.1)), a6⟩, h2⟩
  · split
    · exact okD_t (okD_iff.1 h)
    · split
      · exact ok_alt h on
      · exact h
theorem ok_modes : ∀ (zs : List Int) {d : ScrD}, okD d = true → ∀ on, okD (modesD d zs on) = true
  | [], d, h, on => h
  | z :: zs, d, h, on => ok_modes zs (ok_mode h z on) on
theorem ok_ite {c : Prop} [Decidable c] {a b : ScrD} (ha : okD a = true) (hb : okD b = true) : okD (if c then a else b) = true := by split <;> assumption
theorem ok_csiP {d : ScrD} (h : okD d = true) {zs : List Int} (hz : argB zs = true) (b : Int) : okD (csiP d zs b) = true := by
  obtain ⟨W, H, X, Y, T, Bt, L, f⟩ := ok_fit h
  obtain ⟨e1, e2, e3⟩ := at_fit f
  have hx := f.x2
  have hl := sh_len f
  have n1 := argV_bd hz 0 (o := 1) (lo := 1) (hi := 9999) (by omega) (by omega) (by omega) (by omega)
  have w1 : (d.w * d.h).toNat = W * H := by rw [f.w, f.h, ← Int.natCast_mul, Int.toNat_natCast]
  have w2 : (d.y * d.w).toNat = Y * W := by rw [f.w, f.y, ← Int.natCast_mul, Int.toNat_natCast]
  have w3 : (d.y * d.w + d.w).toNat = Y * W + W := by rw [f.w, f.y, ← Int.natCast_mul, ← Int.natCast_add, Int.toNat_natCast]
  have w4 : (min (argV zs 0 1) (d.w - d.x)).toNat ≤ W - X := by rw [f.w, f.x]; omega
  unfold csiP
  refine ok_ite (ok_go h _ _) (ok_ite (ok_go h _ _) (ok_ite (ok_go h _ _) (ok_ite (ok_go h _ _) (ok_ite (ok_go h _ _) (ok_ite (ok_go h _ _) (ok_ite (ok_go h _ _) ?_))))))
  refine ok_ite ?_ (ok_ite ?_ (ok_ite (ok_bl h (by omega)) (ok_ite (ok_slide h _) (ok_ite (ok_slide h _) (ok_ite (ok_lines h _) (ok_ite (ok_lines h _) (ok_ite (ok_scroll h _) (ok_ite (ok_scroll h _) (ok_ite (ok_attr h (okA_sgr _ _)) (ok_ite (ok_region h hz) (ok_ite (ok_tabsOff h _) h)))))))))))
  · rw [w1]; exact ok_erase h _ (by omega) (by omega) (by omega) (by omega)
  · rw [w2, w3]; exact ok_erase h _ (by omega) (by omega) (by omega) (by omega)
theorem ok_csi {d : ScrD} (h : okD d = true) (mark : Bool) {zs : List Int} (hz : argB zs = true) (b : Int) : okD (csiD d mark zs b) = true := by
  unfold csiD
  split
  · split
    · exact ok_modes zs h _
    · exact h
  · exact ok_csiP h hz b
end Go.Proofs.YtgnpgkkjcloghaaGreat.Sc
