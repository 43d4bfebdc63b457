/- The laws' helpers over slices of acts: marks, and what holds them. -/
import Derived.Test.YtfdbmhelcmifoaaDoorVbE
namespace Go.Proofs.YtfdbmhelcmifoaaDoor.Vp
open Go.RowKit Go.Proofs.YtfdbmhelcmifoaaDoor.Bytes Go.Proofs.YtfdbmhelcmifoaaDoor.DOk Go.Proofs.YtfdbmhelcmifoaaDoor.Rune Go.Proofs.YtfdbmhelcmifoaaDoor.RowK Go.Proofs.YtfdbmhelcmifoaaDoor.Gr
set_option linter.unusedVariables false
attribute [local go_sem ↓] Go.wp_at_zero Go.wp_at_succ
def markD (m : Int) (d : ActD) : ActD := ⟨m, m + 1, (m + 1 + 1) % 3 == 0, d.A, d.n, d.c, marksN d.n (m + 1 + 1 + 1)⟩
def msum (m : Int) (ds : List ActD) : Int := ds.foldl (fun m d => m + 1 + 1 + 1 + d.n) m
def markL : Int → List ActD → List ActD
  | _, [] => []
  | m, d :: t => markD m d :: markL (m + 1 + 1 + 1 + d.n) t
theorem msum_snoc (m : Int) (ds : List ActD) (d : ActD) : msum m (ds ++ [d]) = msum m ds + 1 + 1 + 1 + d.n := by unfold msum; rw [List.foldl_append]; rfl
theorem markL_snoc : ∀ (m : Int) (ds : List ActD) (d : ActD), markL m (ds ++ [d]) = markL m ds ++ [markD (msum m ds) d]
  | _, [], _ => rfl
  | m, e :: t, d => by show markD m e :: markL _ (t ++ [d]) = _; rw [markL_snoc _ t d]; rfl
theorem markL_len : ∀ (m : Int) (ds : List ActD), (markL m ds).length = ds.length
  | _, [] => rfl
  | m, e :: t => by show (markL _ t).length + 1 = _; rw [markL_len]; rfl
def tri (d : ActD) : Option Addr × Nat × Nat := (d.A, d.n, d.c)
theorem markL_tri : ∀ (m : Int) (ds : List ActD), (markL m ds).map tri = ds.map tri
  | _, [] => rfl
  | m, e :: t => by show tri (markD m e) :: (markL _ t).map tri = _; rw [markL_tri]; rfl
theorem msum_ge {m : Int} : ∀ (ds : List ActD), m ≤ msum m ds := by
  intro ds
  unfold msum
  induction ds generalizing m with
  | nil => exact Int.le_refl _
  | cons d t ih => exact Int.le_trans (by omega) (ih (m := m + 1 + 1 + 1 + d.n))
theorem msum_le {m : Int} {ds : List ActD} (h : ∀ d ∈ ds, d.n ≤ 8) : msum m ds ≤ m + 11 * ds.length := by
  unfold msum
  induction ds generalizing m with
  | nil => simp
  | cons d t ih =>
    have h1 := ih (m := m + 1 + 1 + 1 + d.n) (fun e he => h e (by simp [he]))
    have h2 := h d (by simp)
    simp only [List.foldl_cons, List.length_cons]
    omega
theorem sep_same {ds ds' : List ActD} (h : ds.Pairwise fun d e => ∀ i, Blk d.A d.n d.c i → ¬ Blk e.A e.n e.c i) (e : ds.map tri = ds'.map tri) : ds'.Pairwise fun d e => ∀ i, Blk d.A d.n d.c i → ¬ Blk e.A e.n e.c i := by
  have h1 : (ds.map tri).Pairwise fun (x y : Option Addr × Nat × Nat) => ∀ i, Blk x.1 x.2.1 x.2.2 i → ¬ Blk y.1 y.2.1 y.2.2 i := List.pairwise_map.2 h
  rw [e] at h1
  exact List.pairwise_map.1 h1
theorem act_set3 {w : World} {base f n c : Nat} {pre post : List ActD} {d : ActD} (h : OwnF4 w base (some ⟨f, 0, none⟩) n c (pre ++ [d] ++ post)) (k : Nat) (hk : pre.length = k) (x y : Int) (b : Bool) (zs : List Int) :
    OwnF4 (((w.setCell ⟨f, k * 4, none⟩ (.int .i64 x)).setCell ⟨f, k * 4 + 1, none⟩ (.int .i64 y)).setCell ⟨f, k * 4 + 2, none⟩ (.bool b)) base (some ⟨f, 0, none⟩) n c (pre ++ [⟨x, y, b, d.A, d.n, d.c, zs⟩] ++ post) := by
  have hp : (pre.map actR).flatten.length = k * 4 := by
    rw [flat_len 4 _ (by intro r hr; obtain ⟨d, _, rfl⟩ := List.mem_map.1 hr; rfl)]; simp [hk]
  have e0 : ∀ z : ActD, ((pre ++ [z] ++ post).map actR).flatten = (pre.map actR).flatten ++ actR z ++ (post.map actR).flatten := fun z => by simp
  unfold OwnF4 at h ⊢
  rw [e0] at h ⊢
  have h1 := (World.ownsRow.stored (h := h) (k * 4 + 0) (.int .i64 x)).1
  rw [set_mid _ _ _ (k * 4) 0 hp (by rw [actR_len]; omega)] at h1
  have h2 := (World.ownsRow.stored (h := h1) (k * 4 + 1) (.int .i64 y)).1
  rw [set_mid _ _ _ (k * 4) 1 hp (by simp [actR_len])] at h2
  have h3 := (World.ownsRow.stored (h := h2) (k * 4 + 2) (.bool b)).1
  rw [set_mid _ _ _ (k * 4) 2 hp (by simp [actR_len])] at h3
  exact h3
/-- the blocks of acts' arguments -/
def BlkAs (ds : List ActD) (i : Nat) : Prop := ∃ d ∈ ds, Blk d.A d.n d.c i
theorem pair_mid {R : ActD → ActD → Prop} {pre post : List ActD} {d : ActD} (h : (pre ++ [d] ++ post).Pairwise R) : (∀ a ∈ pre, R a d) ∧ (∀ b ∈ post, R d b) := by
  rw [List.append_assoc, List.pairwise_append] at h
  refine ⟨fun a ha => h.2.2 a ha d (by simp), ?_⟩
  have h2 := h.2.1
  rw [List.singleton_append, List.pairwise_cons] at h2
  exact h2.1
/-- one act marked -/
theorem mark_one {w W w2 : World} {base f n c : Nat} {pre post : List ActD} {d : ActD} {x y : Int} {b : Bool} {zs : List Int} (k : Nat) (hk : pre.length = k) (h : OwnF4 w base (some ⟨f, 0, none⟩) n c (pre ++ [d] ++ post)) (hA : OwnAs w base (pre ++ [d] ++ post))
    (hW : W = ((w.setCell ⟨f, k * 4, none⟩ (.int .i64 x)).setCell ⟨f, k * 4 + 1, none⟩ (.int .i64 y)).setCell ⟨f, k * 4 + 2, none⟩ (.bool b)) (ho : OwnI w2 base d.A d.n d.c zs) (hg : W.grownBy w2 (Value.slice d.A d.n d.c).ownBlock) :
    OwnF4 w2 base (some ⟨f, 0, none⟩) n c (pre ++ [⟨x, y, b, d.A, d.n, d.c, zs⟩] ++ post) ∧ OwnAs w2 base (pre ++ [⟨x, y, b, d.A, d.n, d.c, zs⟩] ++ post) ∧ Only (fun i => i = f ∨ Blk d.A d.n d.c i) w w2 := by
  have h3 := act_set3 h k hk x y b zs
  rw [← hW] at h3
  have hf : ∀ e ∈ pre ++ [d] ++ post, ¬ Blk e.A e.n e.c f := fun e he hb => own4_ne h (hA.own e he) f rfl hb
  have hd : d ∈ pre ++ [d] ++ post := by simp
  have on1 : Only (fun i => i = f) w W := by
    have oc := fun (W : World) (j : Nat) (v : Value) => Only.cell_ (S := fun i => i = f) W f j v rfl
    rw [hW]; exact ((oc w (k * 4) _).trans (oc _ (k * 4 + 1) _)).trans (oc _ (k * 4 + 2) _)
  have on2 : Only (fun i => Blk d.A d.n d.c i) W w2 := Only.grown hg fun i hi => hi
  have hsep := pair_mid hA.sep
  refine ⟨Only.own h3 on2 fun i h1 h2 => ?_, ⟨fun e he => ?_, sep_same hA.sep (by simp [tri])⟩, (on1.mono fun i hi => .inl hi).trans (on2.mono fun i hi => .inr hi)⟩
  · have : i = f := by simp only [Value.ownBlock, Option.some.injEq] at h1; exact h1.symm
    subst this; exact hf d hd h2
  · rcases List.mem_append.1 he with he | he
    · rcases List.mem_append.1 he with he | he
      · have h5 := hA.own e (by simp [he])
        have h6 : OwnI W base e.A e.n e.c e.zs := Only.own h5 on1 fun i h1 h2 => by subst h2; exact hf e (by simp [he]) h1
        exact Only.own h6 on2 fun i h1 h2 => hsep.1 e he i h1 h2
      · simp at he; subst he; exact ho
    · have h5 := hA.own e (by simp [he])
      have h6 : OwnI W base e.A e.n e.c e.zs := Only.own h5 on1 fun i h1 h2 => by subst h2; exact hf e (by simp [he]) h1
      exact Only.own h6 on2 fun i h1 h2 => hsep.2 e he i h2 h1
set_option maxRecDepth 100000 in
set_option maxHeartbeats 3200000 in
theorem markActS_any (F : Option Addr) (n c base : Nat) (ds : List ActD) (m : Int) (w : World) (h : OwnF4 w base F n c ds) (hA : OwnAs w base ds) (h8 : ∀ d ∈ ds, d.n ≤ 8) (hn : n ≤ 2097152) (h0 : 0 ≤ m) (h1 : m ≤ 1048576) :
    Calls Tryd.prog 27 #[.slice F n c, .int .i64 m] w fun e w' => e = .returned (.int .i64 (msum m ds)) ∧ OwnF4 w' base F n c (markL m ds) ∧ OwnAs w' base (markL m ds) ∧ Only (fun i => Blk F n c i ∨ BlkAs ds i) w w' := by
  have HL := Lib.hid (ownF4_len h)
  have H8 := Lib.hid h8
  have H := Lib.hid h
  have HA := Lib.hid hA
  clear h hA h8
  go_enter Tryd.func27, Tryd.ntmps27
  go_wp2_with fail
  go_loopw [1, 5] (fun mm i wr => ∃ k : Nat, k ≤ n ∧ i = .int .i64 k ∧ mm = .int .i64 (msum m (ds.take k)) ∧ OwnF4 wr base F n c (markL m (ds.take k) ++ ds.drop k) ∧ OwnAs wr base (markL m (ds.take k) ++ ds.drop k) ∧ Only (fun i => Blk F n c i ∨ BlkAs ds i) w wr) (fun _ i _ => n - (intOf i).toNat)
  case atStart => exact ⟨0, Nat.zero_le _, rfl, rfl, H.out, HA.out, Only.refl _ _⟩
  case round =>
    clear H HA
    obtain ⟨k, hk, rfl, rfl, h4, hAs, on⟩ := hrel
    have H4 := Lib.hid h4
    have HAS := Lib.hid hAs
    have HON := Lib.hid on
    clear h4 hAs on
    by_cases hlt : k < n
    · have hkl : k < ds.length := by rw [HL.out]; exact hlt
      obtain ⟨d, hd⟩ : ∃ d, d = ds[k] := ⟨_, rfl⟩
      have hdm : d ∈ ds := by rw [hd]; exact List.getElem_mem hkl
      have hdr : ds.drop k = [d] ++ ds.drop (k + 1) := by rw [hd, List.drop_eq_getElem_cons hkl]; rfl
      have htk : ds.take (k + 1) = ds.take k ++ [d] := by rw [hd, List.take_succ_eq_append_getElem hkl]
      have h4 := H4.out
      have hAs := HAS.out
      rw [hdr, ← List.append_assoc] at h4 hAs
      have hpl : (markL m (ds.take k)).length = k := by rw [markL_len, List.length_take]; omega
      have hd8 := H8.out d hdm
      have hms : msum m (ds.take (k + 1)) = msum m (ds.take k) + 1 + 1 + 1 + d.n := by rw [htk, msum_snoc]
      have hml : markL m (ds.take (k + 1)) = markL m (ds.take k) ++ [markD (msum m (ds.take k)) d] := by rw [htk, markL_snoc]
      have hge : m ≤ msum m (ds.take k) := msum_ge _
      have hle : msum m (ds.take k) ≤ m + 11 * k := by
        have := msum_le (m := m) (ds := ds.take k) (fun e he => H8.out e (List.mem_of_mem_take he)); rw [List.length_take] at this; omega
      obtain ⟨x, hx⟩ : ∃ x, x = msum m (ds.take k) := ⟨_, rfl⟩
      rw [← hx] at hms hml hge hle
      rw [← hx]
      obtain ⟨f, rfl, hf⟩ := act_addr h4 (by omega)
      have hget : (markL m (ds.take k) ++ [d] ++ ds.drop (k + 1))[k]? = some d := by
        rw [List.append_assoc, List.getElem?_append_right (by omega), hpl]; simp
      obtain ⟨c0, c1, c2, c3⟩ := act_cells h4 hget
      have f0 := World.ownsRow.frozenAt (h := h4) (k * 4)
      have f1 := World.ownsRow.frozenAt (h := h4) (k * 4 + 1)
      have f2 := World.ownsRow.frozenAt (h := h4) (k * 4 + 2)
      have ho3 : OwnI (((wr.setCell ⟨f, k * 4, none⟩ (.int .i64 x)).setCell ⟨f, k * 4 + 1, none⟩ (.int .i64 (x + 1))).setCell ⟨f, k * 4 + 2, none⟩ (.bool (((x + 1 + 1) % 3 == 0)))) base d.A d.n d.c d.zs := by
        have h5 := hAs.own d (by simp)
        have hne : (Value.slice d.A d.n d.c).ownBlock ≠ some f := fun e => own4_ne h4 h5 f rfl e
        exact own_setNe (own_setNe (own_setNe h5 f _ _ hne) f _ _ hne) f _ _ hne
      have HM := Lib.hid (markIntS_own d.A d.n d.c base d.zs (x + 1 + 1 + 1) _ ho3 (by omega) (by omega) (by omega))
      have HK := Lib.hid (fun w2 (h5 : OwnI w2 base d.A d.n d.c (marksN d.n (x + 1 + 1 + 1))) hg => mark_one (w2 := w2) (x := x) (y := x + 1) (b := ((x + 1 + 1) % 3 == 0)) k hpl h4 hAs rfl h5 hg)
      have HMS := Lib.hid hms
      have HML := Lib.hid hml
      have HDM := Lib.hid hdm
      have hx0 : 0 ≤ x := by omega
      have hx1 : x ≤ 100000000 := by omega
      clear hd hdm hdr htk h4 hAs hpl hms hml hge hle hx hget ho3 hkl hd8
      go_wp2_with fail
      refine HM.out.mono ?_
      rintro e w2 ⟨rfl, h5, hg⟩
      obtain ⟨q1, q2, q3⟩ := HK.out w2 h5 hg
      have Q1 := Lib.hid q1
      have Q2 := Lib.hid q2
      have Q3 := Lib.hid (HON.out.trans (q3.mono (T := fun i => Blk (some ⟨f, 0, none⟩) n c i ∨ BlkAs ds i) fun i hi => hi.elim (fun h => by subst h; exact .inl rfl) (fun h => .inr ⟨d, HDM.out, h⟩)))
      clear h5 hg q1 q2 q3
      go_wp2_with fail
      refine ⟨⟨k + 1, by omega, by go_num, by rw [HMS.out], ?_, ?_, Q3.out⟩, by simp [intOf]; omega⟩
      · rw [HML.out]; exact Q1.out
      · rw [HML.out]; exact Q2.out
    · obtain rfl : k = n := by omega
      have h4 := H4.out
      have hAs := HAS.out
      rw [List.take_of_length_le (by rw [HL.out]; exact Nat.le_refl _), List.drop_of_length_le (by rw [HL.out]; exact Nat.le_refl _), List.append_nil] at h4 hAs
      have e : msum m (ds.take k) = msum m ds := by rw [List.take_of_length_le (by rw [HL.out]; exact Nat.le_refl _)]
      have HE := Lib.hid e
      have H5 := Lib.hid h4
      have H6 := Lib.hid hAs
      clear h4 hAs e
      go_wp2_with fail
      go_ret
      exact ⟨ret_int (by first | rfl | exact HE.out), H5.out, H6.out, HON.out⟩
theorem markL_at : ∀ (m : Int) (ds : List ActD) (k : Nat) (d : ActD), ds[k]? = some d → (markL m ds)[k]? = some (markD (msum m (ds.take k)) d)
  | _, [], k, d, h => by simp at h
  | m, e :: t, 0, d, h => by simp at h; subst h; rfl
  | m, e :: t, k + 1, d, h => by
    have h1 : t[k]? = some d := by simpa using h
    show (markL (m + 1 + 1 + 1 + e.n) t)[k]? = _
    rw [markL_at _ t k d h1]; rfl
set_option maxRecDepth 100000 in
set_option maxHeartbeats 3200000 in
theorem heldActS_any (F : Option Addr) (n c base : Nat) (ds : List ActD) (m : Int) (w : World) (h : OwnF4 w base F n c (markL m ds)) (hA : OwnAs w base (markL m ds)) (h8 : ∀ d ∈ ds, d.n ≤ 8) (hn : n ≤ 2097152) (h0 : 0 ≤ m) (h1 : m ≤ 1048576) :
    Calls Tryd.prog 28 #[.slice F n c, .int .i64 m] w fun e w' => e = .returned (.int .i64 (msum m ds)) ∧ w = w' := by
  have HL := Lib.hid (show ds.length = n by have := ownF4_len h; rw [markL_len] at this; exact this)
  have H8 := Lib.hid h8
  have H := Lib.hid h
  have HA := Lib.hid hA
  clear h hA h8
  go_enter Tryd.func28, Tryd.ntmps28
  go_wp2_with fail
  go_loop [1, 5] (fun mm i => ∃ k : Nat, k ≤ n ∧ i = .int .i64 k ∧ mm = .int .i64 (msum m (ds.take k))) (fun _ i => n - (intOf i).toNat)
  case atStart => exact ⟨0, Nat.zero_le _, rfl, rfl⟩
  case round =>
    obtain ⟨k, hk, rfl, rfl⟩ := hrel
    by_cases hlt : k < n
    · have hkl : k < ds.length := by rw [HL.out]; exact hlt
      obtain ⟨d, hd⟩ : ∃ d, d = ds[k] := ⟨_, rfl⟩
      have hdm : d ∈ ds := by rw [hd]; exact List.getElem_mem hkl
      have htk : ds.take (k + 1) = ds.take k ++ [d] := by rw [hd, List.take_succ_eq_append_getElem hkl]
      have hd8 := H8.out d hdm
      have hms : msum m (ds.take (k + 1)) = msum m (ds.take k) + 1 + 1 + 1 + d.n := by rw [htk, msum_snoc]
      have hge : m ≤ msum m (ds.take k) := msum_ge _
      have hle : msum m (ds.take k) ≤ m + 11 * k := by
        have := msum_le (m := m) (ds := ds.take k) (fun e he => H8.out e (List.mem_of_mem_take he)); rw [List.length_take] at this; omega
      have hat := markL_at m ds k d (by rw [List.getElem?_eq_getElem hkl, hd])
      obtain ⟨x, hx⟩ : ∃ x, x = msum m (ds.take k) := ⟨_, rfl⟩
      rw [← hx] at hms hge hle hat
      rw [← hx]
      obtain ⟨f, rfl, hf⟩ := act_addr H.out (by omega)
      obtain ⟨c0, c1, c2, c3⟩ := act_cells H.out hat
      simp only [markD] at c0 c1 c2 c3
      have ho := HA.out.own _ (List.mem_of_getElem? hat)
      have HM := Lib.hid (heldIntS_any d.A d.n d.c (x + 1 + 1 + 1) w (show RdI w w.heap.size d.A (marksN d.n (x + 1 + 1 + 1)) from ho.rd) (by omega) (by omega) (by omega))
      have HMS := Lib.hid hms
      have hx0 : 0 ≤ x := by omega
      have hx1 : x ≤ 100000000 := by omega
      have hx2 : 0 ≤ x + 1 + 1 + 1 + (d.n : Int) := by omega
      have e0 : (x != x) = false := by simp
      have e1 : (x + 1 != x + 1) = false := by simp
      have e2 : (((x + 1 + 1) % 3 == 0) != ((x + 1 + 1) % 3 == 0)) = false := by simp
      clear hd hdm htk hms hge hle hx hat ho hkl hd8
      go_wp2_with fail
      refine HM.out.mono ?_
      rintro e w2 ⟨rfl, rfl⟩
      go_wp2_with fail
      exact ⟨⟨k + 1, by omega, by go_num, by rw [HMS.out]⟩, by simp [intOf]; omega⟩
    · obtain rfl : k = n := by omega
      have e : msum m (ds.take k) = msum m ds := by rw [List.take_of_length_le (by rw [HL.out]; exact Nat.le_refl _)]
      have HE := Lib.hid e
      clear e
      go_wp2_with fail
      go_ret
      exact ⟨ret_int (by first | rfl | exact HE.out), rfl⟩
end Go.Proofs.YtfdbmhelcmifoaaDoor.Vp
