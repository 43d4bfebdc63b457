/- Words and lemmas, merged (once: ScHeldF, ScKeepS, ScDownT) -/
import Derived.Test.YthlpchojlddnbaaKiA
import Derived.OrdersHeld
import Derived.Deep.RegionHeld
import Derived.Test.YthlpchojlddnbaaScCopy
import Derived.Test.YthlpchojlddnbaaKiO
import Derived.Test.YthlpchojlddnbaaKiD
import Derived.Test.YthlpchojlddnbaaGrSlide
import Derived.Test.YthlpchojlddnbaaScUD
import Derived.Test.YthlpchojlddnbaaKiVW
import Derived.Deep.RegionHeld3
import Derived.IntWalk
namespace Go.Proofs.Ythlpchojlddnbaa.HeldF
open Go
set_option linter.unusedVariables false
variable {P : Program} {ops : Array Oper} {Q : Exit → Act → World → Prop} {md : Region.Mode} {S : World → Prop} {lst : Nat}
def waitsB (md : Region.Mode) (ops : Array Oper) (j i : Nat) : Bool := match ops[j]? with | some o => o.after.any (fun e => Region.binds md e && e.on == i) | none => false
def wpAnyF (P : Program) (md : Region.Mode) (ops : Array Oper) (Q : Exit → Act → World → Prop) (S : World → Prop) (lst : Nat) : Nat → Array Bool → Act → World → Prop
  | 0, listed, a, w => Region.ready md ops listed = [] ∧ Q .normal a w
  | fuel + 1, listed, a, w =>
    (Region.ready md ops listed = [] → Q .normal a w) ∧
    ∀ i ∈ Region.ready md ops listed, wpOp P ops Q i (fun a' w' => (i ≠ lst → S w') ∧ wpAnyF P md ops Q S lst fuel (listed.setIfInBounds i true) a' w') a w
theorem wpAny_of_F : ∀ (fuel : Nat) (listed : Array Bool) (a : Act) (w : World), wpAnyF P md ops Q S lst fuel listed a w → wpAny P md ops Q fuel listed a w
  | 0, _, _, _, h => h
  | fuel + 1, _, _, _, h => ⟨h.1, fun i hi => wpOp_mono (fun a' w' h' => wpAny_of_F fuel _ a' w' h'.2) (h.2 i hi)⟩
theorem wpAnyF_first {i : Nat} {oi : Oper} {v : Value} (hi : ops[i]? = some oi) (hsel : ∀ (j : Nat) (o : Oper) cs b, ops[j]? = some o → o.op ≠ .select cs b)
    (hQ : ∀ c a w, Q (.panic c) (a.put oi.dst v) w → Q (.panic c) a w) (hw : waitsB md ops lst i = true) :
    ∀ (fuel : Nat) (listed : Array Bool) (a : Act) (w : World),
      (∀ j oj, ops[j]? = some oj → j ≠ i → listed.getD j true = false → (∀ e ∈ oj.after, Region.binds md e = true → e.on ≠ i) → oi.apart ops oj = true) →
      i ∈ Region.ready md ops listed → YieldsIf P ops S oi v a → S w →
      wpAnyF P md ops Q S lst fuel (listed.setIfInBounds i true) (a.put oi.dst v) w → wpAnyF P md ops Q S lst (fuel + 1) listed a w := by
  intro fuel
  induction fuel with
  | zero =>
    intro listed a w _ hr hy hS H
    refine ⟨fun h => (by rw [h] at hr; cases hr), fun j hj => ?_⟩
    by_cases hji : j = i
    · subst hji; exact hy.wpOp hi hS ⟨fun _ => hS, H⟩
    · have := ready_mono hj hji
      rw [H.1] at this
      cases this
  | succ fuel ih =>
    intro listed a w hfree hr hy hS H
    refine ⟨fun h => (by rw [h] at hr; cases hr), fun j hj => ?_⟩
    by_cases hji : j = i
    · subst hji; exact hy.wpOp hi hS ⟨fun _ => hS, H⟩
    · have h1 := H.2 j (ready_mono hj hji)
      obtain ⟨hjun, oj, hoj, hall⟩ := mem_ready.1 hj
      have hnot : ∀ e ∈ oj.after, Region.binds md e = true → e.on ≠ i := fun e he hb heq => by
        have h1 := hall e he hb
        have h0 := (mem_ready.1 hr).1
        rw [heq] at h1
        rcases Nat.lt_or_ge i listed.size with h' | h'
        · simp [h'] at h0 h1; rw [h0] at h1; cases h1
        · simp [Array.getElem?_eq_none h'] at h1
      have hjl : j ≠ lst := fun e => by
        subst e
        unfold waitsB at hw
        rw [hoj] at hw
        obtain ⟨e, he, hb⟩ := Array.any_eq_true'.1 hw
        rw [Bool.and_eq_true] at hb
        exact hnot e he hb.1 (by simpa using hb.2)
      have h2 := wpOp_putIf hoj (hfree j oj hoj hji hjun hnot) (fun cs b => hsel i oi cs b hi) (fun cs b => hsel j oj cs b hoj) hQ hy h1
      have hfree' : ∀ k ok, ops[k]? = some ok → k ≠ i → (listed.setIfInBounds j true).getD k true = false →
          (∀ e ∈ ok.after, Region.binds md e = true → e.on ≠ i) → oi.apart ops ok = true := fun k ok hk hki hun hno => by
        refine hfree k ok hk hki ?_ hno
        by_cases hjk : j = k
        · subst hjk; exact hjun
        · rw [getD_set_ne true hjk] at hun; exact hun
      refine wpOp_mono (fun a' w' h3 => ⟨h3.2.1, ih (listed.setIfInBounds j true) a' w' hfree' (ready_mono hr (Ne.symm hji)) h3.1 (h3.2.1 hjl) ?_⟩) h2
      rw [Array.setIfInBounds_comm _ _ hji]
      exact h3.2.2
/-- take number i first -/
theorem wpAnyF_take {i : Nat} {oi : Oper} {v : Value} {fuel : Nat} {listed : Array Bool} {a : Act} {w : World} (hi : ops[i]? = some oi)
    (hs : Region.noSelect ops = true) (hf : Region.free md ops listed i = true) (hr : (Region.ready md ops listed).contains i = true)
    (hQ : ∀ c a w, Q (.panic c) (a.put oi.dst v) w → Q (.panic c) a w) (hw : waitsB md ops lst i = true) (hy : YieldsIf P ops S oi v a) (hS : S w)
    (h : wpAnyF P md ops Q S lst fuel (listed.setIfInBounds i true) (a.put oi.dst v) w) : wpAnyF P md ops Q S lst (fuel + 1) listed a w :=
  wpAnyF_first hi (Region.noSelect_spec hs) hQ hw fuel listed a w (Region.free_spec hi hf) (by simpa using hr) hy hS h
/-- one alone may come up -/
theorem wpAnyF_one {k : Nat} {o : Oper} {fuel : Nat} {listed : Array Bool} {a : Act} {w : World} (hr : Region.ready md ops listed = [k]) (ho : ops[k]? = some o)
    (h : ∀ K' : Act → World → Prop, Shut (∀ a w, (k ≠ lst → S w) → ((k ≠ lst → S w) → wpAnyF P md ops Q S lst fuel (listed.setIfInBounds k true) a w) → K' a w) → if Region.wanted o (yielded ops a.tmps) = true then Oper.wp P o a w K' Q else K' (a.put o.dst undef) w) :
    wpAnyF P md ops Q S lst (fuel + 1) listed a w := by
  refine ⟨fun h0 => ?_, fun j hj => ?_⟩
  · rw [hr] at h0; cases h0
  · rw [hr] at hj
    rw [List.mem_singleton] at hj
    subst hj
    exact wpOp_step ho (fun K' hK => h K' (fun a w hS hW => hK a w ⟨hS, hW hS⟩))
theorem wpAnyF_done {listed : Array Bool} {a : Act} {w : World} (hr : Region.ready md ops listed = []) (h : Q .normal a w) :
    ∀ fuel, wpAnyF P md ops Q S lst fuel listed a w
  | 0 => ⟨hr, h⟩
  | _ + 1 => ⟨fun _ => h, by rw [hr]; simp⟩
theorem wp_region_F {id : Nat} {a : Act} {w : World} (hm : P.follows .mixedOrders = true) (hS : S w.drew)
    (h : S w.drew → wpAnyF P .any ops Q S lst ops.size (Array.replicate ops.size false) a w.drew) : (Code.region id ops true).wp P Q a w :=
  wp_region_any hm (wpAny_of_F _ _ _ _ (h hS))
end Go.Proofs.Ythlpchojlddnbaa.HeldF
namespace Go.Proofs.Ythlpchojlddnbaa.Sc
open Go.RowKit Go.Proofs.Ythlpchojlddnbaa.Bytes Go.Proofs.Ythlpchojlddnbaa.Rows_ Go.Proofs.Ythlpchojlddnbaa.RowK Go.Proofs.Ythlpchojlddnbaa.Gr Go.Proofs.Ythlpchojlddnbaa.DOk Go.Proofs.Ythlpchojlddnbaa.Opq Go.Proofs.Ythlpchojlddnbaa.Attr
set_option linter.unusedVariables false
attribute [local go_sem ↓] Sc.exec_storeS Sc.exec_loadS
attribute [local go_sem] rowOf_drew blkOf_ptr isHead_ptr aggN_agg setRow_alloc rowZ_at rowZ_past scrA_size one_scr rowOf_alloc_at rowOf_alloc_past
attribute [local go_sem] sa_w sa_h sa_mw sa_mh sa_M sa_aw sa_ah sa_A sa_onAlt sa_x sa_y sa_wrap sa_fg sa_bg sa_b sa_u sa_t sa_top sa_bot sa_noWrap sa_hide sa_sx sa_sy sa_sfg sa_sbg sa_sb sa_su sa_st sa_tabs sa_lim sa_rows
attribute [local go_sem] scr_at0 scr_at1 scr_at2 scr_at3 scr_at4 scr_at5 scr_at6 scr_at7 scr_at8 scr_at9 scr_at10 scr_at11 scr_at12 scr_at13 scr_at14 scr_at15 scr_at16 scr_at17 scr_at18 scr_at19 scr_at20 scr_at21 scr_at22 scr_at23 scr_at24 scr_at25 scr_at26 scr_at27 scr_at28 scr_at29 scr_at30
/-- cells appended to an empty slice of the call's own, in a region that draws its order -/
theorem step_cells {V : World} {ops : Array Oper} {o : Oper} {a : Act} {K : Act → World → Prop} {Q : Exit → Act → World → Prop} {E : Prop} (hgd : o.guard = none) (s x : Operand)
    (ho : o.op = .call { callee := .builtin .append, args := #[s, x], argTypes := #[30, 30] })
    {base B H n1 c1 : Nat} {ad : Addr} {cs : List CellD} (hs : a.eval s = .slice (some ⟨H, 0, none⟩) 0 0) (hx : a.eval x = .slice (some ad) n1 c1)
    (hown : V.ownsRow base 37 6 (.slice (some ⟨H, 0, none⟩) 0 0) 0 []) (hr : RdC V B (some ad) cs) (hl : cs.length = n1) (hn : n1 ≤ 1000000000) (hbase : base ≤ V.heap.size)
    (h : ∀ A' c' w', OwnC w' base A' n1 c' cs → Below base V w' → K (a.put o.dst (.slice A' n1 c')) w') :
    if Region.wanted o (yielded ops a.tmps) = true then Oper.wp Try.prog o a V K Q else E := by
  have hw : Region.wanted o (yielded ops a.tmps) = true := by simp [Region.wanted, hgd]
  rw [if_pos hw]
  obtain ⟨i0, hi, hz0, hz1, hz2⟩ := info_parts cellInfo
  refine wp_append_own _ s x 30 ho base 37 i0 (.agg #[.int .i64 0, .int .i64 0, .int .i64 0, .bool false, .bool false, .bool false]) 6 32 Try.underlying30 hi hz0 hz1 hz2 rfl (by decide) _ _ _ hs hown ad n1 c1 (cs.map cellR).flatten hx (by rw [flat_len 6 _ (cell_len cs), List.length_map, hl])
    (rdK_cells (by decide) (cell_len cs) hr) (fun u hu => by obtain ⟨r, hr, hu⟩ := List.mem_flatten.1 hu; exact one_cell cs r hr u hu) ?_ ?_ hbase ?_
  · unfold maxLen; omega
  · omega
  · intro v' w' hown' hgrow _
    obtain ⟨A', c', rfl⟩ := own_shapeK hown'
    rw [Nat.zero_add, List.nil_append] at hown'
    rw [Nat.zero_add]
    exact h A' c' w' hown' ((Below.refl _ _).grown hgrow hbase (fun g hg => (World.ownsRow.lt hown g hg).1))
set_option maxRecDepth 100000 in
set_option maxHeartbeats 3200000 in
theorem keepC : KeepC := by
  intro t B w W y L ho hw h1 hy hyb hn hlim hL hrl hB
  obtain ⟨q, hq⟩ := own_addr (show OwnC w B t.M.A t.M.cs.length t.M.c t.M.cs from ho.m) (by omega)
  have hcap := (show OwnC w B t.M.A t.M.cs.length t.M.c t.M.cs from ho.m).cap
  obtain ⟨W1, hW⟩ : ∃ W, W = (w.alloc (.cells (scrA t) 53)).alloc (.cells #[.int .i64 0, .int .i64 0, .int .i64 0, .int .i64 0, .slice none 0 0, .int .i64 0, .int .i64 0, .slice none 0 0, .bool false, .int .i64 0, .int .i64 0, .bool false, .int .i64 0, .int .i64 0, .bool false, .bool false, .bool false, .int .i64 0, .int .i64 0, .bool false, .bool false, .int .i64 0, .int .i64 0, .int .i64 0, .int .i64 0, .bool false, .bool false, .bool false, .slice none 0 0, .int .i64 0, .slice none 0 0] 53) := ⟨_, rfl⟩
  have RB1 := Lib.hid (show RowS W1 w.heap.size t from by rw [hW]; exact (RowS.new w t).alloc _)
  have k30 : W1.drew.cell? ⟨w.heap.size, 30, none⟩ = some (.slice t.bA t.rows.length t.bk) := RB1.out.cell 30
  have k4 : W1.drew.cell? ⟨w.heap.size, 4, none⟩ = some (.slice (some ⟨q, 0, none⟩) t.M.cs.length t.M.c) := by rw [← hq]; exact RB1.out.cell 4
  have k0 : W1.drew.cell? ⟨w.heap.size, 0, none⟩ = some (.int .i64 (W : Int)) := by rw [← hw]; exact RB1.out.cell 0
  obtain ⟨lo, hlo⟩ : ∃ lo, lo = y * W := ⟨_, rfl⟩
  obtain ⟨hi, hhi⟩ : ∃ hi, hi = lo + W := ⟨_, rfl⟩
  have e1 : IntKind.i64.wrap ((y : Int) * (W : Int)) = (lo : Int) := by rw [hlo, ← Int.natCast_mul]; exact IntWalk.i64_in _ (by omega)
  have e2 : IntKind.i64.wrap ((lo : Int) + (W : Int)) = (hi : Int) := by rw [hhi, ← Int.natCast_add]; exact IntWalk.i64_in _ (by omega)
  have b1 : lo ≠ t.M.c := by omega
  have b2 : hi ≤ t.M.c := by omega
  have b3 : lo ≤ hi := by omega
  have b4 : hi - lo ≤ 1048576 := by omega
  have b5 : ¬ t.M.c = lo := by omega
  obtain ⟨ROW, hROW⟩ : ∃ R, R = (t.M.cs.drop lo).take W := ⟨_, rfl⟩
  have hRl : ROW.length = hi - lo := by rw [hROW]; simp; omega
  have HRL := Lib.hid hRl
  have HRW := Lib.hid hROW
  have SOK := Lib.hid (fun w' (h : RowS w' w.heap.size t) => show w'.cell? ⟨w.heap.size, 30, none⟩ = some (.slice t.bA t.rows.length t.bk) ∧ w'.cell? ⟨w.heap.size, 4, none⟩ = some (.slice (some ⟨q, 0, none⟩) t.M.cs.length t.M.c) ∧ w'.cell? ⟨w.heap.size, 0, none⟩ = some (.int .i64 (W : Int)) from ⟨h.cell 30, by rw [← hq]; exact h.cell 4, by rw [← hw]; exact h.cell 0⟩)
  have hal0 : Below w.heap.size w W1 := by rw [hW]; exact ((Below.refl w.heap.size w).alloc (Nat.le_refl _) _).alloc (by simp) _
  have OO1 := Lib.hid ((ho.below (Nat.le_refl _) hal0).drew)
  have hz1 : w.heap.size + 1 < W1.heap.size := by rw [hW]; simp
  have RZ1 := Lib.hid (show RowS W1 (w.heap.size + 1) zeroS from by
    rw [hW]
    have h := RowS.new (w.alloc (.cells (scrA t) 53)) zeroS
    rw [World.size_alloc] at h; exact h)
  have ON0 := Lib.hid (show Only (BkS t) w W1 from Only.below hal0 (Nat.le_refl _))
  have RB2 := Lib.hid (RB1.out.drew.alloc (.cells #[] 37))
  have OO2 := Lib.hid (OO1.out.below (Nat.le_refl _) ((Below.refl _ _).alloc (Nat.le_refl _) (.cells #[] 37)))
  have HE0 := Lib.hid (own_empty W1.drew 37 6)
  have hrd0 := OO2.out.m.rd
  rw [hq] at hrd0
  have hrd := rdC_sub hrd0 lo W (by omega)
  rw [Nat.zero_add, ← hROW] at hrd
  have HRD := Lib.hid hrd
  have ON2 := Lib.hid (show Only (BkS t) W1 (W1.drew.alloc (.cells #[] 37)) from only_undrew (Only.below ((Below.refl W1.drew.heap.size _).alloc (Nat.le_refl _) _) (Nat.le_refl _)))
  clear hrd hrd0 hROW hRl hal0
  have HLO := Lib.hid hlo
  have HHI := Lib.hid hhi
  clear hlo hhi hy hcap
  go_enter Try.func81, Try.ntmps81
  go_upto_region 1 with fail
  rw [← hW]
  clear hW
  refine wp_region_noPanic ?_
  refine HeldF.wp_region_F (lst := 23) (S := fun w' => w'.cell? ⟨w.heap.size, 30, none⟩ = some (.slice t.bA t.rows.length t.bk) ∧ w'.cell? ⟨w.heap.size, 4, none⟩ = some (.slice (some ⟨q, 0, none⟩) t.M.cs.length t.M.c) ∧ w'.cell? ⟨w.heap.size, 0, none⟩ = some (.int .i64 (W : Int))) (by kernel_rfl) ⟨k30, k4, k0⟩ (fun hHeld => ?_)
  refine HeldF.wpAnyF_take (i := 0) (oi := { dst := some 5, op := Op.fieldAddr 53 (Operand.tmp 2) 18, type := 0, pos := "l09_screen.go:94", after := #[], guard := none }) (v := ?v0) rfl (by kernel_rfl) (by kernel_rfl) (by kernel_rfl) (fun _ _ _ h => h) (by kernel_rfl) (Or.inl ⟨by rfl, ?hy0⟩) (by assumption) ?rest0
  case hy0 => (intro w hSw; obtain ⟨hs1, hs2, hs3⟩ := hSw; go_simp; (try with_reducible rfl))
  (try simp only [Act.put, List.setIfInBounds_toArray, List.set_cons_zero, List.set_cons_succ])
  refine HeldF.wpAnyF_take (i := 1) (oi := { dst := some 6, op := Op.load 51 (Operand.tmp 5), type := 51, pos := "l09_screen.go:94", after := #[{ on := 0, ground := Ground.data }], guard := none }) (v := ?v1) rfl (by kernel_rfl) (by kernel_rfl) (by kernel_rfl) (fun _ _ _ h => h) (by kernel_rfl) (Or.inl ⟨by rfl, ?hy1⟩) (by assumption) ?rest1
  case hy1 => (intro w hSw; obtain ⟨hs1, hs2, hs3⟩ := hSw; go_simp; (try with_reducible rfl))
  (try simp only [Act.put, List.setIfInBounds_toArray, List.set_cons_zero, List.set_cons_succ])
  refine HeldF.wpAnyF_take (i := 3) (oi := { dst := some 8, op := Op.fieldAddr 53 (Operand.tmp 2) 2, type := 0, pos := "l09_screen.go:94", after := #[], guard := none }) (v := ?v3) rfl (by kernel_rfl) (by kernel_rfl) (by kernel_rfl) (fun _ _ _ h => h) (by kernel_rfl) (Or.inl ⟨by rfl, ?hy3⟩) (by assumption) ?rest3
  case hy3 => (intro w hSw; obtain ⟨hs1, hs2, hs3⟩ := hSw; go_simp; (try with_reducible rfl))
  (try simp only [Act.put, List.setIfInBounds_toArray, List.set_cons_zero, List.set_cons_succ])
  refine HeldF.wpAnyF_take (i := 4) (oi := { dst := some 9, op := Op.fieldAddr 32 (Operand.tmp 8) 2, type := 0, pos := "l09_screen.go:94", after := #[{ on := 3, ground := Ground.data }], guard := none }) (v := ?v4) rfl (by kernel_rfl) (by kernel_rfl) (by kernel_rfl) (fun _ _ _ h => h) (by kernel_rfl) (Or.inl ⟨by rfl, ?hy4⟩) (by assumption) ?rest4
  case hy4 => (intro w hSw; obtain ⟨hs1, hs2, hs3⟩ := hSw; go_simp; (try with_reducible rfl))
  (try simp only [Act.put, List.setIfInBounds_toArray, List.set_cons_zero, List.set_cons_succ])
  refine HeldF.wpAnyF_take (i := 5) (oi := { dst := some 10, op := Op.load 30 (Operand.tmp 9), type := 30, pos := "l09_screen.go:94", after := #[{ on := 4, ground := Ground.data }], guard := none }) (v := ?v5) rfl (by kernel_rfl) (by kernel_rfl) (by kernel_rfl) (fun _ _ _ h => h) (by kernel_rfl) (Or.inl ⟨by rfl, ?hy5⟩) (by assumption) ?rest5
  case hy5 => (intro w hSw; obtain ⟨hs1, hs2, hs3⟩ := hSw; go_simp; (try with_reducible rfl))
  (try simp only [Act.put, List.setIfInBounds_toArray, List.set_cons_zero, List.set_cons_succ])
  refine HeldF.wpAnyF_take (i := 6) (oi := { dst := some 11, op := Op.move (Operand.tmp 1), type := 3, pos := "l09_screen.go:94", after := #[], guard := none }) (v := ?v6) rfl (by kernel_rfl) (by kernel_rfl) (by kernel_rfl) (fun _ _ _ h => h) (by kernel_rfl) (Or.inl ⟨by rfl, ?hy6⟩) (by assumption) ?rest6
  case hy6 => (intro w hSw; obtain ⟨hs1, hs2, hs3⟩ := hSw; go_simp; (try with_reducible rfl))
  (try simp only [Act.put, List.setIfInBounds_toArray, List.set_cons_zero, List.set_cons_succ])
  refine HeldF.wpAnyF_take (i := 7) (oi := { dst := some 12, op := Op.fieldAddr 53 (Operand.tmp 2) 0, type := 0, pos := "l09_screen.go:94", after := #[], guard := none }) (v := ?v7) rfl (by kernel_rfl) (by kernel_rfl) (by kernel_rfl) (fun _ _ _ h => h) (by kernel_rfl) (Or.inl ⟨by rfl, ?hy7⟩) (by assumption) ?rest7
  case hy7 => (intro w hSw; obtain ⟨hs1, hs2, hs3⟩ := hSw; go_simp; (try with_reducible rfl))
  (try simp only [Act.put, List.setIfInBounds_toArray, List.set_cons_zero, List.set_cons_succ])
  refine HeldF.wpAnyF_take (i := 8) (oi := { dst := some 13, op := Op.load 3 (Operand.tmp 12), type := 3, pos := "l09_screen.go:94", after := #[{ on := 7, ground := Ground.data }], guard := none }) (v := ?v8) rfl (by kernel_rfl) (by kernel_rfl) (by kernel_rfl) (fun _ _ _ h => h) (by kernel_rfl) (Or.inl ⟨by rfl, ?hy8⟩) (by assumption) ?rest8
  case hy8 => (intro w hSw; obtain ⟨hs1, hs2, hs3⟩ := hSw; go_simp; (try with_reducible rfl))
  (try simp only [Act.put, List.setIfInBounds_toArray, List.set_cons_zero, List.set_cons_succ])
  refine HeldF.wpAnyF_take (i := 9) (oi := { dst := some 14, op := Op.binOp BinOp.mul 3 (Operand.tmp 11) (Operand.tmp 13) 3, type := 3, pos := "l09_screen.go:94", after := #[{ on := 6, ground := Ground.data }, { on := 8, ground := Ground.data }], guard := none }) (v := ?v9) rfl (by kernel_rfl) (by kernel_rfl) (by kernel_rfl) (fun _ _ _ h => h) (by kernel_rfl) (Or.inl ⟨by rfl, ?hy9⟩) (by assumption) ?rest9
  case hy9 => (intro w hSw; obtain ⟨hs1, hs2, hs3⟩ := hSw; go_simp; (try with_reducible rfl))
  (try simp only [Act.put, List.setIfInBounds_toArray, List.set_cons_zero, List.set_cons_succ])
  refine HeldF.wpAnyF_take (i := 10) (oi := { dst := some 15, op := Op.move (Operand.tmp 1), type := 3, pos := "l09_screen.go:94", after := #[], guard := none }) (v := ?v10) rfl (by kernel_rfl) (by kernel_rfl) (by kernel_rfl) (fun _ _ _ h => h) (by kernel_rfl) (Or.inl ⟨by rfl, ?hy10⟩) (by assumption) ?rest10
  case hy10 => (intro w hSw; obtain ⟨hs1, hs2, hs3⟩ := hSw; go_simp; (try with_reducible rfl))
  (try simp only [Act.put, List.setIfInBounds_toArray, List.set_cons_zero, List.set_cons_succ])
  refine HeldF.wpAnyF_take (i := 11) (oi := { dst := some 16, op := Op.fieldAddr 53 (Operand.tmp 2) 0, type := 0, pos := "l09_screen.go:94", after := #[], guard := none }) (v := ?v11) rfl (by kernel_rfl) (by kernel_rfl) (by kernel_rfl) (fun _ _ _ h => h) (by kernel_rfl) (Or.inl ⟨by rfl, ?hy11⟩) (by assumption) ?rest11
  case hy11 => (intro w hSw; obtain ⟨hs1, hs2, hs3⟩ := hSw; go_simp; (try with_reducible rfl))
  (try simp only [Act.put, List.setIfInBounds_toArray, List.set_cons_zero, List.set_cons_succ])
  refine HeldF.wpAnyF_take (i := 12) (oi := { dst := some 17, op := Op.load 3 (Operand.tmp 16), type := 3, pos := "l09_screen.go:94", after := #[{ on := 11, ground := Ground.data }], guard := none }) (v := ?v12) rfl (by kernel_rfl) (by kernel_rfl) (by kernel_rfl) (fun _ _ _ h => h) (by kernel_rfl) (Or.inl ⟨by rfl, ?hy12⟩) (by assumption) ?rest12
  case hy12 => (intro w hSw; obtain ⟨hs1, hs2, hs3⟩ := hSw; go_simp; (try with_reducible rfl))
  (try simp only [Act.put, List.setIfInBounds_toArray, List.set_cons_zero, List.set_cons_succ])
  refine HeldF.wpAnyF_take (i := 13) (oi := { dst := some 18, op := Op.binOp BinOp.mul 3 (Operand.tmp 15) (Operand.tmp 17) 3, type := 3, pos := "l09_screen.go:94", after := #[{ on := 10, ground := Ground.data }, { on := 12, ground := Ground.data }], guard := none }) (v := ?v13) rfl (by kernel_rfl) (by kernel_rfl) (by kernel_rfl) (fun _ _ _ h => h) (by kernel_rfl) (Or.inl ⟨by rfl, ?hy13⟩) (by assumption) ?rest13
  case hy13 => (intro w hSw; obtain ⟨hs1, hs2, hs3⟩ := hSw; go_simp; (try with_reducible rfl))
  (try simp only [Act.put, List.setIfInBounds_toArray, List.set_cons_zero, List.set_cons_succ])
  refine HeldF.wpAnyF_take (i := 14) (oi := { dst := some 19, op := Op.fieldAddr 53 (Operand.tmp 2) 0, type := 0, pos := "l09_screen.go:94", after := #[], guard := none }) (v := ?v14) rfl (by kernel_rfl) (by kernel_rfl) (by kernel_rfl) (fun _ _ _ h => h) (by kernel_rfl) (Or.inl ⟨by rfl, ?hy14⟩) (by assumption) ?rest14
  case hy14 => (intro w hSw; obtain ⟨hs1, hs2, hs3⟩ := hSw; go_simp; (try with_reducible rfl))
  (try simp only [Act.put, List.setIfInBounds_toArray, List.set_cons_zero, List.set_cons_succ])
  refine HeldF.wpAnyF_take (i := 15) (oi := { dst := some 20, op := Op.load 3 (Operand.tmp 19), type := 3, pos := "l09_screen.go:94", after := #[{ on := 14, ground := Ground.data }], guard := none }) (v := ?v15) rfl (by kernel_rfl) (by kernel_rfl) (by kernel_rfl) (fun _ _ _ h => h) (by kernel_rfl) (Or.inl ⟨by rfl, ?hy15⟩) (by assumption) ?rest15
  case hy15 => (intro w hSw; obtain ⟨hs1, hs2, hs3⟩ := hSw; go_simp; (try with_reducible rfl))
  (try simp only [Act.put, List.setIfInBounds_toArray, List.set_cons_zero, List.set_cons_succ])
  refine HeldF.wpAnyF_take (i := 16) (oi := { dst := some 21, op := Op.binOp BinOp.add 3 (Operand.tmp 18) (Operand.tmp 20) 3, type := 3, pos := "l09_screen.go:94", after := #[{ on := 13, ground := Ground.data }, { on := 15, ground := Ground.data }], guard := none }) (v := ?v16) rfl (by kernel_rfl) (by kernel_rfl) (by kernel_rfl) (fun _ _ _ h => h) (by kernel_rfl) (Or.inl ⟨by rfl, ?hy16⟩) (by assumption) ?rest16
  case hy16 => (intro w hSw; obtain ⟨hs1, hs2, hs3⟩ := hSw; go_simp; (try with_reducible rfl))
  (try simp only [Act.put, List.setIfInBounds_toArray, List.set_cons_zero, List.set_cons_succ])
  refine HeldF.wpAnyF_take (i := 17) (oi := { dst := some 22, op := Op.slice 30 (Operand.tmp 10) (some (Operand.tmp 14)) (some (Operand.tmp 21)) none, type := 30, pos := "l09_screen.go:94", after := #[{ on := 5, ground := Ground.data }, { on := 9, ground := Ground.data }, { on := 16, ground := Ground.data }], guard := none }) (v := ?v17) rfl (by kernel_rfl) (by kernel_rfl) (by kernel_rfl) (fun _ _ _ h => h) (by kernel_rfl) (Or.inl ⟨by rfl, ?hy17⟩) (by assumption) ?rest17
  case hy17 => (intro w hSw; obtain ⟨hs1, hs2, hs3⟩ := hSw; go_simp; (try with_reducible rfl))
  (try simp only [Act.put, List.setIfInBounds_toArray, List.set_cons_zero, List.set_cons_succ])
  try simp only [if_neg b5]
  refine HeldF.wpAnyF_one (k := 2) (o := { dst := some 7, op := Op.buildSlice 30 0 #[], type := 30, pos := "l09_screen.go:94", after := #[], guard := none }) (by kernel_rfl) rfl (fun K hK => ?_)
  go_simp
  refine hK.out _ _ (fun _ => SOK.out _ RB2.out) (fun hH => ?_)
  clear hK K
  clear hHeld
  have hHeld := hH (by decide)
  clear hH
  (try simp only [Act.put, List.setIfInBounds_toArray, List.set_cons_zero, List.set_cons_succ])
  refine HeldF.wpAnyF_one (k := 18) (o := { dst := some 23, op := Op.call { callee := Callee.builtin Builtin.append, args := #[Operand.tmp 7, Operand.tmp 22], argTypes := #[30, 30] }, type := 30, pos := "l09_screen.go:94", after := #[{ on := 2, ground := Ground.data }, { on := 17, ground := Ground.data }], guard := none }) (by kernel_rfl) rfl (fun K hK => ?_)
  refine step_cells rfl _ _ rfl rfl rfl HE0.out HRD.out HRL.out (by omega) (by simp) ?_
  intro A2 c2 w2 ho2 hb2
  have HO2 := Lib.hid ho2
  have RB3 := Lib.hid (RB2.out.below hb2 (show w.heap.size < W1.heap.size by omega))
  have OO3 := Lib.hid (OO1.out.below (Nat.le_refl _) (((Below.refl W1.drew.heap.size W1.drew).alloc (Nat.le_refl _) (.cells #[] 37)).trans hb2))
  have ON3 := Lib.hid (show Only (BkS t) W1 w2 from only_undrew (Only.below (((Below.refl W1.drew.heap.size W1.drew).alloc (Nat.le_refl _) (.cells #[] 37)).trans hb2) (Nat.le_refl _)))
  have HAP := Lib.hid (fun (x : SlC) (hx : x ∈ t.M :: t.A :: t.rows) => apart_of (y := ⟨A2, c2, ROW⟩) (OO1.out.c.1 x hx) (show OwnC w2 W1.drew.heap.size A2 ROW.length c2 ROW from HRL.out.symm ▸ ho2) (Nat.le_refl _))
  have hz2 : W1.heap.size ≤ w2.heap.size := ON3.out.size
  clear ho2 hb2
  refine hK.out _ _ (fun _ => SOK.out _ RB3.out) (fun hH => ?_)
  clear hK K
  clear hHeld
  have hHeld := hH (by decide)
  clear hH
  (try simp only [Act.put, List.setIfInBounds_toArray, List.set_cons_zero, List.set_cons_succ])
  refine HeldF.wpAnyF_take (i := 19) (oi := { dst := some 24, op := Op.build 115 #[(0, Operand.tmp 23)], type := 115, pos := "l09_screen.go:94", after := #[{ on := 18, ground := Ground.data }], guard := none }) (v := ?v19) rfl (by kernel_rfl) (by kernel_rfl) (by kernel_rfl) (fun _ _ _ h => h) (by kernel_rfl) (Or.inl ⟨by rfl, ?hy19⟩) (by assumption) ?rest19
  case hy19 => (intro w hSw; obtain ⟨hs1, hs2, hs3⟩ := hSw; go_simp; (try with_reducible rfl))
  (try simp only [Act.put, List.setIfInBounds_toArray, List.set_cons_zero, List.set_cons_succ])
  refine HeldF.wpAnyF_one (k := 20) (o := { dst := some 25, op := Op.buildSlice 51 1 #[(0, Operand.tmp 24)], type := 51, pos := "l09_screen.go:94", after := #[{ on := 19, ground := Ground.data }], guard := none }) (by kernel_rfl) rfl (fun K hK => ?_)
  go_simp
  refine hK.out _ _ (fun _ => SOK.out _ (RB3.out.alloc _)) (fun hH => ?_)
  clear hK K
  clear hHeld
  have hHeld := hH (by decide)
  clear hH
  (try simp only [Act.put, List.setIfInBounds_toArray, List.set_cons_zero, List.set_cons_succ])
  refine HeldF.wpAnyF_one (k := 21) (o := { dst := some 26, op := Op.call { callee := Callee.builtin Builtin.append, args := #[Operand.tmp 6, Operand.tmp 25], argTypes := #[51, 51] }, type := 51, pos := "l09_screen.go:94", after := #[{ on := 1, ground := Ground.data }, { on := 20, ground := Ground.data }, { on := 18, ground := Ground.chain }], guard := none }) (by kernel_rfl) rfl (fun K hK => ?_)
  refine step_row rfl _ _ rfl HRL.out rfl _ rfl rfl OO3.out.r (by omega) (by omega) ?_
  intro A' c' w3 ho3 hg3
  have hon : Only (fun i => (Value.slice t.bA t.rows.length t.bk).ownBlock = some i) w2 w3 := Only.grown hg3 (fun i e => e)
  have RB4 := Lib.hid (RB3.out.only hon (fun e => RB3.out.apart OO3.out (.inr (.inr e))))
  have OO4 := Lib.hid (OwnS.keepR OO3.out HO2.out HRL.out HAP.out hon ho3 (by show B ≤ W1.heap.size; omega))
  have ON4 := Lib.hid (show Only (BkS t) W1 w3 from ON3.out.trans hon)
  have q30 : w3.cell? ⟨w.heap.size, 30, none⟩ = some (.slice t.bA t.rows.length t.bk) := RB4.out.cell 30
  have q30f := RB4.out.free 30
  clear ho3 hg3 hon
  refine hK.out _ _ (fun _ => SOK.out _ RB4.out) (fun hH => ?_)
  clear hK K
  clear hHeld
  have hHeld := hH (by decide)
  clear hH
  (try simp only [Act.put, List.setIfInBounds_toArray, List.set_cons_zero, List.set_cons_succ])
  refine HeldF.wpAnyF_take (i := 22) (oi := { dst := some 27, op := Op.fieldAddr 53 (Operand.tmp 2) 18, type := 0, pos := "l09_screen.go:94", after := #[{ on := 0, ground := Ground.phase }, { on := 1, ground := Ground.phase }, { on := 2, ground := Ground.phase }, { on := 3, ground := Ground.phase }, { on := 4, ground := Ground.phase }, { on := 5, ground := Ground.phase }, { on := 6, ground := Ground.phase }, { on := 7, ground := Ground.phase }, { on := 8, ground := Ground.phase }, { on := 9, ground := Ground.phase }, { on := 10, ground := Ground.phase }, { on := 11, ground := Ground.phase }, { on := 12, ground := Ground.phase }, { on := 13, ground := Ground.phase }, { on := 14, ground := Ground.phase }, { on := 15, ground := Ground.phase }, { on := 16, ground := Ground.phase }, { on := 17, ground := Ground.phase }, { on := 18, ground := Ground.phase }, { on := 19, ground := Ground.phase }, { on := 20, ground := Ground.phase }, { on := 21, ground := Ground.phase }], guard := none }) (v := ?v22) rfl (by kernel_rfl) (by kernel_rfl) (by kernel_rfl) (fun _ _ _ h => h) (by kernel_rfl) (Or.inl ⟨by rfl, ?hy22⟩) (by assumption) ?rest22
  case hy22 => (intro w hSw; obtain ⟨hs1, hs2, hs3⟩ := hSw; go_simp; (try with_reducible rfl))
  (try simp only [Act.put, List.setIfInBounds_toArray, List.set_cons_zero, List.set_cons_succ])
  refine HeldF.wpAnyF_one (k := 23) (o := { dst := none, op := Op.store 51 (Operand.tmp 27) (Operand.tmp 26), type := 0, pos := "l09_screen.go:94", after := #[{ on := 22, ground := Ground.data }, { on := 21, ground := Ground.data }, { on := 21, ground := Ground.chain }, { on := 0, ground := Ground.phase }, { on := 1, ground := Ground.phase }, { on := 2, ground := Ground.phase }, { on := 3, ground := Ground.phase }, { on := 4, ground := Ground.phase }, { on := 5, ground := Ground.phase }, { on := 6, ground := Ground.phase }, { on := 7, ground := Ground.phase }, { on := 8, ground := Ground.phase }, { on := 9, ground := Ground.phase }, { on := 10, ground := Ground.phase }, { on := 11, ground := Ground.phase }, { on := 12, ground := Ground.phase }, { on := 13, ground := Ground.phase }, { on := 14, ground := Ground.phase }, { on := 15, ground := Ground.phase }, { on := 16, ground := Ground.phase }, { on := 17, ground := Ground.phase }, { on := 18, ground := Ground.phase }, { on := 19, ground := Ground.phase }, { on := 20, ground := Ground.phase }, { on := 21, ground := Ground.phase }], guard := none }) (by kernel_rfl) rfl (fun K hK => ?_)
  go_simp
  refine hK.out _ _ (fun h => absurd rfl h) (fun hH => ?_)
  clear hK K
  clear hHeld hH
  (try simp only [Act.put, List.setIfInBounds_toArray, List.set_cons_zero, List.set_cons_succ])
  refine HeldF.wpAnyF_done (by kernel_rfl) ?_ _
  refine NoPanic.normal ?_
  rename_i _ K0 hK0
  refine hK0 _ _ ?_
  clear hK0 K0
  have el : (t.rows ++ [(⟨A2, c2, ROW⟩ : SlC)]).length = t.rows.length + 1 := by simp
  obtain ⟨w4, hw4⟩ : ∃ x, x = w3.setCell ⟨w.heap.size, 30, none⟩ (.slice A' (t.rows.length + 1) c') := ⟨_, rfl⟩
  have RB5 := Lib.hid (show RowS w4 w.heap.size { t with bA := A', bk := c', rows := t.rows ++ [⟨A2, c2, ROW⟩] } from by
    rw [hw4]
    have h := RB4.out.s_rows (A := A') (c := c') (rs := t.rows ++ [⟨A2, c2, ROW⟩])
    rw [el] at h; exact h)
  have OO5 := Lib.hid (show OwnS w4 B { t with bA := A', bk := c', rows := t.rows ++ [⟨A2, c2, ROW⟩] } from by
    rw [hw4]
    exact OO4.out.only (S := fun i => i = w.heap.size) (Only.cell_ w3 w.heap.size 30 _ rfl) (fun i hi e => RB4.out.apart OO4.out (e ▸ hi)))
  have ON5 := Lib.hid (show Only (BkS t) w w4 from by
    rw [hw4]; exact Only.cell_new (ON0.out.trans ON4.out) _ _ _ (Nat.le_refl _))
  have RZ5 := Lib.hid (show RowS w4 (w.heap.size + 1) zeroS from by
    rw [hw4]
    exact (RZ1.out.only ON4.out (fun h => RZ1.out.drew.apart OO1.out (.inr (.inr h)))).other (by omega))
  have MP5 := Lib.hid (show (t.rows ++ [(⟨A2, c2, ROW⟩ : SlC)]).map (·.cs) = t.rows.map (·.cs) ++ [(t.M.cs.drop (y * W)).take W] by rw [List.map_append, List.map_singleton, HRW.out, HLO.out])
  rw [← hw4]
  clear hw4 q30 q30f ON4 OO4 RB4 ON3 OO3 RB3 HAP HO2 HRD HE0 OO2 RB2 ON2 SOK OO1 RB1 RZ1 ON0 k30 k4 k0 HRL
  have p30 : w4.cell? ⟨w.heap.size, 30, none⟩ = some (.slice A' (t.rows.length + 1) c') := by rw [← el]; exact RB5.out.cell 30
  have p29 : w4.cell? ⟨w.heap.size, 29, none⟩ = some (.int .i64 (L : Int)) := by rw [← hlim]; exact RB5.out.cell 29
  have p30f := RB5.out.free 30
  clear hw hlim
  by_cases hlt : t.rows.length < L
  · have hgt : ¬ (L : Int) < (t.rows.length : Int) + 1 := by omega
    have row5 : rowOf w4 w.heap.size = scrA { t with bA := A', bk := c', rows := t.rows ++ [⟨A2, c2, ROW⟩] } := RB5.out.of
    have rz5 : RowZ w4 (w.heap.size + 1) 31 := RowZ.of RZ5.out.row 31 rfl
    go_wp2_with fail
    refine bodyPost_ret (v := .agg (scrA { t with bA := A', bk := c', rows := t.rows ++ [⟨A2, c2, ROW⟩] })) (res55 Try.results81 _ _ (w.heap.size + 1) _ (by simp) (RZ5.out.row.setRow) rfl) rfl ⟨_, _, _, rfl, ?_, ?_, ?_⟩
    · exact OO5.out.keepRow (w.heap.size + 1) _ (.inr (RZ5.out.apart OO5.out))
    · rw [MP5.out]; unfold keepL; rw [List.length_map, show t.rows.length + 1 - L = 0 by omega, List.drop_zero]
    · exact Only.row_new ON5.out _ _ (by omega)
  · have hnl : t.rows.length = L := by omega
    subst hnl
    obtain ⟨b, o, hA, hcc, htl⟩ := OO5.out.r.tail (by simp)
    replace hA : A' = some ⟨b, o, none⟩ := hA
    subst hA
    replace hcc : t.rows.length + 1 ≤ c' := by simpa using hcc
    have HT := Lib.hid htl
    clear htl
    have hgt : (t.rows.length : Int) < (t.rows.length : Int) + 1 := by omega
    have hsb : IntKind.i64.wrap ((t.rows.length : Int) + 1 - (t.rows.length : Int)) = 1 := by rw [show (t.rows.length : Int) + 1 - (t.rows.length : Int) = 1 by omega]; decide
    by_cases hc1 : c' = 1
    · have ht := HT.out
      rw [if_pos hc1, hc1] at ht
      go_upto_region 4 with fail
      obtain ⟨w5, hw5⟩ : ∃ x, x = w4.setCell ⟨w.heap.size, 30, none⟩ (.slice (some ⟨b, o, none⟩) t.rows.length 0) := ⟨_, rfl⟩
      obtain ⟨gs, hgs⟩ : ∃ g, g = (t.rows ++ [(⟨A2, c2, ROW⟩ : SlC)]).drop 1 := ⟨_, rfl⟩
      have e2 : gs.length = t.rows.length := by rw [hgs]; simp
      have RB6 := Lib.hid (show RowS w5 w.heap.size { t with bA := (some ⟨b, o, none⟩), bk := 0, rows := gs } from by
        rw [hw5]
        have h := RB5.out.s_rows (A := (some ⟨b, o, none⟩)) (c := 0) (rs := gs)
        rw [e2] at h; exact h)
      have OO6 := Lib.hid (show OwnS w5 B { t with bA := (some ⟨b, o, none⟩), bk := 0, rows := gs } from by
        rw [hgs]
        have hos := OwnS.drop1 OO5.out (A' := (some ⟨b, o, none⟩)) (c' := 0) ht
        rw [hw5]
        exact hos.only (S := fun i => i = w.heap.size) (Only.cell_ w4 w.heap.size 30 _ rfl) (fun i hi e => RB5.out.apart hos (e ▸ hi)))
      have ON6 := Lib.hid (show Only (BkS t) w w5 from by
        rw [hw5]; exact Only.cell_new ON5.out _ _ _ (Nat.le_refl _))
      have RZ6 := Lib.hid (show RowS w5 (w.heap.size + 1) zeroS from by
        rw [hw5]; exact RZ5.out.other (by omega))
      rw [← hw5]
      have HG := Lib.hid hgs
      clear hw5 hgs ht p30 p29 p30f e2
      have row6 : rowOf w5 w.heap.size = scrA { t with bA := (some ⟨b, o, none⟩), bk := 0, rows := gs } := RB6.out.of
      have rz6 : RowZ w5 (w.heap.size + 1) 31 := RowZ.of RZ6.out.row 31 rfl
      go_wp2_with fail
      refine bodyPost_ret (v := .agg (scrA { t with bA := (some ⟨b, o, none⟩), bk := 0, rows := gs })) (res55 Try.results81 _ _ (w.heap.size + 1) _ (by simp) (RZ6.out.row.setRow) rfl) rfl ⟨_, _, _, rfl, ?_, ?_, ?_⟩
      · exact OO6.out.keepRow (w.heap.size + 1) _ (.inr (RZ6.out.apart OO6.out))
      · rw [HG.out, List.map_drop, MP5.out]; unfold keepL; rw [List.length_map, show t.rows.length + 1 - t.rows.length = 1 by omega]
      · exact Only.row_new ON6.out _ _ (by omega)
    · have ht := HT.out
      rw [if_neg hc1] at ht
      go_upto_region 4 with fail
      obtain ⟨w5, hw5⟩ : ∃ x, x = w4.setCell ⟨w.heap.size, 30, none⟩ (.slice (some ⟨b, o + 1, none⟩) t.rows.length (c' - 1)) := ⟨_, rfl⟩
      obtain ⟨gs, hgs⟩ : ∃ g, g = (t.rows ++ [(⟨A2, c2, ROW⟩ : SlC)]).drop 1 := ⟨_, rfl⟩
      have e2 : gs.length = t.rows.length := by rw [hgs]; simp
      have RB6 := Lib.hid (show RowS w5 w.heap.size { t with bA := (some ⟨b, o + 1, none⟩), bk := (c' - 1), rows := gs } from by
        rw [hw5]
        have h := RB5.out.s_rows (A := (some ⟨b, o + 1, none⟩)) (c := (c' - 1)) (rs := gs)
        rw [e2] at h; exact h)
      have OO6 := Lib.hid (show OwnS w5 B { t with bA := (some ⟨b, o + 1, none⟩), bk := (c' - 1), rows := gs } from by
        rw [hgs]
        have hos := OwnS.drop1 OO5.out (A' := (some ⟨b, o + 1, none⟩)) (c' := (c' - 1)) ht
        rw [hw5]
        exact hos.only (S := fun i => i = w.heap.size) (Only.cell_ w4 w.heap.size 30 _ rfl) (fun i hi e => RB5.out.apart hos (e ▸ hi)))
      have ON6 := Lib.hid (show Only (BkS t) w w5 from by
        rw [hw5]; exact Only.cell_new ON5.out _ _ _ (Nat.le_refl _))
      have RZ6 := Lib.hid (show RowS w5 (w.heap.size + 1) zeroS from by
        rw [hw5]; exact RZ5.out.other (by omega))
      rw [← hw5]
      have HG := Lib.hid hgs
      clear hw5 hgs ht p30 p29 p30f e2
      have row6 : rowOf w5 w.heap.size = scrA { t with bA := (some ⟨b, o + 1, none⟩), bk := (c' - 1), rows := gs } := RB6.out.of
      have rz6 : RowZ w5 (w.heap.size + 1) 31 := RowZ.of RZ6.out.row 31 rfl
      go_wp2_with fail
      refine bodyPost_ret (v := .agg (scrA { t with bA := (some ⟨b, o + 1, none⟩), bk := (c' - 1), rows := gs })) (res55 Try.results81 _ _ (w.heap.size + 1) _ (by simp) (RZ6.out.row.setRow) rfl) rfl ⟨_, _, _, rfl, ?_, ?_, ?_⟩
      · exact OO6.out.keepRow (w.heap.size + 1) _ (.inr (RZ6.out.apart OO6.out))
      · rw [HG.out, List.map_drop, MP5.out]; unfold keepL; rw [List.length_map, show t.rows.length + 1 - t.rows.length = 1 by omega]
      · exact Only.row_new ON6.out _ _ (by omega)
end Go.Proofs.Ythlpchojlddnbaa.Sc
namespace Go.Proofs.Ythlpchojlddnbaa.Sc
open Go.RowKit Go.Proofs.Ythlpchojlddnbaa.Bytes Go.Proofs.Ythlpchojlddnbaa.Rows_ Go.Proofs.Ythlpchojlddnbaa.RowK Go.Proofs.Ythlpchojlddnbaa.Gr Go.Proofs.Ythlpchojlddnbaa.DOk Go.Proofs.Ythlpchojlddnbaa.Opq Go.Proofs.Ythlpchojlddnbaa.Attr
set_option linter.unusedVariables false
attribute [local go_sem ↓] Sc.exec_storeS Sc.exec_loadS
attribute [local go_sem] rowOf_drew blkOf_ptr isHead_ptr aggN_agg setRow_alloc rowZ_at rowZ_past scrA_size one_scr rowOf_alloc_at rowOf_alloc_past
attribute [local go_sem] sa_w sa_h sa_mw sa_mh sa_M sa_aw sa_ah sa_A sa_onAlt sa_x sa_y sa_wrap sa_fg sa_bg sa_b sa_u sa_t sa_top sa_bot sa_noWrap sa_hide sa_sx sa_sy sa_sfg sa_sbg sa_sb sa_su sa_st sa_tabs sa_lim sa_rows
attribute [local go_sem] scr_at0 scr_at1 scr_at2 scr_at3 scr_at4 scr_at5 scr_at6 scr_at7 scr_at8 scr_at9 scr_at10 scr_at11 scr_at12 scr_at13 scr_at14 scr_at15 scr_at16 scr_at17 scr_at18 scr_at19 scr_at20 scr_at21 scr_at22 scr_at23 scr_at24 scr_at25 scr_at26 scr_at27 scr_at28 scr_at29 scr_at30
set_option maxRecDepth 100000 in
set_option maxHeartbeats 3200000 in
theorem spec_ScrDown_of (HKC : KeepC) (s : ScrS) (w : World) (b : Nat) (ho : OwnS w b s) (hn : szS s ≤ 1048576) :
    Calls Try.prog 23 #[.agg (scrA s)] w (AnsS (okF downD s.data) w) := by
  have H0 := Lib.hid (((Below.refl w.heap.size w).alloc (Nat.le_refl _) (.cells (scrA s) 53)).alloc (by simp) (.cells (scrA zeroS) 53))
  have B0 := Lib.hid (show RowS ((w.alloc (.cells (scrA s) 53)).alloc (.cells (scrA zeroS) 53)) w.heap.size s from (RowS.new w s).alloc _)
  have Z0 := Lib.hid (show RowS ((w.alloc (.cells (scrA s) 53)).alloc (.cells (scrA zeroS) 53)) (w.heap.size + 1) zeroS from by have h := RowS.new (w.alloc (.cells (scrA s) 53)) zeroS; simpa using h)
  have hone0 : One #[.int .i64 0, .int .i64 0, .int .i64 0, .int .i64 0, .slice none 0 0, .int .i64 0, .int .i64 0, .slice none 0 0, .bool false, .int .i64 0, .int .i64 0, .bool false, .int .i64 0, .int .i64 0, .bool false, .bool false, .bool false, .int .i64 0, .int .i64 0, .bool false, .bool false, .int .i64 0, .int .i64 0, .int .i64 0, .int .i64 0, .bool false, .bool false, .bool false, .slice none 0 0, .int .i64 0, .slice none 0 0] := one_scr zeroS
  have HO := Lib.hid (fun W (h : Below w.heap.size w W) => ho.below (Nat.le_refl _) h)
  have HOK := Lib.hid (fun W (h : Below w.heap.size w W) => spec_ScrOk_any s W (ho.below (Nat.le_refl _) h).rd hn)
  have HCP := Lib.hid (fun W (h : Below w.heap.size w W) => l09Copy_own s W b (ho.below (Nat.le_refl _) h) hn)
  clear ho
  have HN := Lib.hid hn
  clear hn
  cases hok : okD s.data
  · have HF := Lib.hid (okF_no (f := downD) hok)
    go_enter Try.func23, Try.ntmps23
    go_wp2_with fail
    refine (HOK.out _ H0.out).mono ?_
    rintro e v1 ⟨rfl, hb1⟩
    rw [hok]
    have Z1 := Lib.hid (Z0.out.below hb1 Z0.out.lt)
    have H1 := Lib.hid (H0.out.trans (hb1.mono (by simp; omega)))
    have rz1 : RowZ v1 (w.heap.size + 1) 31 := RowZ.of Z1.out.row 31 rfl
    clear hb1 B0 Z0 H0 HCP HO HOK
    go_wp2_with fail
    refine bodyPost_ret (v := .agg (scrA zeroS)) (res55 Try.results23 _ _ (w.heap.size + 1) _ (by simp) (Z1.out.row.setRow) rfl) rfl ⟨zeroS, rfl, ?_, ?_, ?_⟩
    · exact zeroS_own _ _
    · rw [HF.out]; rfl
    · exact below_setRow H1.out (by omega) _
  · have HF := Lib.hid (okF_yes (f := downD) hok)
    have HOKD := Lib.hid hok
    go_enter Try.func23, Try.ntmps23
    go_wp2_with fail
    refine (HOK.out _ H0.out).mono ?_
    rintro e v1 ⟨rfl, hb1⟩
    rw [hok]
    have B1 := Lib.hid (B0.out.below hb1 B0.out.lt)
    have Z1 := Lib.hid (Z0.out.below hb1 Z0.out.lt)
    have H1 := Lib.hid (H0.out.trans (hb1.mono (by simp; omega)))
    have row1 := B1.out.of
    clear hb1 B0 Z0 H0 HOK hok
    go_wp2_with fail
    refine (HCP.out _ H1.out).mono ?_
    rintro e v2 ⟨t, rfl, ho2, hd2, hb2⟩
    have B2 := Lib.hid (B1.out.below hb2 B1.out.lt)
    have Z2 := Lib.hid (Z1.out.below hb2 Z1.out.lt)
    have zz1 : w.heap.size + 1 < v1.heap.size := Z1.out.lt
    have H2 := Lib.hid (H1.out.trans (hb2.mono H1.out.size))
    have O2 := Lib.hid (ho2.more (base' := w.heap.size + 2) (by omega))
    have D2 := Lib.hid hd2
    have zz2 : w.heap.size + 1 < v2.heap.size := Z2.out.lt
    have zz2' : w.heap.size < v2.heap.size := by omega
    have rz2 : RowZ v2 (w.heap.size + 1) 31 := RowZ.of Z2.out.row 31 rfl
    clear hb2 ho2 hd2 B1 Z1 H1 HCP row1
    have HD := Lib.hid (l09Down_any HKC t (w.heap.size + 2) v2 (by omega) O2.out (by rw [D2.out]; exact HOKD.out))
    go_wp2_with fail
    refine HD.out.mono ?_
    rintro e v3 ⟨t3, rfl, hO, hd, hon⟩
    have Z3 := Lib.hid (Z2.out.only hon (fun e => Z2.out.apart O2.out (.inr (.inr e))))
    have O3 := Lib.hid hO
    have D3 := Lib.hid hd
    have H3 := Lib.hid (Only.below_ hon H2.out H2.out.size (fun i hi => by have := (O2.out.r.blk i hi).1; omega))
    have rz3 : RowZ v3 (w.heap.size + 1) 31 := RowZ.of Z3.out.row 31 rfl
    clear hO hd hon HD rz2
    go_wp2_with fail
    refine bodyPost_ret (v := .agg (scrA t3)) (res55 Try.results23 _ _ (w.heap.size + 1) _ (by simp) (Z3.out.row.setRow) rfl) rfl ⟨t3, rfl, ?_, ?_, ?_⟩
    · exact ((O3.out.row_ _ _ (by omega)).more (by omega))
    · rw [HF.out, D3.out, D2.out]
    · exact below_setRow H3.out (by omega) _
theorem spec_ScrDown_any (s : ScrS) (w : World) (b : Nat) (ho : OwnS w b s) (hn : szS s ≤ 1048576) :
    Calls Try.prog 23 #[.agg (scrA s)] w (AnsS (okF downD s.data) w) := spec_ScrDown_of keepC s w b ho hn
end Go.Proofs.Ythlpchojlddnbaa.Sc

