/- Words and lemmas, merged (once: ScN, ScB) -/
import Derived.Test.YthlpchojlddnbaaScO
import Derived.Laws.Tables
namespace Go.Proofs.Ythlpchojlddnbaa.Sc
open Go.RowKit Go.Proofs.Ythlpchojlddnbaa.Bytes Go.Proofs.Ythlpchojlddnbaa.Rows_ Go.Proofs.Ythlpchojlddnbaa.RowK Go.Proofs.Ythlpchojlddnbaa.Gr Go.Proofs.Ythlpchojlddnbaa.DOk Go.Proofs.Ythlpchojlddnbaa.Opq
set_option linter.unusedVariables false
set_option maxRecDepth 100000
/-- the 38 cells of an open screen: its grids and the rows behind lie at the end -/
def nsL (s : ScrS) : List Value :=
  [.int .i64 s.w, .int .i64 s.h, .int .i64 0, .int .i64 0, .slice none 0 0, .int .i64 0, .int .i64 0, .slice none 0 0, .bool s.onAlt, .int .i64 s.x, .int .i64 s.y, .bool s.wrap,
   .int .i64 s.fg, .int .i64 s.bg, .bool s.b, .bool s.u, .bool s.t, .int .i64 s.top, .int .i64 s.bot, .bool s.noWrap, .bool s.hide, .int .i64 s.sx, .int .i64 s.sy, .int .i64 s.sfg, .int .i64 s.sbg, .bool s.sb, .bool s.su, .bool s.st,
   .slice s.tA s.tabs.length s.tk, .int .i64 s.lim, .slice none 0 0,
   .int .i64 s.mw, .int .i64 s.mh, .slice s.M.A s.M.cs.length s.M.c, .slice s.bA s.rows.length s.bk, .int .i64 s.aw, .int .i64 s.ah, .slice s.A.A s.A.cs.length s.A.c]
def nsA (s : ScrS) : Array Value := (nsL s).toArray
theorem nsA_size (s : ScrS) : (nsA s).size = 38 := rfl
/-- block b is an open screen -/
def RowN (w : World) (b : Nat) (s : ScrS) : Prop := w.heap[b]? = some (.cells (nsA s) 125 (0, 0))
/-- block b is a screen of the model -/
def RowS (w : World) (b : Nat) (s : ScrS) : Prop := w.heap[b]? = some (.cells (scrA s) 53 (0, 0))
section
variable {w w' : World} {b B : Nat} {s : ScrS}
theorem RowN.row (h : RowN w b s) : RowB w b (nsA s) := ⟨_, h⟩
theorem RowS.row (h : RowS w b s) : RowB w b (scrA s) := ⟨_, h⟩
theorem RowN.lt (h : RowN w b s) : b < w.heap.size := (Array.getElem?_eq_some_iff.1 h).1
theorem RowS.lt (h : RowS w b s) : b < w.heap.size := (Array.getElem?_eq_some_iff.1 h).1
theorem RowN.cell (h : RowN w b s) (j : Nat) : w.cell? ⟨b, j, none⟩ = (nsA s)[j]? := h.row.cell j
theorem RowS.cell (h : RowS w b s) (j : Nat) : w.cell? ⟨b, j, none⟩ = (scrA s)[j]? := h.row.cell j
theorem RowN.free (h : RowN w b s) (j : Nat) : w.frozen? ⟨b, j, none⟩ = false := h.row.free j
theorem RowS.free (h : RowS w b s) (j : Nat) : w.frozen? ⟨b, j, none⟩ = false := h.row.free j
theorem RowN.of (h : RowN w b s) : rowOf w b = nsA s := h.row.row
theorem RowS.of (h : RowS w b s) : rowOf w b = scrA s := h.row.row
theorem RowN.below (h : RowN w b s) (hb : Below B w w') (hB : b < B) : RowN w' b s := by unfold RowN; rw [hb.block b hB]; exact h
theorem RowS.below (h : RowS w b s) (hb : Below B w w') (hB : b < B) : RowS w' b s := by unfold RowS; rw [hb.block b hB]; exact h
theorem RowN.only {S : Nat → Prop} (h : RowN w b s) (on : Only S w w') (hn : ¬ S b) : RowN w' b s := by unfold RowN; rw [on.block b h.lt hn]; exact h
theorem RowS.only {S : Nat → Prop} (h : RowS w b s) (on : Only S w w') (hn : ¬ S b) : RowS w' b s := by unfold RowS; rw [on.block b h.lt hn]; exact h
theorem RowN.new (w : World) (s : ScrS) : RowN (w.alloc (.cells (nsA s) 125)) w.heap.size s := heap_alloc_new w _
theorem RowS.new (w : World) (s : ScrS) : RowS (w.alloc (.cells (scrA s) 53)) w.heap.size s := heap_alloc_new w _
theorem RowN.drew (h : RowN w b s) : RowN w.drew b s := h
theorem RowS.drew (h : RowS w b s) : RowS w.drew b s := h
theorem RowN.alloc (h : RowN w b s) (o : Obj) : RowN (w.alloc o) b s := h.below ((Below.refl w.heap.size w).alloc (Nat.le_refl _) o) h.lt
theorem RowS.alloc (h : RowS w b s) (o : Obj) : RowS (w.alloc o) b s := h.below ((Below.refl w.heap.size w).alloc (Nat.le_refl _) o) h.lt
theorem RowN.other {b' j : Nat} {v : Value} (h : RowN w b s) (hne : b ≠ b') : RowN (w.setCell ⟨b', j, none⟩ v) b s := by unfold RowN; rw [heap_setCell_other _ _ _ _ hne]; exact h
theorem RowS.other {b' j : Nat} {v : Value} (h : RowS w b s) (hne : b ≠ b') : RowS (w.setCell ⟨b', j, none⟩ v) b s := by unfold RowS; rw [heap_setCell_other _ _ _ _ hne]; exact h
theorem RowN.row_other {b' : Nat} {D : Array Value} (h : RowN w b s) (hne : b ≠ b') : RowN (w.setRow b' D) b s := by unfold RowN; rw [Go.setRow_other w b' b D hne]; exact h
theorem RowS.row_other {b' : Nat} {D : Array Value} (h : RowS w b s) (hne : b ≠ b') : RowS (w.setRow b' D) b s := by unfold RowS; rw [Go.setRow_other w b' b D hne]; exact h
theorem RowS.store {s' : ScrS} (h : RowS w b s) : RowS (w.setRow b (scrA s')) b s' := setRow_heap w b _ _ _ _ h
/-- an open screen lies apart from rows of other types -/
theorem RowN.ne {base K n : Nat} {E : TypeId} {v : Value} {xs : List Value} (h : RowN w b s) (h' : w.ownsRow base E K v n xs) (hE : E ≠ 125) : v.ownBlock ≠ some b := by
  intro e
  rcases h'.2 with ⟨rfl, _⟩ | ⟨g, cap, cur, rfl, _, hg, _⟩
  · cases e
  · simp [Value.ownBlock] at e; subst e
    unfold RowN at h; rw [hg] at h; injection h with h; injection h with h1 h2; exact hE h2
theorem RowN.neR {base n c : Nat} {A : Option Addr} {rs : List SlC} (h : RowN w b s) (h' : OwnR w base A n c rs) : (Value.slice A n c).ownBlock ≠ some b := by
  intro e
  rcases h'.2 with ⟨rfl, _⟩ | ⟨g, p, cur, rfl, _, hg, _⟩
  · cases e
  · simp [Value.ownBlock] at e; subst e
    unfold RowN at h; rw [hg] at h; injection h with h; injection h with h1 h2; exact absurd h2 (by decide)
theorem RowN.apart {base : Nat} {t : ScrS} (h : RowN w b s) (h' : OwnS w base t) : ¬ SS t b := by
  rintro (⟨r, hr, hi⟩ | hi | hi)
  · exact h.ne (h'.c.1 r hr) (by decide) hi
  · exact h.ne h'.t (by decide) hi
  · exact h.neR h'.r hi
theorem RowN.own {base : Nat} {t : ScrS} {j : Nat} {v : Value} (h : RowN w b s) (h' : OwnS w base t) : OwnS (w.setCell ⟨b, j, none⟩ v) base t :=
  h'.only (S := fun i => i = b) (Only.cell_ w b j v rfl) (fun i hi e => h.apart h' (e ▸ hi))

/-- a screen without its grids and rows -/
def zS (s : ScrS) : ScrS := { s with mw := 0, mh := 0, M := ⟨none, 0, []⟩, aw := 0, ah := 0, A := ⟨none, 0, []⟩, bA := none, bk := 0, rows := [] }
def pre31 (C : Array Value) : Array Value := (C.toList.take 31).toArray
theorem ns_pre (s : ScrS) : pre31 (nsA s) = scrA (zS s) := rfl
theorem loadSP (w : World) (b : Nat) (h : (rowOf w b).size = 38) : (Instr.loadAt 53 (.pointer (some ⟨b, 0, none⟩))).run Try.prog w = .ok (.agg (pre31 (rowOf w b))) w := by
  unfold rowOf at h ⊢
  match hb : w.heap[b]?, h with
  | some (.cells C T' fr), h =>
    have h' : C.size = 38 := h
    simp only [Instr.loadAt, Instr.sureAddr, Sem.run_bind, Sem.run_pure, Result.andThen_ok]
    have hlen : (pre31 C).toList.length = 31 := by unfold pre31; simp; omega
    have hl : (loadCells ⟨b, 0, none⟩ 31).run Try.prog w = .ok (pre31 C) w := by
      have h1 := run_loadCells_list (P := Try.prog) w ⟨b, 0, none⟩ (pre31 C).toList (fun j v hv => by
        have hadd : (⟨b, 0, none⟩ : Addr).add j = ⟨b, j, none⟩ := by unfold Addr.add; split <;> simp_all
        rw [hadd]
        have hj : j < 31 := by rw [← hlen]; exact (List.getElem?_eq_some_iff.1 hv).1
        unfold pre31 at hv
        rw [List.getElem?_take, if_pos hj, Array.getElem?_toList] at hv
        simp only [World.cell?, hb]; exact hv)
      rw [hlen, Array.toArray_toList] at h1; exact h1
    have hi := size55
    cases hq : Try.prog.info? 53 with
    | none => rw [hq] at hi; simp at hi
    | some i =>
      have hs : i.size = 31 := by rw [hq] at hi; simpa using hi
      have hagg : (isAgg 53).run Try.prog w = .ok true w := by
        unfold isAgg
        rw [Sem.run_bind, run_underlying Try.underlying53 w]
        rfl
      simp [loadVar, Sem.run_bind, hagg, sizeOf, typeInfo, hq, hs, hl]
theorem exec_loadSP {ρ : Operand → Value} {d : Option Tmp} {x : Operand} {ty : TypeId} {pos : String} {af : Array Edge} {g : Option (Nat × Bool)} (w : World) (hp : isHead (ρ x) = true) (h : (rowOf w (blkOf (ρ x))).size = 38) :
    (execOp ρ ⟨d, .load 53 x, ty, pos, af, g⟩).run Try.prog w = .ok (.value (.agg (pre31 (rowOf w (blkOf (ρ x)))))) w := by
  have e := of_head hp
  show (Instr.loadAt 53 (ρ x) >>= fun a => pure (Next.value a)).run _ w = _
  generalize ρ x = v at *
  generalize blkOf v = b at *
  subst e
  rw [Sem.run_bind, loadSP w b h]; rfl
theorem ns_at0 (s : ScrS) : (nsA s)[0]? = some (.int .i64 s.w) := rfl
theorem ns_at1 (s : ScrS) : (nsA s)[1]? = some (.int .i64 s.h) := rfl
theorem ns_at31 (s : ScrS) : (nsA s)[31]? = some (.int .i64 s.mw) := rfl
theorem ns_at32 (s : ScrS) : (nsA s)[32]? = some (.int .i64 s.mh) := rfl
theorem ns_at33 (s : ScrS) : (nsA s)[33]? = some (.slice s.M.A s.M.cs.length s.M.c) := rfl
theorem ns_at35 (s : ScrS) : (nsA s)[35]? = some (.int .i64 s.aw) := rfl
theorem ns_at36 (s : ScrS) : (nsA s)[36]? = some (.int .i64 s.ah) := rfl
theorem ns_at37 (s : ScrS) : (nsA s)[37]? = some (.slice s.A.A s.A.cs.length s.A.c) := rfl
theorem ns_at8 (s : ScrS) : (nsA s)[8]? = some (.bool s.onAlt) := rfl
theorem ns_at9 (s : ScrS) : (nsA s)[9]? = some (.int .i64 s.x) := rfl
theorem ns_at10 (s : ScrS) : (nsA s)[10]? = some (.int .i64 s.y) := rfl
theorem ns_at11 (s : ScrS) : (nsA s)[11]? = some (.bool s.wrap) := rfl
theorem ns_at12 (s : ScrS) : (nsA s)[12]? = some (.int .i64 s.fg) := rfl
theorem ns_at13 (s : ScrS) : (nsA s)[13]? = some (.int .i64 s.bg) := rfl
theorem ns_at14 (s : ScrS) : (nsA s)[14]? = some (.bool s.b) := rfl
theorem ns_at15 (s : ScrS) : (nsA s)[15]? = some (.bool s.u) := rfl
theorem ns_at16 (s : ScrS) : (nsA s)[16]? = some (.bool s.t) := rfl
theorem ns_at17 (s : ScrS) : (nsA s)[17]? = some (.int .i64 s.top) := rfl
theorem ns_at18 (s : ScrS) : (nsA s)[18]? = some (.int .i64 s.bot) := rfl
theorem ns_at19 (s : ScrS) : (nsA s)[19]? = some (.bool s.noWrap) := rfl
theorem ns_at20 (s : ScrS) : (nsA s)[20]? = some (.bool s.hide) := rfl
theorem ns_at21 (s : ScrS) : (nsA s)[21]? = some (.int .i64 s.sx) := rfl
theorem ns_at22 (s : ScrS) : (nsA s)[22]? = some (.int .i64 s.sy) := rfl
theorem ns_at23 (s : ScrS) : (nsA s)[23]? = some (.int .i64 s.sfg) := rfl
theorem ns_at24 (s : ScrS) : (nsA s)[24]? = some (.int .i64 s.sbg) := rfl
theorem ns_at25 (s : ScrS) : (nsA s)[25]? = some (.bool s.sb) := rfl
theorem ns_at26 (s : ScrS) : (nsA s)[26]? = some (.bool s.su) := rfl
theorem ns_at27 (s : ScrS) : (nsA s)[27]? = some (.bool s.st) := rfl
theorem ns_at28 (s : ScrS) : (nsA s)[28]? = some (.slice s.tA s.tabs.length s.tk) := rfl
theorem ns_at29 (s : ScrS) : (nsA s)[29]? = some (.int .i64 s.lim) := rfl
theorem ns_at34 (s : ScrS) : (nsA s)[34]? = some (.slice s.bA s.rows.length s.bk) := rfl
theorem ns_at2 (s : ScrS) : (nsA s)[2]? = some (.int .i64 0) := rfl
theorem ns_at3 (s : ScrS) : (nsA s)[3]? = some (.int .i64 0) := rfl
theorem ns_at4 (s : ScrS) : (nsA s)[4]? = some (.slice none 0 0) := rfl
theorem ns_at5 (s : ScrS) : (nsA s)[5]? = some (.int .i64 0) := rfl
theorem ns_at6 (s : ScrS) : (nsA s)[6]? = some (.int .i64 0) := rfl
theorem ns_at7 (s : ScrS) : (nsA s)[7]? = some (.slice none 0 0) := rfl
theorem ns_at30 (s : ScrS) : (nsA s)[30]? = some (.slice none 0 0) := rfl
theorem RowN.s_w {z : Int} (h : RowN w b s) : RowN (w.setCell ⟨b, 0, none⟩ (.int .i64 z)) b { s with w := z } := heap_setCell_same w b 0 _ _ _ h
theorem RowN.s_h {z : Int} (h : RowN w b s) : RowN (w.setCell ⟨b, 1, none⟩ (.int .i64 z)) b { s with h := z } := heap_setCell_same w b 1 _ _ _ h
theorem RowN.s_mw {z : Int} (h : RowN w b s) : RowN (w.setCell ⟨b, 31, none⟩ (.int .i64 z)) b { s with mw := z } := heap_setCell_same w b 31 _ _ _ h
theorem RowN.s_mh {z : Int} (h : RowN w b s) : RowN (w.setCell ⟨b, 32, none⟩ (.int .i64 z)) b { s with mh := z } := heap_setCell_same w b 32 _ _ _ h
theorem RowN.s_M {z : SlC} (h : RowN w b s) : RowN (w.setCell ⟨b, 33, none⟩ (.slice z.A z.cs.length z.c)) b { s with M := z } := heap_setCell_same w b 33 _ _ _ h
theorem RowN.s_aw {z : Int} (h : RowN w b s) : RowN (w.setCell ⟨b, 35, none⟩ (.int .i64 z)) b { s with aw := z } := heap_setCell_same w b 35 _ _ _ h
theorem RowN.s_ah {z : Int} (h : RowN w b s) : RowN (w.setCell ⟨b, 36, none⟩ (.int .i64 z)) b { s with ah := z } := heap_setCell_same w b 36 _ _ _ h
theorem RowN.s_A {z : SlC} (h : RowN w b s) : RowN (w.setCell ⟨b, 37, none⟩ (.slice z.A z.cs.length z.c)) b { s with A := z } := heap_setCell_same w b 37 _ _ _ h
theorem RowN.s_x {z : Int} (h : RowN w b s) : RowN (w.setCell ⟨b, 9, none⟩ (.int .i64 z)) b { s with x := z } := heap_setCell_same w b 9 _ _ _ h
theorem RowN.s_y {z : Int} (h : RowN w b s) : RowN (w.setCell ⟨b, 10, none⟩ (.int .i64 z)) b { s with y := z } := heap_setCell_same w b 10 _ _ _ h
theorem RowN.s_wrap {z : Bool} (h : RowN w b s) : RowN (w.setCell ⟨b, 11, none⟩ (.bool z)) b { s with wrap := z } := heap_setCell_same w b 11 _ _ _ h
theorem RowN.s_top {z : Int} (h : RowN w b s) : RowN (w.setCell ⟨b, 17, none⟩ (.int .i64 z)) b { s with top := z } := heap_setCell_same w b 17 _ _ _ h
theorem RowN.s_bot {z : Int} (h : RowN w b s) : RowN (w.setCell ⟨b, 18, none⟩ (.int .i64 z)) b { s with bot := z } := heap_setCell_same w b 18 _ _ _ h
theorem RowN.s_sx {z : Int} (h : RowN w b s) : RowN (w.setCell ⟨b, 21, none⟩ (.int .i64 z)) b { s with sx := z } := heap_setCell_same w b 21 _ _ _ h
theorem RowN.s_sy {z : Int} (h : RowN w b s) : RowN (w.setCell ⟨b, 22, none⟩ (.int .i64 z)) b { s with sy := z } := heap_setCell_same w b 22 _ _ _ h
theorem RowN.s_tabs {A : Option Addr} {c : Nat} {zs : List Int} (h : RowN w b s) : RowN (w.setCell ⟨b, 28, none⟩ (.slice A zs.length c)) b { s with tA := A, tk := c, tabs := zs } := heap_setCell_same w b 28 _ _ _ h
theorem RowN.s_rows {A : Option Addr} {c : Nat} {rs : List SlC} (h : RowN w b s) : RowN (w.setCell ⟨b, 34, none⟩ (.slice A rs.length c)) b { s with bA := A, bk := c, rows := rs } := heap_setCell_same w b 34 _ _ _ h
theorem RowS.s_w {z : Int} (h : RowS w b s) : RowS (w.setCell ⟨b, 0, none⟩ (.int .i64 z)) b { s with w := z } := heap_setCell_same w b 0 _ _ _ h
theorem RowS.s_h {z : Int} (h : RowS w b s) : RowS (w.setCell ⟨b, 1, none⟩ (.int .i64 z)) b { s with h := z } := heap_setCell_same w b 1 _ _ _ h
theorem RowS.s_mw {z : Int} (h : RowS w b s) : RowS (w.setCell ⟨b, 2, none⟩ (.int .i64 z)) b { s with mw := z } := heap_setCell_same w b 2 _ _ _ h
theorem RowS.s_mh {z : Int} (h : RowS w b s) : RowS (w.setCell ⟨b, 3, none⟩ (.int .i64 z)) b { s with mh := z } := heap_setCell_same w b 3 _ _ _ h
theorem RowS.s_M {z : SlC} (h : RowS w b s) : RowS (w.setCell ⟨b, 4, none⟩ (.slice z.A z.cs.length z.c)) b { s with M := z } := heap_setCell_same w b 4 _ _ _ h
theorem RowS.s_aw {z : Int} (h : RowS w b s) : RowS (w.setCell ⟨b, 5, none⟩ (.int .i64 z)) b { s with aw := z } := heap_setCell_same w b 5 _ _ _ h
theorem RowS.s_ah {z : Int} (h : RowS w b s) : RowS (w.setCell ⟨b, 6, none⟩ (.int .i64 z)) b { s with ah := z } := heap_setCell_same w b 6 _ _ _ h
theorem RowS.s_A {z : SlC} (h : RowS w b s) : RowS (w.setCell ⟨b, 7, none⟩ (.slice z.A z.cs.length z.c)) b { s with A := z } := heap_setCell_same w b 7 _ _ _ h
theorem RowS.s_x {z : Int} (h : RowS w b s) : RowS (w.setCell ⟨b, 9, none⟩ (.int .i64 z)) b { s with x := z } := heap_setCell_same w b 9 _ _ _ h
theorem RowS.s_y {z : Int} (h : RowS w b s) : RowS (w.setCell ⟨b, 10, none⟩ (.int .i64 z)) b { s with y := z } := heap_setCell_same w b 10 _ _ _ h
theorem RowS.s_wrap {z : Bool} (h : RowS w b s) : RowS (w.setCell ⟨b, 11, none⟩ (.bool z)) b { s with wrap := z } := heap_setCell_same w b 11 _ _ _ h
theorem RowS.s_top {z : Int} (h : RowS w b s) : RowS (w.setCell ⟨b, 17, none⟩ (.int .i64 z)) b { s with top := z } := heap_setCell_same w b 17 _ _ _ h
theorem RowS.s_bot {z : Int} (h : RowS w b s) : RowS (w.setCell ⟨b, 18, none⟩ (.int .i64 z)) b { s with bot := z } := heap_setCell_same w b 18 _ _ _ h
theorem RowS.s_sx {z : Int} (h : RowS w b s) : RowS (w.setCell ⟨b, 21, none⟩ (.int .i64 z)) b { s with sx := z } := heap_setCell_same w b 21 _ _ _ h
theorem RowS.s_sy {z : Int} (h : RowS w b s) : RowS (w.setCell ⟨b, 22, none⟩ (.int .i64 z)) b { s with sy := z } := heap_setCell_same w b 22 _ _ _ h
theorem RowS.s_tabs {A : Option Addr} {c : Nat} {zs : List Int} (h : RowS w b s) : RowS (w.setCell ⟨b, 28, none⟩ (.slice A zs.length c)) b { s with tA := A, tk := c, tabs := zs } := heap_setCell_same w b 28 _ _ _ h
theorem RowS.s_rows {A : Option Addr} {c : Nat} {rs : List SlC} (h : RowS w b s) : RowS (w.setCell ⟨b, 30, none⟩ (.slice A rs.length c)) b { s with bA := A, bk := c, rows := rs } := heap_setCell_same w b 30 _ _ _ h
end
theorem ns_w (s : ScrS) (z : Int) : (nsA s).setIfInBounds 0 (.int .i64 z) = nsA { s with w := z } := rfl
theorem ns_h (s : ScrS) (z : Int) : (nsA s).setIfInBounds 1 (.int .i64 z) = nsA { s with h := z } := rfl
theorem ns_mw (s : ScrS) (z : Int) : (nsA s).setIfInBounds 31 (.int .i64 z) = nsA { s with mw := z } := rfl
theorem ns_mh (s : ScrS) (z : Int) : (nsA s).setIfInBounds 32 (.int .i64 z) = nsA { s with mh := z } := rfl
theorem ns_M (s : ScrS) (A : Option Addr) (c : Nat) (cs : List CellD) : (nsA s).setIfInBounds 33 (.slice A cs.length c) = nsA { s with M := ⟨A, c, cs⟩ } := rfl
theorem ns_aw (s : ScrS) (z : Int) : (nsA s).setIfInBounds 35 (.int .i64 z) = nsA { s with aw := z } := rfl
theorem ns_ah (s : ScrS) (z : Int) : (nsA s).setIfInBounds 36 (.int .i64 z) = nsA { s with ah := z } := rfl
theorem ns_A (s : ScrS) (A : Option Addr) (c : Nat) (cs : List CellD) : (nsA s).setIfInBounds 37 (.slice A cs.length c) = nsA { s with A := ⟨A, c, cs⟩ } := rfl
theorem ns_onAlt (s : ScrS) (z : Bool) : (nsA s).setIfInBounds 8 (.bool z) = nsA { s with onAlt := z } := rfl
theorem ns_x (s : ScrS) (z : Int) : (nsA s).setIfInBounds 9 (.int .i64 z) = nsA { s with x := z } := rfl
theorem ns_y (s : ScrS) (z : Int) : (nsA s).setIfInBounds 10 (.int .i64 z) = nsA { s with y := z } := rfl
theorem ns_wrap (s : ScrS) (z : Bool) : (nsA s).setIfInBounds 11 (.bool z) = nsA { s with wrap := z } := rfl
theorem ns_fg (s : ScrS) (z : Int) : (nsA s).setIfInBounds 12 (.int .i64 z) = nsA { s with fg := z } := rfl
theorem ns_bg (s : ScrS) (z : Int) : (nsA s).setIfInBounds 13 (.int .i64 z) = nsA { s with bg := z } := rfl
theorem ns_b (s : ScrS) (z : Bool) : (nsA s).setIfInBounds 14 (.bool z) = nsA { s with b := z } := rfl
theorem ns_u (s : ScrS) (z : Bool) : (nsA s).setIfInBounds 15 (.bool z) = nsA { s with u := z } := rfl
theorem ns_t (s : ScrS) (z : Bool) : (nsA s).setIfInBounds 16 (.bool z) = nsA { s with t := z } := rfl
theorem ns_top (s : ScrS) (z : Int) : (nsA s).setIfInBounds 17 (.int .i64 z) = nsA { s with top := z } := rfl
theorem ns_bot (s : ScrS) (z : Int) : (nsA s).setIfInBounds 18 (.int .i64 z) = nsA { s with bot := z } := rfl
theorem ns_noWrap (s : ScrS) (z : Bool) : (nsA s).setIfInBounds 19 (.bool z) = nsA { s with noWrap := z } := rfl
theorem ns_hide (s : ScrS) (z : Bool) : (nsA s).setIfInBounds 20 (.bool z) = nsA { s with hide := z } := rfl
theorem ns_sx (s : ScrS) (z : Int) : (nsA s).setIfInBounds 21 (.int .i64 z) = nsA { s with sx := z } := rfl
theorem ns_sy (s : ScrS) (z : Int) : (nsA s).setIfInBounds 22 (.int .i64 z) = nsA { s with sy := z } := rfl
theorem ns_sfg (s : ScrS) (z : Int) : (nsA s).setIfInBounds 23 (.int .i64 z) = nsA { s with sfg := z } := rfl
theorem ns_sbg (s : ScrS) (z : Int) : (nsA s).setIfInBounds 24 (.int .i64 z) = nsA { s with sbg := z } := rfl
theorem ns_sb (s : ScrS) (z : Bool) : (nsA s).setIfInBounds 25 (.bool z) = nsA { s with sb := z } := rfl
theorem ns_su (s : ScrS) (z : Bool) : (nsA s).setIfInBounds 26 (.bool z) = nsA { s with su := z } := rfl
theorem ns_st (s : ScrS) (z : Bool) : (nsA s).setIfInBounds 27 (.bool z) = nsA { s with st := z } := rfl
theorem ns_tabs (s : ScrS) (A : Option Addr) (c : Nat) (zs : List Int) : (nsA s).setIfInBounds 28 (.slice A zs.length c) = nsA { s with tA := A, tk := c, tabs := zs } := rfl
theorem ns_lim (s : ScrS) (z : Int) : (nsA s).setIfInBounds 29 (.int .i64 z) = nsA { s with lim := z } := rfl
theorem ns_rows (s : ScrS) (A : Option Addr) (c : Nat) (rs : List SlC) : (nsA s).setIfInBounds 34 (.slice A rs.length c) = nsA { s with bA := A, bk := c, rows := rs } := rfl
theorem sa_w (s : ScrS) (z : Int) : (scrA s).setIfInBounds 0 (.int .i64 z) = scrA { s with w := z } := rfl
theorem sa_h (s : ScrS) (z : Int) : (scrA s).setIfInBounds 1 (.int .i64 z) = scrA { s with h := z } := rfl
theorem sa_mw (s : ScrS) (z : Int) : (scrA s).setIfInBounds 2 (.int .i64 z) = scrA { s with mw := z } := rfl
theorem sa_mh (s : ScrS) (z : Int) : (scrA s).setIfInBounds 3 (.int .i64 z) = scrA { s with mh := z } := rfl
theorem sa_M (s : ScrS) (A : Option Addr) (c : Nat) (cs : List CellD) : (scrA s).setIfInBounds 4 (.slice A cs.length c) = scrA { s with M := ⟨A, c, cs⟩ } := rfl
theorem sa_aw (s : ScrS) (z : Int) : (scrA s).setIfInBounds 5 (.int .i64 z) = scrA { s with aw := z } := rfl
theorem sa_ah (s : ScrS) (z : Int) : (scrA s).setIfInBounds 6 (.int .i64 z) = scrA { s with ah := z } := rfl
theorem sa_A (s : ScrS) (A : Option Addr) (c : Nat) (cs : List CellD) : (scrA s).setIfInBounds 7 (.slice A cs.length c) = scrA { s with A := ⟨A, c, cs⟩ } := rfl
theorem sa_onAlt (s : ScrS) (z : Bool) : (scrA s).setIfInBounds 8 (.bool z) = scrA { s with onAlt := z } := rfl
theorem sa_x (s : ScrS) (z : Int) : (scrA s).setIfInBounds 9 (.int .i64 z) = scrA { s with x := z } := rfl
theorem sa_y (s : ScrS) (z : Int) : (scrA s).setIfInBounds 10 (.int .i64 z) = scrA { s with y := z } := rfl
theorem sa_wrap (s : ScrS) (z : Bool) : (scrA s).setIfInBounds 11 (.bool z) = scrA { s with wrap := z } := rfl
theorem sa_fg (s : ScrS) (z : Int) : (scrA s).setIfInBounds 12 (.int .i64 z) = scrA { s with fg := z } := rfl
theorem sa_bg (s : ScrS) (z : Int) : (scrA s).setIfInBounds 13 (.int .i64 z) = scrA { s with bg := z } := rfl
theorem sa_b (s : ScrS) (z : Bool) : (scrA s).setIfInBounds 14 (.bool z) = scrA { s with b := z } := rfl
theorem sa_u (s : ScrS) (z : Bool) : (scrA s).setIfInBounds 15 (.bool z) = scrA { s with u := z } := rfl
theorem sa_t (s : ScrS) (z : Bool) : (scrA s).setIfInBounds 16 (.bool z) = scrA { s with t := z } := rfl
theorem sa_top (s : ScrS) (z : Int) : (scrA s).setIfInBounds 17 (.int .i64 z) = scrA { s with top := z } := rfl
theorem sa_bot (s : ScrS) (z : Int) : (scrA s).setIfInBounds 18 (.int .i64 z) = scrA { s with bot := z } := rfl
theorem sa_noWrap (s : ScrS) (z : Bool) : (scrA s).setIfInBounds 19 (.bool z) = scrA { s with noWrap := z } := rfl
theorem sa_hide (s : ScrS) (z : Bool) : (scrA s).setIfInBounds 20 (.bool z) = scrA { s with hide := z } := rfl
theorem sa_sx (s : ScrS) (z : Int) : (scrA s).setIfInBounds 21 (.int .i64 z) = scrA { s with sx := z } := rfl
theorem sa_sy (s : ScrS) (z : Int) : (scrA s).setIfInBounds 22 (.int .i64 z) = scrA { s with sy := z } := rfl
theorem sa_sfg (s : ScrS) (z : Int) : (scrA s).setIfInBounds 23 (.int .i64 z) = scrA { s with sfg := z } := rfl
theorem sa_sbg (s : ScrS) (z : Int) : (scrA s).setIfInBounds 24 (.int .i64 z) = scrA { s with sbg := z } := rfl
theorem sa_sb (s : ScrS) (z : Bool) : (scrA s).setIfInBounds 25 (.bool z) = scrA { s with sb := z } := rfl
theorem sa_su (s : ScrS) (z : Bool) : (scrA s).setIfInBounds 26 (.bool z) = scrA { s with su := z } := rfl
theorem sa_st (s : ScrS) (z : Bool) : (scrA s).setIfInBounds 27 (.bool z) = scrA { s with st := z } := rfl
theorem sa_tabs (s : ScrS) (A : Option Addr) (c : Nat) (zs : List Int) : (scrA s).setIfInBounds 28 (.slice A zs.length c) = scrA { s with tA := A, tk := c, tabs := zs } := rfl
theorem sa_lim (s : ScrS) (z : Int) : (scrA s).setIfInBounds 29 (.int .i64 z) = scrA { s with lim := z } := rfl
theorem sa_rows (s : ScrS) (A : Option Addr) (c : Nat) (rs : List SlC) : (scrA s).setIfInBounds 30 (.slice A rs.length c) = scrA { s with bA := A, bk := c, rows := rs } := rfl
end Go.Proofs.Ythlpchojlddnbaa.Sc
namespace Go.Proofs.Ythlpchojlddnbaa.Sc
open Go.RowKit Go.Proofs.Ythlpchojlddnbaa.Bytes Go.Proofs.Ythlpchojlddnbaa.Rows_ Go.Proofs.Ythlpchojlddnbaa.RowK Go.Proofs.Ythlpchojlddnbaa.Gr Go.Proofs.Ythlpchojlddnbaa.DOk Go.Proofs.Ythlpchojlddnbaa.Opq
set_option linter.unusedVariables false
def joinN (v0 v1 v2 : Value) : Array Value := (v0.cells.toList ++ (v1.cells.toList ++ v2.cells.toList)).toArray
set_option maxRecDepth 100000 in
theorem builtN (c0 c1 c2 c3 c4 c5 c6 c7 c8 c9 c10 c11 c12 c13 c14 c15 c16 c17 c18 c19 c20 c21 c22 c23 c24 c25 c26 c27 c28 c29 c30 a b c d e f g : Value) : Try.prog.built 125 [(0, .agg #[c0, c1, c2, c3, c4, c5, c6, c7, c8, c9, c10, c11, c12, c13, c14, c15, c16, c17, c18, c19, c20, c21, c22, c23, c24, c25, c26, c27, c28, c29, c30]), (1, .agg #[a, b, c, d]), (2, .agg #[e, f, g])] = some (joinN (.agg #[c0, c1, c2, c3, c4, c5, c6, c7, c8, c9, c10, c11, c12, c13, c14, c15, c16, c17, c18, c19, c20, c21, c22, c23, c24, c25, c26, c27, c28, c29, c30]) (.agg #[a, b, c, d]) (.agg #[e, f, g])) := by kernel_rfl
theorem len31 {C : Array Value} (h : C.size = 31) : ∃ c0 c1 c2 c3 c4 c5 c6 c7 c8 c9 c10 c11 c12 c13 c14 c15 c16 c17 c18 c19 c20 c21 c22 c23 c24 c25 c26 c27 c28 c29 c30, C = #[c0, c1, c2, c3, c4, c5, c6, c7, c8, c9, c10, c11, c12, c13, c14, c15, c16, c17, c18, c19, c20, c21, c22, c23, c24, c25, c26, c27, c28, c29, c30] := by
  obtain ⟨l⟩ := C
  have h' : l.length = 31 := h
  match l, h' with
  | [c0, c1, c2, c3, c4, c5, c6, c7, c8, c9, c10, c11, c12, c13, c14, c15, c16, c17, c18, c19, c20, c21, c22, c23, c24, c25, c26, c27, c28, c29, c30], _ => exact ⟨c0, c1, c2, c3, c4, c5, c6, c7, c8, c9, c10, c11, c12, c13, c14, c15, c16, c17, c18, c19, c20, c21, c22, c23, c24, c25, c26, c27, c28, c29, c30, rfl⟩
theorem of_aggN {n : Nat} {v : Value} (h : aggN n v = true) : ∃ C : Array Value, v = .agg C ∧ C.size = n := by
  cases v <;> simp [aggN] at h
  exact ⟨_, rfl, h⟩
theorem built_of {v0 v1 v2 : Value} (h0 : aggN 31 v0 = true) (h1 : aggN 4 v1 = true) (h2 : aggN 3 v2 = true) : Try.prog.built 125 [(0, v0), (1, v1), (2, v2)] = some (joinN v0 v1 v2) := by
  obtain ⟨C0, rfl, e0⟩ := of_aggN h0
  obtain ⟨C1, rfl, e1⟩ := of_aggN h1
  obtain ⟨C2, rfl, e2⟩ := of_aggN h2
  obtain ⟨c0, c1, c2, c3, c4, c5, c6, c7, c8, c9, c10, c11, c12, c13, c14, c15, c16, c17, c18, c19, c20, c21, c22, c23, c24, c25, c26, c27, c28, c29, c30, rfl⟩ := len31 e0
  obtain ⟨l1⟩ := C1
  have e1' : l1.length = 4 := e1
  obtain ⟨l2⟩ := C2
  have e2' : l2.length = 3 := e2
  match l1, e1', l2, e2' with
  | [a, b, c, d], _, [e, f, g], _ => exact builtN _ _ _ _ _ _ _ _ _ _ _ _ _ _ _ _ _ _ _ _ _ _ _ _ _ _ _ _ _ _ _ a b c d e f g
set_option maxRecDepth 100000 in
theorem exec_buildN {ρ : Operand → Value} {dst : Option Tmp} {x0 x1 x2 : Operand} {ty : TypeId} {pos : String} {af : Array Edge} {g : Option (Nat × Bool)} (w : World) (h0 : aggN 31 (ρ x0) = true) (h1 : aggN 4 (ρ x1) = true) (h2 : aggN 3 (ρ x2) = true) :
    (execOp ρ ⟨dst, .build 125 #[(0, x0), (1, x1), (2, x2)], ty, pos, af, g⟩).run Try.prog w = .ok (.value (.agg (joinN (ρ x0) (ρ x1) (ρ x2)))) w := by
  have hm : ((#[(0, x0), (1, x1), (2, x2)] : Array (Nat × Operand)).map fun p => (p.1, ρ p.2)) = #[(0, ρ x0), (1, ρ x1), (2, ρ x2)] := by simp
  show (Instr.build 125 ((#[(0, x0), (1, x1), (2, x2)] : Array (Nat × Operand)).map fun p => (p.1, ρ p.2)) >>= fun a => pure (Next.value a)).run _ w = _
  rw [hm, Sem.run_bind, run_build w 125 _ _ (built_of h0 h1 h2)]; rfl
def xA (s t : ScrS) : Array Value := (scrL s ++ [Value.int .i64 t.mw, .int .i64 t.mh, .slice t.M.A t.M.cs.length t.M.c, .slice t.bA t.rows.length t.bk, .int .i64 t.aw, .int .i64 t.ah, .slice t.A.A t.A.cs.length t.A.c]).toArray
theorem join_ns (s : ScrS) (mw mh aw ah : Int) (A1 A2 A3 : Option Addr) (n1 n2 n3 c1 c2 c3 : Nat) : joinN (.agg (scrA s)) (.agg #[.int .i64 mw, .int .i64 mh, .slice A1 n1 c1, .slice A2 n2 c2]) (.agg #[.int .i64 aw, .int .i64 ah, .slice A3 n3 c3]) = (scrL s ++ [Value.int .i64 mw, .int .i64 mh, .slice A1 n1 c1, .slice A2 n2 c2, .int .i64 aw, .int .i64 ah, .slice A3 n3 c3]).toArray := rfl
end Go.Proofs.Ythlpchojlddnbaa.Sc

