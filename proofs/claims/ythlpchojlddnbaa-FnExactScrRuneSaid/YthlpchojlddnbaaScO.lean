/- How a walk meets whole screens in variables: the load and the store of all cells at once, as rewrite rules; the frame of what a block holds. -/
import Derived.Test.YthlpchojlddnbaaScW
namespace Go.Proofs.Ythlpchojlddnbaa.Sc
open Go.RowKit Go.Proofs.Ythlpchojlddnbaa.Bytes Go.Proofs.Ythlpchojlddnbaa.Rows_ Go.Proofs.Ythlpchojlddnbaa.RowK Go.Proofs.Ythlpchojlddnbaa.Gr Go.Proofs.Ythlpchojlddnbaa.DOk Go.Proofs.Ythlpchojlddnbaa.Opq
set_option linter.unusedVariables false
/-- a variable of n cells that may be written -/
def RowZ (w : World) (b n : Nat) : Prop := ∃ C T, w.heap[b]? = some (.cells C T (0, 0)) ∧ C.size = n
/-- each of the cells is one value -/
def One (C : Array Value) : Prop := C.all (·.oneCell') = true
theorem RowZ.of {w : World} {b : Nat} {C : Array Value} (h : RowB w b C) (n : Nat) (hn : C.size = n) : RowZ w b n := by obtain ⟨T, h⟩ := h; exact ⟨C, T, h, hn⟩
theorem RowZ.drew {w : World} {b n : Nat} : RowZ w.drew b n ↔ RowZ w b n := Iff.rfl
theorem RowZ.set {w : World} {b n b' j : Nat} {v : Value} : RowZ (w.setCell ⟨b', j, none⟩ v) b n ↔ RowZ w b n := by
  unfold RowZ World.setCell
  simp only [Array.getElem?_modify]
  by_cases e : b' = b
  · subst e
    rw [if_pos rfl]
    constructor
    · rintro ⟨C, T, h, hn⟩
      rcases hq : w.heap[b']? with _ | o
      · rw [hq] at h; simp at h
      · rw [hq] at h
        cases o <;> simp at h
        obtain ⟨rfl, rfl, rfl⟩ := h
        exact ⟨_, _, rfl, by simpa using hn⟩
    · rintro ⟨C, T, h, hn⟩
      exact ⟨_, T, by rw [h]; rfl, by simpa using hn⟩
  · rw [if_neg e]
theorem rowOf_set (w : World) (b j : Nat) (v : Value) : rowOf (w.setCell ⟨b, j, none⟩ v) b = (rowOf w b).setIfInBounds j v := by
  unfold rowOf World.setCell
  simp only [Array.getElem?_modify, if_true]
  rcases w.heap[b]? with _ | o
  · simp
  · cases o <;> simp
theorem size50 : (Try.prog.info? 49).map (·.size) = some (30 + 1) := by kernel_rfl
theorem size55 : (Try.prog.info? 53).map (·.size) = some (30 + 1) := by kernel_rfl
theorem loadL (w : World) (b : Nat) (h : (rowOf w b).size = 31) : (Instr.loadAt 49 (.pointer (some ⟨b, 0, none⟩))).run Try.prog w = .ok (.agg (rowOf w b)) w :=
  run_load_row Try.underlying49 rfl size50 w b h
theorem loadS (w : World) (b : Nat) (h : (rowOf w b).size = 31) : (Instr.loadAt 53 (.pointer (some ⟨b, 0, none⟩))).run Try.prog w = .ok (.agg (rowOf w b)) w :=
  run_load_row Try.underlying53 rfl size55 w b h
theorem storeS (w : World) (b : Nat) (C : Array Value) (hz : RowZ w b 31) (hs : C.size = 31) (h1 : One C) : (Instr.storeAt 53 (.pointer (some ⟨b, 0, none⟩)) (.agg C)).run Try.prog w = .ok () (w.setRow b C) := by
  obtain ⟨old, T, hb, ho⟩ := hz
  exact run_store_row size55 w b C old ⟨T, hb⟩ ho hs h1
/-- the block of a pointer; does it point at the block's head -/
def blkOf : Value → Nat
  | .pointer (some a) => a.block
  | _ => 0
def isHead : Value → Bool
  | .pointer (some a) => a.off == 0 && a.spot.isNone
  | _ => false
theorem blkOf_ptr (a : Addr) : blkOf (.pointer (some a)) = a.block := rfl
theorem isHead_ptr (b : Nat) : isHead (.pointer (some ⟨b, 0, none⟩)) = true := rfl
theorem of_head {v : Value} (h : isHead v = true) : v = .pointer (some ⟨blkOf v, 0, none⟩) := by
  unfold isHead at h
  split at h
  · rename_i a
    obtain ⟨b, o, s⟩ := a
    simp at h
    obtain ⟨rfl, h⟩ := h
    cases s
    · rfl
    · simp at h
  · cases h
theorem exec_loadL {ρ : Operand → Value} {d : Option Tmp} {x : Operand} {ty : TypeId} {pos : String} {af : Array Edge} {g : Option (Nat × Bool)} (w : World) (hp : isHead (ρ x) = true) (h : (rowOf w (blkOf (ρ x))).size = 31) :
    (execOp ρ ⟨d, .load 49 x, ty, pos, af, g⟩).run Try.prog w = .ok (.value (.agg (rowOf w (blkOf (ρ x))))) w := by
  have e := of_head hp
  show (Instr.loadAt 49 (ρ x) >>= fun a => pure (Next.value a)).run _ w = _
  generalize ρ x = v at *
  generalize blkOf v = b at *
  subst e
  rw [Sem.run_bind, loadL w b h]; rfl
theorem exec_loadS {ρ : Operand → Value} {d : Option Tmp} {x : Operand} {ty : TypeId} {pos : String} {af : Array Edge} {g : Option (Nat × Bool)} (w : World) (hp : isHead (ρ x) = true) (h : (rowOf w (blkOf (ρ x))).size = 31) :
    (execOp ρ ⟨d, .load 53 x, ty, pos, af, g⟩).run Try.prog w = .ok (.value (.agg (rowOf w (blkOf (ρ x))))) w := by
  have e := of_head hp
  show (Instr.loadAt 53 (ρ x) >>= fun a => pure (Next.value a)).run _ w = _
  generalize ρ x = v at *
  generalize blkOf v = b at *
  subst e
  rw [Sem.run_bind, loadS w b h]; rfl
/-- is it an aggregate of n cells -/
def aggN (n : Nat) : Value → Bool
  | .agg C => C.size == n
  | _ => false
theorem aggN_agg (n : Nat) (C : Array Value) : (aggN n (.agg C) = true) = (C.size = n) := by simp [aggN]
theorem exec_storeS {ρ : Operand → Value} {d : Option Tmp} {x y : Operand} {ty : TypeId} {pos : String} {af : Array Edge} {g : Option (Nat × Bool)} (w : World) (hp : isHead (ρ x) = true) (ha : aggN 31 (ρ y) = true) (hz : RowZ w (blkOf (ρ x)) 31) (h1 : One (ρ y).cells) :
    (execOp ρ ⟨d, .store 53 x y, ty, pos, af, g⟩).run Try.prog w = .ok .skip (w.setRow (blkOf (ρ x)) (ρ y).cells) := by
  have e := of_head hp
  show (Instr.storeAt 53 (ρ x) (ρ y) >>= fun _ => pure Next.skip).run _ w = _
  generalize ρ y = vy at *
  cases vy <;> simp [aggN] at ha
  rename_i C
  generalize ρ x = v at *
  generalize blkOf v = b at *
  subst e
  rw [Sem.run_bind, storeS w b C hz ha h1]; rfl
theorem setRow_alloc (w : World) (c c' : Array Value) (t : TypeId) (n : Nat) (h : n = w.heap.size) : (w.alloc (.cells c t)).setRow n c' = w.alloc (.cells c' t) := by subst h; exact World.setRow_alloc_new w c c' t
theorem rowZ_at (w : World) (c : Array Value) (t : TypeId) (n k : Nat) (h : n = w.heap.size) (hk : c.size = k) : RowZ (w.alloc (.cells c t)) n k := ⟨c, t, by subst h; exact heap_alloc_new w _, hk⟩
theorem rowZ_past (w : World) (o : Obj) (n k : Nat) (h : n < w.heap.size) : RowZ (w.alloc o) n k = RowZ w n k := by unfold RowZ; rw [Below.heap_alloc _ _ _ h]
theorem one_scr (s : ScrS) : One (scrA s) := scrA_one s
theorem res55 {fn : Func} {p : Tmp} (h : fn.results = #[.cell p 53]) (tmps : Array Value) (w : World) (b : Nat) (C : Array Value) (hp : tmps.getD p undef = .pointer (some ⟨b, 0, none⟩)) (hb : RowB w b C) (hs : C.size = 31) : (results fn tmps).run Try.prog w = .ok (.agg C) w :=
  results_row h Try.underlying53 rfl size55 tmps w b C hp hb hs
theorem scr_at0 (s : ScrS) : (scrA s)[0]? = some (.int .i64 s.w) := rfl
theorem scr_at1 (s : ScrS) : (scrA s)[1]? = some (.int .i64 s.h) := rfl
theorem scr_at2 (s : ScrS) : (scrA s)[2]? = some (.int .i64 s.mw) := rfl
theorem scr_at3 (s : ScrS) : (scrA s)[3]? = some (.int .i64 s.mh) := rfl
theorem scr_at4 (s : ScrS) : (scrA s)[4]? = some (.slice s.M.A s.M.cs.length s.M.c) := rfl
theorem scr_at5 (s : ScrS) : (scrA s)[5]? = some (.int .i64 s.aw) := rfl
theorem scr_at6 (s : ScrS) : (scrA s)[6]? = some (.int .i64 s.ah) := rfl
theorem scr_at7 (s : ScrS) : (scrA s)[7]? = some (.slice s.A.A s.A.cs.length s.A.c) := rfl
theorem scr_at8 (s : ScrS) : (scrA s)[8]? = some (.bool s.onAlt) := rfl
theorem scr_at9 (s : ScrS) : (scrA s)[9]? = some (.int .i64 s.x) := rfl
theorem scr_at10 (s : ScrS) : (scrA s)[10]? = some (.int .i64 s.y) := rfl
theorem scr_at11 (s : ScrS) : (scrA s)[11]? = some (.bool s.wrap) := rfl
theorem scr_at12 (s : ScrS) : (scrA s)[12]? = some (.int .i64 s.fg) := rfl
theorem scr_at13 (s : ScrS) : (scrA s)[13]? = some (.int .i64 s.bg) := rfl
theorem scr_at14 (s : ScrS) : (scrA s)[14]? = some (.bool s.b) := rfl
theorem scr_at15 (s : ScrS) : (scrA s)[15]? = some (.bool s.u) := rfl
theorem scr_at16 (s : ScrS) : (scrA s)[16]? = some (.bool s.t) := rfl
theorem scr_at17 (s : ScrS) : (scrA s)[17]? = some (.int .i64 s.top) := rfl
theorem scr_at18 (s : ScrS) : (scrA s)[18]? = some (.int .i64 s.bot) := rfl
theorem scr_at19 (s : ScrS) : (scrA s)[19]? = some (.bool s.noWrap) := rfl
theorem scr_at20 (s : ScrS) : (scrA s)[20]? = some (.bool s.hide) := rfl
theorem scr_at21 (s : ScrS) : (scrA s)[21]? = some (.int .i64 s.sx) := rfl
theorem scr_at22 (s : ScrS) : (scrA s)[22]? = some (.int .i64 s.sy) := rfl
theorem scr_at23 (s : ScrS) : (scrA s)[23]? = some (.int .i64 s.sfg) := rfl
theorem scr_at24 (s : ScrS) : (scrA s)[24]? = some (.int .i64 s.sbg) := rfl
theorem scr_at25 (s : ScrS) : (scrA s)[25]? = some (.bool s.sb) := rfl
theorem scr_at26 (s : ScrS) : (scrA s)[26]? = some (.bool s.su) := rfl
theorem scr_at27 (s : ScrS) : (scrA s)[27]? = some (.bool s.st) := rfl
theorem scr_at28 (s : ScrS) : (scrA s)[28]? = some (.slice s.tA s.tabs.length s.tk) := rfl
theorem scr_at29 (s : ScrS) : (scrA s)[29]? = some (.int .i64 s.lim) := rfl
theorem scr_at30 (s : ScrS) : (scrA s)[30]? = some (.slice s.bA s.rows.length s.bk) := rfl
end Go.Proofs.Ythlpchojlddnbaa.Sc

