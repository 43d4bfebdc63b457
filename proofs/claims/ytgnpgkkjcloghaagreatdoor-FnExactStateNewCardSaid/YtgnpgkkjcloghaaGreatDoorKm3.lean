/- Texts that lay in modules of their own: ScTo, ScO, ScToS. -/
import Derived.Test.YtgnpgkkjcloghaaGreatDoorScW
import Derived.Deep.RegionHeld3
import Derived.Deep.DrawnRows
import Derived.Test.YtgnpgkkjcloghaaGreatDoorKm1
namespace Go.Proofs.YtgnpgkkjcloghaaGreatDoor.Sc
open Go.RowKit Go.Proofs.YtgnpgkkjcloghaaGreatDoor.Bytes Go.Proofs.YtgnpgkkjcloghaaGreatDoor.Rows_ Go.Proofs.YtgnpgkkjcloghaaGreatDoor.RowK Go.Proofs.YtgnpgkkjcloghaaGreatDoor.Gr Go.Proofs.YtgnpgkkjcloghaaGreatDoor.DOk Go.Proofs.YtgnpgkkjcloghaaGreatDoor.Opq
set_option linter.unusedVariables false
attribute [local go_sem ↓] Go.wp_at_zero Go.wp_at_succ
/-! ### sizes -/
def tot (rs : List SlC) : Nat := (rs.map fun r => r.cs.length).sum
theorem tot_mem : ∀ {rs : List SlC} {r : SlC} (h : r ∈ rs), r.cs.length ≤ tot rs
  | x :: rs, r, h => by
    have e : tot (x :: rs) = x.cs.length + tot rs := by simp [tot]
    rcases List.mem_cons.1 h with rfl | h
    · omega
    · have := tot_mem h; omega
/-! ### the comparison, where both hold the same -/
set_option maxRecDepth 100000 in
set_option maxHeartbeats 1600000 in
theorem eqRow_yes (F G : Option Addr) (n c c' : Nat) (cs : List CellD) (w : World) (hf : RdC w w.heap.size F cs) (hg : RdC w w.heap.size G cs) (hl : cs.length = n) (hn : n ≤ 1099511627776) :
    Calls Tryz.prog 185 #[.agg #[.slice F n c], .agg #[.slice G n c']] w fun e w' => e = .returned (.bool true) ∧ Below w.heap.size w w' := by
  have hb0 := Lib.hid (((Below.refl w.heap.size w).alloc (Nat.le_refl _) (.cells #[.slice F n c] 168)).alloc (by simp) (.cells #[.slice G n c'] 168))
  have HF := Lib.hid hf
  have HG := Lib.hid hg
  have HL := Lib.hid hl
  clear hf hg hl
  go_enter Tryz.func185, Tryz.ntmps185
  go_wp2_with fail
  refine (eqCellS_yes F G n c c' cs _ ((HF.out.below (Nat.le_refl _) hb0.out).more hb0.out.size) ((HG.out.below (Nat.le_refl _) hb0.out).more hb0.out.size) HL.out hn).mono ?_
  rintro e v1 ⟨rfl, hb1⟩
  have HB1 := Lib.hid (hb0.out.trans (hb1.mono (by simp; omega)))
  clear hb1
  go_wp2_with fail
  go_ret
  exact ⟨rfl, HB1.out⟩
set_option maxRecDepth 100000 in
set_option maxHeartbeats 3200000 in
theorem eqRowS_yes (A A' : Option Addr) (n c c' : Nat) (fs gs : List SlC) (w : World) (hx : RdR w w.heap.size A fs) (hy : RdR w w.heap.size A' gs) (hl : fs.length = n) (hn : n ≤ 1099511627776) (he : gs.map (·.cs) = fs.map (·.cs)) (hxc : RdCs w w.heap.size fs) (hyc : RdCs w w.heap.size gs) (hcn : ∀ r ∈ fs, r.cs.length ≤ 1099511627776) :
    Calls Tryz.prog 167 #[.slice A n c, .slice A' n c'] w fun e w' => e = .returned (.bool true) ∧ Below w.heap.size w w' := by
  have hl2 : gs.length = n := by have := congrArg List.length he; rw [List.length_map, List.length_map] at this; omega
  have HX := Lib.hid hx
  have HY := Lib.hid hy
  have HXC := Lib.hid hxc
  have HYC := Lib.hid hyc
  have HL := Lib.hid hl
  have HL2 := Lib.hid hl2
  have HCN := Lib.hid hcn
  have HE := Lib.hid he
  have hnn : (n != n) = false := by simp
  clear hx hy hxc hyc hl hl2 hcn he
  go_enter Tryz.func167, Tryz.ntmps167
  go_wp2_with fail
  go_loopw [5] (fun i wr => ∃ k : Nat, k ≤ n ∧ i = .int .i64 k ∧ Below w.heap.size w wr) (fun i _ => n - (intOf i).toNat)
  case atStart => exact ⟨0, Nat.zero_le _, rfl, Below.refl _ _⟩
  case round =>
    obtain ⟨k, hk, rfl, hb⟩ := hrel
    have hz : w.heap.size ≤ wr.heap.size := hb.size
    by_cases hlt : k < n
    · have h1 : k < fs.length := by rw [HL.out]; exact hlt
      have h2 : k < gs.length := by rw [HL2.out]; exact hlt
      obtain ⟨b, o, rfl, hB, hc0⟩ := (HX.out.below (Nat.le_refl _) hb).at_ h1
      obtain ⟨b', o', rfl, hB', hd0⟩ := (HY.out.below (Nat.le_refl _) hb).at_ h2
      have hee : gs[k].cs = fs[k].cs := by
        have := congrArg (fun l => l[k]?) HE.out
        simpa [h1, h2] using this
      have HRF := Lib.hid (((HXC.out _ (List.getElem_mem h1)).below (Nat.le_refl _) hb).more hz)
      have HRG := Lib.hid (((HYC.out _ (List.getElem_mem h2)).below (Nat.le_refl _) hb).more hz)
      rw [hee] at hd0 HRG
      have hcl := HCN.out _ (List.getElem_mem h1)
      have HB := Lib.hid hb
      clear hb hee
      generalize fs[k].A = x1 at *
      generalize fs[k].c = x3 at *
      generalize gs[k].A = y1 at *
      generalize gs[k].c = y3 at *
      generalize fs[k].cs = zs at *
      obtain ⟨x2, hx2⟩ : ∃ x, x = zs.length := ⟨_, rfl⟩
      rw [← hx2] at hc0 hd0 hcl
      have HX2 := Lib.hid hx2
      clear hx2
      have HRFd := Lib.hid (HRF.out.below (Nat.le_refl _) (Below.drew (Below.refl wr.heap.size wr)))
      have HRGd := Lib.hid (HRG.out.below (Nat.le_refl _) (Below.drew (Below.refl wr.heap.size wr)))
      go_wp2_with fail
      go_region_held3 (fun w' => w'.cell? ⟨b, o + k, none⟩ = some (.slice x1 x2 x3) ∧ w'.cell? ⟨b', o' + k, none⟩ = some (.slice y1 x2 y3)) (go_keep)
        (first
          | (go_at_call 185; (with_reducible refine (eqRow_yes x1 y1 x2 x3 y3 zs _ HRFd.out HRGd.out HX2.out.symm hcl).mono ?_); rintro e v1 ⟨rfl, hb1'⟩; have hb1 : Below wr.heap.size wr v1 := undrew hb1'; have j0 := (hb1.cell (p := ⟨b, o + k, none⟩) (show b < wr.heap.size by omega)).trans hc0; have j1 := (hb1.cell (p := ⟨b', o' + k, none⟩) (show b' < wr.heap.size by omega)).trans hd0; have HB1 := Lib.hid (HB.out.trans (hb1.mono hz)); clear hb1 hb1'))
      all_goals
        go_wp2_with fail
        exact ⟨⟨k + 1, by omega, by go_num, HB1.out⟩, by simp [intOf]; omega⟩
    · obtain rfl : n = k := by omega
      go_wp2_with fail
      go_ret
      exact ⟨rfl, hb⟩
end Go.Proofs.YtgnpgkkjcloghaaGreatDoor.Sc
namespace Go.Proofs.YtgnpgkkjcloghaaGreatDoor.Sc
open Go.RowKit Go.Proofs.YtgnpgkkjcloghaaGreatDoor.Bytes Go.Proofs.YtgnpgkkjcloghaaGreatDoor.Rows_ Go.Proofs.YtgnpgkkjcloghaaGreatDoor.RowK Go.Proofs.YtgnpgkkjcloghaaGreatDoor.Gr Go.Proofs.YtgnpgkkjcloghaaGreatDoor.DOk Go.Proofs.YtgnpgkkjcloghaaGreatDoor.Opq
set_option linter.unusedVariables false
/-- a variable of n cells that may be written -/
def RowZ (w : World) (b n : Nat) : Prop := ∃ C T, w.heap[b]? = some (.cells C T (0, 0)) ∧ C.size = n
/-- each of the cells is one value -/
def One (C : Array Value) : Prop := C.all (·.oneCell') = true
theorem RowZ.of {w : World} {b : Nat} {C : Array Value} (h : RowB w b C) (n : Nat) (hn : C.size = n) : RowZ w b n := by obtain ⟨T, h⟩ := h; exact ⟨C, T, h, hn⟩
theorem RowZ.drew {w : World} {b n : Nat} : RowZ w.drew b n ↔ RowZ w b n := Iff.rfl
theorem RowZ.set {w : World} {b n b' j : Nat} {v : Value} : RowZ (w.setCell ⟨b', j, none⟩ v) b n ↔ RowZ w b n := by
  unfold RowZ World.setCell
  simp only [Array.getElem?_modify]
  by_cases e : b' = b
  · subst e
    rw [if_pos rfl]
    constructor
    · rintro ⟨C, T, h, hn⟩
      rcases hq : w.heap[b']? with _ | o
      · rw [hq] at h; simp at h
      · rw [hq] at h
        cases o <;> simp at h
        obtain ⟨rfl, rfl, rfl⟩ := h
        exact ⟨_, _, rfl, by simpa using hn⟩
    · rintro ⟨C, T, h, hn⟩
      exact ⟨_, T, by rw [h]; rfl, by simpa using hn⟩
  · rw [if_neg e]
theorem rowOf_set (w : World) (b j : Nat) (v : Value) : rowOf (w.setCell ⟨b, j, none⟩ v) b = (rowOf w b).setIfInBounds j v := by
  unfold rowOf World.setCell
  simp only [Array.getElem?_modify, if_true]
  rcases w.heap[b]? with _ | o
  · simp
  · cases o <;> simp
theorem size55 : (Tryz.prog.info? 102).map (·.size) = some (30 + 1) := by kernel_rfl
theorem loadS (w : World) (b : Nat) (h : (rowOf w b).size = 31) : (Instr.loadAt 102 (.pointer (some ⟨b, 0, none⟩))).run Tryz.prog w = .ok (.agg (rowOf w b)) w :=
  run_load_row Tryz.underlying102 rfl size55 w b h
theorem storeS (w : World) (b : Nat) (C : Array Value) (hz : RowZ w b 31) (hs : C.size = 31) (h1 : One C) : (Instr.storeAt 102 (.pointer (some ⟨b, 0, none⟩)) (.agg C)).run Tryz.prog w = .ok () (w.setRow b C) := by
  obtain ⟨old, T, hb, ho⟩ := hz
  exact run_store_row size55 w b C old ⟨T, hb⟩ ho hs h1
/-- the block of a pointer; does it point at the block's head -/
def blkOf : Value → Nat
  | .pointer (some a) => a.block
  | _ => 0
def isHead : Value → Bool
  | .pointer (some a) => a.off == 0 && a.spot.isNone
  | _ => false
theorem blkOf_ptr (a : Addr) : blkOf (.pointer (some a)) = a.block := rfl
theorem isHead_ptr (b : Nat) : isHead (.pointer (some ⟨b, 0, none⟩)) = true := rfl
theorem of_head {v : Value} (h : isHead v = true) : v = .pointer (some ⟨blkOf v, 0, none⟩) := by
  unfold isHead at h
  split at h
  · rename_i a
    obtain ⟨b, o, s⟩ := a
    simp at h
    obtain ⟨rfl, h⟩ := h
    cases s
    · rfl
    · simp at h
  · cases h
theorem exec_loadS {ρ : Operand → Value} {d : Option Tmp} {x : Operand} {ty : TypeId} {pos : String} {af : Array Edge} {g : Option (Nat × Bool)} (w : World) (hp : isHead (ρ x) = true) (h : (rowOf w (blkOf (ρ x))).size = 31) :
    (execOp ρ ⟨d, .load 102 x, ty, pos, af, g⟩).run Tryz.prog w = .ok (.value (.agg (rowOf w (blkOf (ρ x))))) w := by
  have e := of_head hp
  show (Instr.loadAt 102 (ρ x) >>= fun a => pure (Next.value a)).run _ w = _
  generalize ρ x = v at *
  generalize blkOf v = b at *
  subst e
  rw [Sem.run_bind, loadS w b h]; rfl
/-- is it an aggregate of n cells -/
def aggN (n : Nat) : Value → Bool
  | .agg C => C.size == n
  | _ => false
theorem aggN_agg (n : Nat) (C : Array Value) : (aggN n (.agg C) = true) = (C.size = n) := by simp [aggN]
theorem exec_storeS {ρ : Operand → Value} {d : Option Tmp} {x y : Operand} {ty : TypeId} {pos : String} {af : Array Edge} {g : Option (Nat × Bool)} (w : World) (hp : isHead (ρ x) = true) (ha : aggN 31 (ρ y) = true) (hz : RowZ w (blkOf (ρ x)) 31) (h1 : One (ρ y).cells) :
    (execOp ρ ⟨d, .store 102 x y, ty, pos, af, g⟩).run Tryz.prog w = .ok .skip (w.setRow (blkOf (ρ x)) (ρ y).cells) := by
  have e := of_head hp
  show (Instr.storeAt 102 (ρ x) (ρ y) >>= fun _ => pure Next.skip).run _ w = _
  generalize ρ y = vy at *
  cases vy <;> simp [aggN] at ha
  rename_i C
  generalize ρ x = v at *
  generalize blkOf v = b at *
  subst e
  rw [Sem.run_bind, storeS w b C hz ha h1]; rfl
theorem setRow_alloc (w : World) (c c' : Array Value) (t : TypeId) (n : Nat) (h : n = w.heap.size) : (w.alloc (.cells c t)).setRow n c' = w.alloc (.cells c' t) := by subst h; exact World.setRow_alloc_new w c c' t
theorem rowZ_at (w : World) (c : Array Value) (t : TypeId) (n k : Nat) (h : n = w.heap.size) (hk : c.size = k) : RowZ (w.alloc (.cells c t)) n k := ⟨c, t, by subst h; exact heap_alloc_new w _, hk⟩
theorem rowZ_past (w : World) (o : Obj) (n k : Nat) (h : n < w.heap.size) : RowZ (w.alloc o) n k = RowZ w n k := by unfold RowZ; rw [Below.heap_alloc _ _ _ h]
theorem one_scr (s : ScrS) : One (scrA s) := scrA_one s
theorem scr_at0 (s : ScrS) : (scrA s)[0]? = some (.int .i64 s.w) := rfl
theorem scr_at1 (s : ScrS) : (scrA s)[1]? = some (.int .i64 s.h) := rfl
theorem scr_at2 (s : ScrS) : (scrA s)[2]? = some (.int .i64 s.mw) := rfl
theorem scr_at3 (s : ScrS) : (scrA s)[3]? = some (.int .i64 s.mh) := rfl
theorem scr_at4 (s : ScrS) : (scrA s)[4]? = some (.slice s.M.A s.M.cs.length s.M.c) := rfl
theorem scr_at5 (s : ScrS) : (scrA s)[5]? = some (.int .i64 s.aw) := rfl
theorem scr_at6 (s : ScrS) : (scrA s)[6]? = some (.int .i64 s.ah) := rfl
theorem scr_at7 (s : ScrS) : (scrA s)[7]? = some (.slice s.A.A s.A.cs.length s.A.c) := rfl
theorem scr_at8 (s : ScrS) : (scrA s)[8]? = some (.bool s.onAlt) := rfl
theorem scr_at9 (s : ScrS) : (scrA s)[9]? = some (.int .i64 s.x) := rfl
theorem scr_at10 (s : ScrS) : (scrA s)[10]? = some (.int .i64 s.y) := rfl
theorem scr_at11 (s : ScrS) : (scrA s)[11]? = some (.bool s.wrap) := rfl
theorem scr_at12 (s : ScrS) : (scrA s)[12]? = some (.int .i64 s.fg) := rfl
theorem scr_at13 (s : ScrS) : (scrA s)[13]? = some (.int .i64 s.bg) := rfl
theorem scr_at14 (s : ScrS) : (scrA s)[14]? = some (.bool s.b) := rfl
theorem scr_at15 (s : ScrS) : (scrA s)[15]? = some (.bool s.u) := rfl
theorem scr_at16 (s : ScrS) : (scrA s)[16]? = some (.bool s.t) := rfl
theorem scr_at17 (s : ScrS) : (scrA s)[17]? = some (.int .i64 s.top) := rfl
theorem scr_at18 (s : ScrS) : (scrA s)[18]? = some (.int .i64 s.bot) := rfl
theorem scr_at19 (s : ScrS) : (scrA s)[19]? = some (.bool s.noWrap) := rfl
theorem scr_at20 (s : ScrS) : (scrA s)[20]? = some (.bool s.hide) := rfl
theorem scr_at21 (s : ScrS) : (scrA s)[21]? = some (.int .i64 s.sx) := rfl
theorem scr_at22 (s : ScrS) : (scrA s)[22]? = some (.int .i64 s.sy) := rfl
theorem scr_at23 (s : ScrS) : (scrA s)[23]? = some (.int .i64 s.sfg) := rfl
theorem scr_at24 (s : ScrS) : (scrA s)[24]? = some (.int .i64 s.sbg) := rfl
theorem scr_at25 (s : ScrS) : (scrA s)[25]? = some (.bool s.sb) := rfl
theorem scr_at26 (s : ScrS) : (scrA s)[26]? = some (.bool s.su) := rfl
theorem scr_at27 (s : ScrS) : (scrA s)[27]? = some (.bool s.st) := rfl
theorem scr_at28 (s : ScrS) : (scrA s)[28]? = some (.slice s.tA s.tabs.length s.tk) := rfl
theorem scr_at29 (s : ScrS) : (scrA s)[29]? = some (.int .i64 s.lim) := rfl
theorem scr_at30 (s : ScrS) : (scrA s)[30]? = some (.slice s.bA s.rows.length s.bk) := rfl
end Go.Proofs.YtgnpgkkjcloghaaGreatDoor.Sc
namespace Go.Proofs.YtgnpgkkjcloghaaGreatDoor.Sc
open Go.RowKit Go.Proofs.YtgnpgkkjcloghaaGreatDoor.Bytes Go.Proofs.YtgnpgkkjcloghaaGreatDoor.Rows_ Go.Proofs.YtgnpgkkjcloghaaGreatDoor.RowK Go.Proofs.YtgnpgkkjcloghaaGreatDoor.Gr Go.Proofs.YtgnpgkkjcloghaaGreatDoor.DOk Go.Proofs.YtgnpgkkjcloghaaGreatDoor.Opq Go.Proofs.YtgnpgkkjcloghaaGreatDoor.Attr
set_option linter.unusedVariables false
attribute [local go_sem ↓] Sc.exec_loadS Sc.exec_storeS
attribute [local go_sem] RowZ.set rowOf_set blkOf_ptr isHead_ptr aggN_agg
def szS (s : ScrS) : Nat := s.M.cs.length + s.A.cs.length + s.tabs.length + (s.rows.length + tot s.rows)
end Go.Proofs.YtgnpgkkjcloghaaGreatDoor.Sc
