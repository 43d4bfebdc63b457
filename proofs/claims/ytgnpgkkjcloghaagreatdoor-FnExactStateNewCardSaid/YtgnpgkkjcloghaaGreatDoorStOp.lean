/- Whole structs of many cells, at any offset of a block: the load and the store of all cells at once, as rewrite rules. -/
import Derived.Test.YtgnpgkkjcloghaaGreatDoorStWp
import Derived.Deep.MidRow
import Derived.Laws.CopyRow
namespace Go.Proofs.YtgnpgkkjcloghaaGreatDoor.St
open Go.RowKit Go.Proofs.YtgnpgkkjcloghaaGreatDoor.Bytes Go.Proofs.YtgnpgkkjcloghaaGreatDoor.Rows_ Go.Proofs.YtgnpgkkjcloghaaGreatDoor.RowK Go.Proofs.YtgnpgkkjcloghaaGreatDoor.Gr Go.Proofs.YtgnpgkkjcloghaaGreatDoor.DOk Go.Proofs.YtgnpgkkjcloghaaGreatDoor.Opq Go.Proofs.YtgnpgkkjcloghaaGreatDoor.Sc
set_option linter.unusedVariables false
theorem loadM {T : TypeId} {d : TypeDesc} {n : Nat} (hu : Tryz.prog.underlying T = some d) (hd : d.isRow = true) (hi : (Tryz.prog.info? T).map (·.size) = some n) (w : World) (b o : Nat) (h : (seg w b o n).size = n) :
    (Instr.loadAt T (.pointer (some ⟨b, o, none⟩))).run Tryz.prog w = .ok (.agg (seg w b o n)) w := by
  have e := run_loadAt_mid (P := Tryz.prog) w b o T (seg w b o n).toList d (fun j v hv => seg_cell (by simpa using hv)) hu hd (by rw [hi, Array.length_toList, h])
  rw [Array.toArray_toList] at e
  exact e
theorem loadR {T : TypeId} {d : TypeDesc} {n : Nat} (hu : Tryz.prog.underlying T = some d) (hd : d.isRow = true) (hi : (Tryz.prog.info? T).map (·.size) = some n) (w : World) (b : Nat) (h : (rowOf w b).size = n) :
    (Instr.loadAt T (.pointer (some ⟨b, 0, none⟩))).run Tryz.prog w = .ok (.agg (rowOf w b)) w := by
  have e : seg w b 0 n = rowOf w b := by
    unfold seg cut
    rw [List.drop_zero, List.take_of_length_le (by rw [Array.length_toList]; omega), Array.toArray_toList]
  have := loadM hu hd hi w b 0 (by rw [e]; exact h)
  rw [e] at this; exact this
theorem storeM {T : TypeId} {n : Nat} (hi : (Tryz.prog.info? T).map (·.size) = some n) (w : World) (b o : Nat) (C : Array Value) (hz : Room w b o n) (hs : C.size = n) (h1 : One C) :
    (Instr.storeAt T (.pointer (some ⟨b, o, none⟩)) (.agg C)).run Tryz.prog w = .ok () (w.setRow b (put (rowOf w b) o C)) := by
  obtain ⟨D, T', hb, ho⟩ := hz
  have hrow : rowOf w b = D := by simp [rowOf, hb]
  have hst := run_storeCells_at Tryz.prog b o T' C.toList 0 D w hb (by simp [hs]; omega) (fun v hv => (Array.all_eq_true_iff_forall_mem.1 h1) v (by simpa using hv))
  rw [hrow]
  cases hq : Tryz.prog.info? T with
  | none => simp [hq] at hi
  | some i =>
    have hsz : C.size = i.size := by simp [hq] at hi; omega
    simp only [Nat.add_zero] at hst
    simp only [Instr.storeAt, Instr.sureAddr, Sem.run_bind, Sem.run_pure, Result.andThen_ok]
    simp [storeVar, sizeOf, typeInfo, hq, Value.cells, hsz, hst, put]
theorem storeR {T : TypeId} {n : Nat} (hi : (Tryz.prog.info? T).map (·.size) = some n) (w : World) (b : Nat) (C : Array Value) (hz : RowZ w b n) (hs : C.size = n) (h1 : One C) :
    (Instr.storeAt T (.pointer (some ⟨b, 0, none⟩)) (.agg C)).run Tryz.prog w = .ok () (w.setRow b C) := by
  obtain ⟨old, T', hb, ho⟩ := hz
  exact run_store_row hi w b C old ⟨T', hb⟩ ho hs h1
def isPtr : Value → Bool
  | .pointer (some a) => a.spot.isNone
  | _ => false
def offOf : Value → Nat
  | .pointer (some a) => a.off
  | _ => 0
theorem isPtr_ptr (b o : Nat) : isPtr (.pointer (some ⟨b, o, none⟩)) = true := rfl
theorem offOf_ptr (a : Addr) : offOf (.pointer (some a)) = a.off := rfl
theorem of_ptr {v : Value} (h : isPtr v = true) : v = .pointer (some ⟨blkOf v, offOf v, none⟩) := by
  unfold isPtr at h
  split at h
  · rename_i a
    obtain ⟨b, o, s⟩ := a
    cases s
    · rfl
    · simp at h
  · cases h
theorem exec_loadM {T : TypeId} {d0 : TypeDesc} {n : Nat} (hu : Tryz.prog.underlying T = some d0) (hd : d0.isRow = true) (hi : (Tryz.prog.info? T).map (·.size) = some n) {ρ : Operand → Value} {d : Option Tmp} {x : Operand} {ty : TypeId} {pos : String} {af : Array Edge} {g : Option (Nat × Bool)} (w : World)
    (hp : isPtr (ρ x) = true) (h : (seg w (blkOf (ρ x)) (offOf (ρ x)) n).size = n) :
    (execOp ρ ⟨d, .load T x, ty, pos, af, g⟩).run Tryz.prog w = .ok (.value (.agg (seg w (blkOf (ρ x)) (offOf (ρ x)) n))) w := by
  have e := of_ptr hp
  show (Instr.loadAt T (ρ x) >>= fun a => pure (Next.value a)).run _ w = _
  generalize ρ x = v at *
  generalize blkOf v = b at *
  generalize offOf v = o at *
  subst e
  rw [Sem.run_bind, loadM hu hd hi w b o h]; rfl
theorem exec_loadR {T : TypeId} {d0 : TypeDesc} {n : Nat} (hu : Tryz.prog.underlying T = some d0) (hd : d0.isRow = true) (hi : (Tryz.prog.info? T).map (·.size) = some n) {ρ : Operand → Value} {d : Option Tmp} {x : Operand} {ty : TypeId} {pos : String} {af : Array Edge} {g : Option (Nat × Bool)} (w : World)
    (hp : isHead (ρ x) = true) (h : (rowOf w (blkOf (ρ x))).size = n) :
    (execOp ρ ⟨d, .load T x, ty, pos, af, g⟩).run Tryz.prog w = .ok (.value (.agg (rowOf w (blkOf (ρ x))))) w := by
  have e := of_head hp
  show (Instr.loadAt T (ρ x) >>= fun a => pure (Next.value a)).run _ w = _
  generalize ρ x = v at *
  generalize blkOf v = b at *
  subst e
  rw [Sem.run_bind, loadR hu hd hi w b h]; rfl
theorem exec_storeM {T : TypeId} {n : Nat} (hi : (Tryz.prog.info? T).map (·.size) = some n) {ρ : Operand → Value} {d : Option Tmp} {x y : Operand} {ty : TypeId} {pos : String} {af : Array Edge} {g : Option (Nat × Bool)} (w : World)
    (hp : isPtr (ρ x) = true) (ha : aggN n (ρ y) = true) (hz : Room w (blkOf (ρ x)) (offOf (ρ x)) n) (h1 : One (ρ y).cells) :
    (execOp ρ ⟨d, .store T x y, ty, pos, af, g⟩).run Tryz.prog w = .ok .skip (w.setRow (blkOf (ρ x)) (put (rowOf w (blkOf (ρ x))) (offOf (ρ x)) (ρ y).cells)) := by
  have e := of_ptr hp
  show (Instr.storeAt T (ρ x) (ρ y) >>= fun _ => pure Next.skip).run _ w = _
  generalize ρ y = vy at *
  cases vy <;> simp [aggN] at ha
  rename_i C
  generalize ρ x = v at *
  generalize blkOf v = b at *
  generalize offOf v = o at *
  subst e
  rw [Sem.run_bind, storeM hi w b o C hz ha h1]; rfl
theorem exec_storeR {T : TypeId} {n : Nat} (hi : (Tryz.prog.info? T).map (·.size) = some n) {ρ : Operand → Value} {d : Option Tmp} {x y : Operand} {ty : TypeId} {pos : String} {af : Array Edge} {g : Option (Nat × Bool)} (w : World)
    (hp : isHead (ρ x) = true) (ha : aggN n (ρ y) = true) (hz : RowZ w (blkOf (ρ x)) n) (h1 : One (ρ y).cells) :
    (execOp ρ ⟨d, .store T x y, ty, pos, af, g⟩).run Tryz.prog w = .ok .skip (w.setRow (blkOf (ρ x)) (ρ y).cells) := by
  have e := of_head hp
  show (Instr.storeAt T (ρ x) (ρ y) >>= fun _ => pure Next.skip).run _ w = _
  generalize ρ y = vy at *
  cases vy <;> simp [aggN] at ha
  rename_i C
  generalize ρ x = v at *
  generalize blkOf v = b at *
  subst e
  rw [Sem.run_bind, storeR hi w b C hz ha h1]; rfl
theorem size_lawsVp : (Tryz.prog.info? 64).map (·.size) = some 4 := by kernel_rfl
theorem lm_lawsVp {ρ : Operand → Value} {d : Option Tmp} {x : Operand} {ty : TypeId} {pos : String} {af : Array Edge} {g : Option (Nat × Bool)} (w : World) (hp : isPtr (ρ x) = true) (h : (seg w (blkOf (ρ x)) (offOf (ρ x)) 4).size = 4) :
    (execOp ρ ⟨d, .load 64 x, ty, pos, af, g⟩).run Tryz.prog w = .ok (.value (.agg (seg w (blkOf (ρ x)) (offOf (ρ x)) 4))) w := exec_loadM Tryz.underlying64 rfl size_lawsVp w hp h
theorem size_implVp : (Tryz.prog.info? 99).map (·.size) = some 4 := by kernel_rfl
theorem lm_implVp {ρ : Operand → Value} {d : Option Tmp} {x : Operand} {ty : TypeId} {pos : String} {af : Array Edge} {g : Option (Nat × Bool)} (w : World) (hp : isPtr (ρ x) = true) (h : (seg w (blkOf (ρ x)) (offOf (ρ x)) 4).size = 4) :
    (execOp ρ ⟨d, .load 99 x, ty, pos, af, g⟩).run Tryz.prog w = .ok (.value (.agg (seg w (blkOf (ρ x)) (offOf (ρ x)) 4))) w := exec_loadM Tryz.underlying99 rfl size_implVp w hp h
theorem lr_implVp {ρ : Operand → Value} {d : Option Tmp} {x : Operand} {ty : TypeId} {pos : String} {af : Array Edge} {g : Option (Nat × Bool)} (w : World) (hp : isHead (ρ x) = true) (h : (rowOf w (blkOf (ρ x))).size = 4) :
    (execOp ρ ⟨d, .load 99 x, ty, pos, af, g⟩).run Tryz.prog w = .ok (.value (.agg (rowOf w (blkOf (ρ x))))) w := exec_loadR Tryz.underlying99 rfl size_implVp w hp h
theorem sm_Vp {ρ : Operand → Value} {d : Option Tmp} {x y : Operand} {ty : TypeId} {pos : String} {af : Array Edge} {g : Option (Nat × Bool)} (w : World) (hp : isPtr (ρ x) = true) (ha : aggN 4 (ρ y) = true) (hz : Room w (blkOf (ρ x)) (offOf (ρ x)) 4) (h1 : One (ρ y).cells) :
    (execOp ρ ⟨d, .store 99 x y, ty, pos, af, g⟩).run Tryz.prog w = .ok .skip (w.setRow (blkOf (ρ x)) (put (rowOf w (blkOf (ρ x))) (offOf (ρ x)) (ρ y).cells)) := exec_storeM size_implVp w hp ha hz h1
theorem sr_Vp {ρ : Operand → Value} {d : Option Tmp} {x y : Operand} {ty : TypeId} {pos : String} {af : Array Edge} {g : Option (Nat × Bool)} (w : World) (hp : isHead (ρ x) = true) (ha : aggN 4 (ρ y) = true) (hz : RowZ w (blkOf (ρ x)) 4) (h1 : One (ρ y).cells) :
    (execOp ρ ⟨d, .store 99 x y, ty, pos, af, g⟩).run Tryz.prog w = .ok .skip (w.setRow (blkOf (ρ x)) (ρ y).cells) := exec_storeR size_implVp w hp ha hz h1
theorem size_lawsScr : (Tryz.prog.info? 72).map (·.size) = some 31 := by kernel_rfl
theorem lm_lawsScr {ρ : Operand → Value} {d : Option Tmp} {x : Operand} {ty : TypeId} {pos : String} {af : Array Edge} {g : Option (Nat × Bool)} (w : World) (hp : isPtr (ρ x) = true) (h : (seg w (blkOf (ρ x)) (offOf (ρ x)) 31).size = 31) :
    (execOp ρ ⟨d, .load 72 x, ty, pos, af, g⟩).run Tryz.prog w = .ok (.value (.agg (seg w (blkOf (ρ x)) (offOf (ρ x)) 31))) w := exec_loadM Tryz.underlying72 rfl size_lawsScr w hp h
theorem size_implScr : (Tryz.prog.info? 102).map (·.size) = some 31 := by kernel_rfl
theorem lm_implScr {ρ : Operand → Value} {d : Option Tmp} {x : Operand} {ty : TypeId} {pos : String} {af : Array Edge} {g : Option (Nat × Bool)} (w : World) (hp : isPtr (ρ x) = true) (h : (seg w (blkOf (ρ x)) (offOf (ρ x)) 31).size = 31) :
    (execOp ρ ⟨d, .load 102 x, ty, pos, af, g⟩).run Tryz.prog w = .ok (.value (.agg (seg w (blkOf (ρ x)) (offOf (ρ x)) 31))) w := exec_loadM Tryz.underlying102 rfl size_implScr w hp h
theorem sm_Scr {ρ : Operand → Value} {d : Option Tmp} {x y : Operand} {ty : TypeId} {pos : String} {af : Array Edge} {g : Option (Nat × Bool)} (w : World) (hp : isPtr (ρ x) = true) (ha : aggN 31 (ρ y) = true) (hz : Room w (blkOf (ρ x)) (offOf (ρ x)) 31) (h1 : One (ρ y).cells) :
    (execOp ρ ⟨d, .store 102 x y, ty, pos, af, g⟩).run Tryz.prog w = .ok .skip (w.setRow (blkOf (ρ x)) (put (rowOf w (blkOf (ρ x))) (offOf (ρ x)) (ρ y).cells)) := exec_storeM size_implScr w hp ha hz h1
theorem size_lawsTerm : (Tryz.prog.info? 74).map (·.size) = some 35 := by kernel_rfl
theorem lm_lawsTerm {ρ : Operand → Value} {d : Option Tmp} {x : Operand} {ty : TypeId} {pos : String} {af : Array Edge} {g : Option (Nat × Bool)} (w : World) (hp : isPtr (ρ x) = true) (h : (seg w (blkOf (ρ x)) (offOf (ρ x)) 35).size = 35) :
    (execOp ρ ⟨d, .load 74 x, ty, pos, af, g⟩).run Tryz.prog w = .ok (.value (.agg (seg w (blkOf (ρ x)) (offOf (ρ x)) 35))) w := exec_loadM Tryz.underlying74 rfl size_lawsTerm w hp h
theorem size_implTerm : (Tryz.prog.info? 104).map (·.size) = some 35 := by kernel_rfl
theorem lm_implTerm {ρ : Operand → Value} {d : Option Tmp} {x : Operand} {ty : TypeId} {pos : String} {af : Array Edge} {g : Option (Nat × Bool)} (w : World) (hp : isPtr (ρ x) = true) (h : (seg w (blkOf (ρ x)) (offOf (ρ x)) 35).size = 35) :
    (execOp ρ ⟨d, .load 104 x, ty, pos, af, g⟩).run Tryz.prog w = .ok (.value (.agg (seg w (blkOf (ρ x)) (offOf (ρ x)) 35))) w := exec_loadM Tryz.underlying104 rfl size_implTerm w hp h
theorem lr_implTerm {ρ : Operand → Value} {d : Option Tmp} {x : Operand} {ty : TypeId} {pos : String} {af : Array Edge} {g : Option (Nat × Bool)} (w : World) (hp : isHead (ρ x) = true) (h : (rowOf w (blkOf (ρ x))).size = 35) :
    (execOp ρ ⟨d, .load 104 x, ty, pos, af, g⟩).run Tryz.prog w = .ok (.value (.agg (rowOf w (blkOf (ρ x))))) w := exec_loadR Tryz.underlying104 rfl size_implTerm w hp h
theorem sm_Term {ρ : Operand → Value} {d : Option Tmp} {x y : Operand} {ty : TypeId} {pos : String} {af : Array Edge} {g : Option (Nat × Bool)} (w : World) (hp : isPtr (ρ x) = true) (ha : aggN 35 (ρ y) = true) (hz : Room w (blkOf (ρ x)) (offOf (ρ x)) 35) (h1 : One (ρ y).cells) :
    (execOp ρ ⟨d, .store 104 x y, ty, pos, af, g⟩).run Tryz.prog w = .ok .skip (w.setRow (blkOf (ρ x)) (put (rowOf w (blkOf (ρ x))) (offOf (ρ x)) (ρ y).cells)) := exec_storeM size_implTerm w hp ha hz h1
theorem sr_Term {ρ : Operand → Value} {d : Option Tmp} {x y : Operand} {ty : TypeId} {pos : String} {af : Array Edge} {g : Option (Nat × Bool)} (w : World) (hp : isHead (ρ x) = true) (ha : aggN 35 (ρ y) = true) (hz : RowZ w (blkOf (ρ x)) 35) (h1 : One (ρ y).cells) :
    (execOp ρ ⟨d, .store 104 x y, ty, pos, af, g⟩).run Tryz.prog w = .ok .skip (w.setRow (blkOf (ρ x)) (ρ y).cells) := exec_storeR size_implTerm w hp ha hz h1
theorem size_lawsPane : (Tryz.prog.info? 76).map (·.size) = some 41 := by kernel_rfl
theorem lm_lawsPane {ρ : Operand → Value} {d : Option Tmp} {x : Operand} {ty : TypeId} {pos : String} {af : Array Edge} {g : Option (Nat × Bool)} (w : World) (hp : isPtr (ρ x) = true) (h : (seg w (blkOf (ρ x)) (offOf (ρ x)) 41).size = 41) :
    (execOp ρ ⟨d, .load 76 x, ty, pos, af, g⟩).run Tryz.prog w = .ok (.value (.agg (seg w (blkOf (ρ x)) (offOf (ρ x)) 41))) w := exec_loadM Tryz.underlying76 rfl size_lawsPane w hp h
theorem size_implPane : (Tryz.prog.info? 106).map (·.size) = some 41 := by kernel_rfl
theorem lm_implPane {ρ : Operand → Value} {d : Option Tmp} {x : Operand} {ty : TypeId} {pos : String} {af : Array Edge} {g : Option (Nat × Bool)} (w : World) (hp : isPtr (ρ x) = true) (h : (seg w (blkOf (ρ x)) (offOf (ρ x)) 41).size = 41) :
    (execOp ρ ⟨d, .load 106 x, ty, pos, af, g⟩).run Tryz.prog w = .ok (.value (.agg (seg w (blkOf (ρ x)) (offOf (ρ x)) 41))) w := exec_loadM Tryz.underlying106 rfl size_implPane w hp h
theorem lr_implPane {ρ : Operand → Value} {d : Option Tmp} {x : Operand} {ty : TypeId} {pos : String} {af : Array Edge} {g : Option (Nat × Bool)} (w : World) (hp : isHead (ρ x) = true) (h : (rowOf w (blkOf (ρ x))).size = 41) :
    (execOp ρ ⟨d, .load 106 x, ty, pos, af, g⟩).run Tryz.prog w = .ok (.value (.agg (rowOf w (blkOf (ρ x))))) w := exec_loadR Tryz.underlying106 rfl size_implPane w hp h
theorem sm_Pane {ρ : Operand → Value} {d : Option Tmp} {x y : Operand} {ty : TypeId} {pos : String} {af : Array Edge} {g : Option (Nat × Bool)} (w : World) (hp : isPtr (ρ x) = true) (ha : aggN 41 (ρ y) = true) (hz : Room w (blkOf (ρ x)) (offOf (ρ x)) 41) (h1 : One (ρ y).cells) :
    (execOp ρ ⟨d, .store 106 x y, ty, pos, af, g⟩).run Tryz.prog w = .ok .skip (w.setRow (blkOf (ρ x)) (put (rowOf w (blkOf (ρ x))) (offOf (ρ x)) (ρ y).cells)) := exec_storeM size_implPane w hp ha hz h1
theorem sr_Pane {ρ : Operand → Value} {d : Option Tmp} {x y : Operand} {ty : TypeId} {pos : String} {af : Array Edge} {g : Option (Nat × Bool)} (w : World) (hp : isHead (ρ x) = true) (ha : aggN 41 (ρ y) = true) (hz : RowZ w (blkOf (ρ x)) 41) (h1 : One (ρ y).cells) :
    (execOp ρ ⟨d, .store 106 x y, ty, pos, af, g⟩).run Tryz.prog w = .ok .skip (w.setRow (blkOf (ρ x)) (ρ y).cells) := exec_storeR size_implPane w hp ha hz h1
theorem one_vp (s : VpS) : One (vpA s) := by unfold Sc.One vpA vpL; simp [Value.oneCell']
theorem one_term (s : TermS) : One (termA s) := by unfold Sc.One termA termL; simp [Value.oneCell', vpL, scrL]
theorem one_pane (s : PaneS) : One (paneA s) := by unfold Sc.One paneA paneL; simp [Value.oneCell', termL, vpL, scrL]
theorem vp_at0 (s : VpS) : (vpA s)[0]? = some (.int .i64 s.st) := rfl
theorem vp_at1 (s : VpS) : (vpA s)[1]? = some (.bool s.mark) := rfl
theorem vp_at2 (s : VpS) : (vpA s)[2]? = some (.slice s.aA s.zs.length s.ac) := rfl
theorem vp_at3 (s : VpS) : (vpA s)[3]? = some (.slice s.pA s.bs.length s.pc) := rfl
theorem term_at0 (s : TermS) : (termA s)[0]? = some (.int .i64 s.v.st) := rfl
theorem term_at1 (s : TermS) : (termA s)[1]? = some (.bool s.v.mark) := rfl
theorem term_at2 (s : TermS) : (termA s)[2]? = some (.slice s.v.aA s.v.zs.length s.v.ac) := rfl
theorem term_at3 (s : TermS) : (termA s)[3]? = some (.slice s.v.pA s.v.bs.length s.v.pc) := rfl
theorem pane_at0 (s : PaneS) : (paneA s)[0]? = some (.int .i64 s.id) := rfl
theorem pane_at1 (s : PaneS) : (paneA s)[1]? = some (.string s.cmd) := rfl
theorem pane_at2 (s : PaneS) : (paneA s)[2]? = some (.string s.dir) := rfl
theorem pane_at3 (s : PaneS) : (paneA s)[3]? = some (.int .i64 s.life) := rfl
theorem pane_at4 (s : PaneS) : (paneA s)[4]? = some (.int .i64 s.code) := rfl
theorem pane_at5 (s : PaneS) : (paneA s)[5]? = some (.int .i64 s.pid) := rfl
end Go.Proofs.YtgnpgkkjcloghaaGreatDoor.St

