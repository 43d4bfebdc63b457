/- Texts that lay in modules of their own: StW, StO. -/
import Derived.Test.YtgnpgkkjcloghaaGreatDoorStWp
import Derived.Test.YtgnpgkkjcloghaaGreatDoorKm5
import Derived.Test.YtgnpgkkjcloghaaGreatDoorStOp
namespace Go.Proofs.YtgnpgkkjcloghaaGreatDoor.St
open Go.RowKit Go.Proofs.YtgnpgkkjcloghaaGreatDoor.Bytes Go.Proofs.YtgnpgkkjcloghaaGreatDoor.Rows_ Go.Proofs.YtgnpgkkjcloghaaGreatDoor.RowK Go.Proofs.YtgnpgkkjcloghaaGreatDoor.Gr Go.Proofs.YtgnpgkkjcloghaaGreatDoor.DOk Go.Proofs.YtgnpgkkjcloghaaGreatDoor.Opq Go.Proofs.YtgnpgkkjcloghaaGreatDoor.Sc
set_option linter.unusedVariables false
structure WinS where
  id : Int
  name : ByteArray
  tA : Option Addr
  tc : Nat
  tree : List Tr.NodeD
  active : Int
  zoom : Bool
structure WinD where
  id : Int
  name : ByteArray
  tree : List Tr.NodeD
  active : Int
  zoom : Bool
def WinS.data (x : WinS) : WinD := ⟨x.id, x.name, x.tree, x.active, x.zoom⟩
structure SessS where
  name : ByteArray
  wA : Option Addr
  wc : Nat
  wins : List Int
  active : Int
structure SessD where
  name : ByteArray
  wins : List Int
  active : Int
def SessS.data (x : SessS) : SessD := ⟨x.name, x.wins, x.active⟩
structure StS where
  w : Int
  h : Int
  lim : Int
  next : Int
  pA : Option Addr
  pc : Nat
  panes : List PaneS
  wA : Option Addr
  wc : Nat
  wins : List WinS
  eA : Option Addr
  ec : Nat
  sess : List SessS
structure StD where
  w : Int
  h : Int
  lim : Int
  next : Int
  panes : List PaneD
  wins : List WinD
  sess : List SessD
def StS.data (s : StS) : StD := ⟨s.w, s.h, s.lim, s.next, s.panes.map PaneS.data, s.wins.map WinS.data, s.sess.map SessS.data⟩
def winL (x : WinS) : List Value := [.int .i64 x.id, .string x.name, .slice x.tA x.tree.length x.tc, .int .i64 x.active, .bool x.zoom]
def sessL (x : SessS) : List Value := [.string x.name, .slice x.wA x.wins.length x.wc, .int .i64 x.active]
def stL (s : StS) : List Value := [.int .i64 s.w, .int .i64 s.h, .int .i64 s.lim, .int .i64 s.next, .slice s.pA s.panes.length s.pc, .slice s.wA s.wins.length s.wc, .slice s.eA s.sess.length s.ec]
def winA (x : WinS) : Array Value := (winL x).toArray
def sessA (x : SessS) : Array Value := (sessL x).toArray
def stA (s : StS) : Array Value := (stL s).toArray
theorem winA_size (x : WinS) : (winA x).size = 5 := rfl
theorem sessA_size (x : SessS) : (sessA x).size = 3 := rfl
theorem stA_size (s : StS) : (stA s).size = 7 := rfl
def szW (x : WinS) : Nat := x.name.size + x.tree.length
def szE (x : SessS) : Nat := x.name.size + x.wins.length
def szSt (s : StS) : Nat := s.panes.length + sumN szP s.panes + (s.wins.length + sumN szW s.wins) + (s.sess.length + sumN szE s.sess)
structure LenW (x : WinS) : Prop where
  n : x.name.size ≤ 9223372036854775807
  t : x.tree.length ≤ 9223372036854775807
structure LenE (x : SessS) : Prop where
  n : x.name.size ≤ 9223372036854775807
  w : x.wins.length ≤ 9223372036854775807
structure LenSt (s : StS) : Prop where
  p : s.panes.length ≤ 9223372036854775807
  pt : ∀ p ∈ s.panes, LenP p
  w : s.wins.length ≤ 9223372036854775807
  wt : ∀ p ∈ s.wins, LenW p
  e : s.sess.length ≤ 9223372036854775807
  et : ∀ p ∈ s.sess, LenE p
def RdWs (w : World) (B : Nat) (xs : List WinS) : Prop := ∀ x ∈ xs, Tr.RdN w B x.tA x.tree
def RdEs (w : World) (B : Nat) (xs : List SessS) : Prop := ∀ x ∈ xs, RdI w B x.wA x.wins
structure RdSt (w : World) (B : Nat) (s : StS) : Prop where
  p : RdK 41 w B s.pA (s.panes.map paneL)
  pt : RdPs w B s.panes
  wr : RdK 5 w B s.wA (s.wins.map winL)
  wt : RdWs w B s.wins
  e : RdK 3 w B s.eA (s.sess.map sessL)
  et : RdEs w B s.sess
section
variable {w w' : World} {B B' : Nat}
theorem RdWs.below {ps : List WinS} (h : RdWs w B ps) (hB : B ≤ B') (hb : Below B' w w') : RdWs w' B ps := fun p hp => (h p hp).below hB hb
theorem RdWs.more {ps : List WinS} (h : RdWs w B ps) (hB : B ≤ B') : RdWs w B' ps := fun p hp => (h p hp).more hB
theorem RdEs.below {ps : List SessS} (h : RdEs w B ps) (hB : B ≤ B') (hb : Below B' w w') : RdEs w' B ps := fun p hp => (h p hp).below hB hb
theorem RdEs.more {ps : List SessS} (h : RdEs w B ps) (hB : B ≤ B') : RdEs w B' ps := fun p hp => (h p hp).more hB
theorem RdSt.below {s : StS} (h : RdSt w B s) (hB : B ≤ B') (hb : Below B' w w') : RdSt w' B s := ⟨h.p.below hB hb, h.pt.below hB hb, h.wr.below hB hb, h.wt.below hB hb, h.e.below hB hb, h.et.below hB hb⟩
theorem RdSt.more {s : StS} (h : RdSt w B s) (hB : B ≤ B') : RdSt w B' s := ⟨h.p.more hB, h.pt.more hB, h.wr.more hB, h.wt.more hB, h.e.more hB, h.et.more hB⟩
end
def wb (x : WinS) : Option Nat := (Value.slice x.tA x.tree.length x.tc).ownBlock
def eb (x : SessS) : Option Nat := (Value.slice x.wA x.wins.length x.wc).ownBlock
def OwnWs (w : World) (base : Nat) (xs : List WinS) : Prop := (∀ x ∈ xs, Tr.OwnN w base x.tA x.tree.length x.tc x.tree) ∧ xs.Pairwise (fun x y => ∀ i, wb x = some i → wb y ≠ some i)
def OwnEs (w : World) (base : Nat) (xs : List SessS) : Prop := (∀ x ∈ xs, OwnI w base x.wA x.wins.length x.wc x.wins) ∧ xs.Pairwise (fun x y => ∀ i, eb x = some i → eb y ≠ some i)
structure OwnSt (w : World) (base : Nat) (s : StS) : Prop where
  p : w.ownsRow base 106 41 (.slice s.pA s.panes.length s.pc) s.panes.length (s.panes.map paneL).flatten
  pt : OwnPs w base s.panes
  wr : w.ownsRow base 90 5 (.slice s.wA s.wins.length s.wc) s.wins.length (s.wins.map winL).flatten
  wt : OwnWs w base s.wins
  e : w.ownsRow base 97 3 (.slice s.eA s.sess.length s.ec) s.sess.length (s.sess.map sessL).flatten
  et : OwnEs w base s.sess
theorem win_len (ps : List WinS) : ∀ r ∈ ps.map winL, r.length = 5 := by
  intro r hr; simp only [List.mem_map] at hr; obtain ⟨_, _, rfl⟩ := hr; rfl
theorem sess_len (ps : List SessS) : ∀ r ∈ ps.map sessL, r.length = 3 := by
  intro r hr; simp only [List.mem_map] at hr; obtain ⟨_, _, rfl⟩ := hr; rfl
section
variable {w w' : World} {B base base' : Nat}
theorem OwnWs.rd {ps : List WinS} (h : OwnWs w base ps) : RdWs w w.heap.size ps := fun p hp => (h.1 p hp).rd
theorem OwnWs.below {ps : List WinS} (h : OwnWs w base ps) (hB : w.heap.size ≤ B) (hb : Below B w w') : OwnWs w' base ps := ⟨fun p hp => (h.1 p hp).below hB hb, h.2⟩
theorem OwnWs.more {ps : List WinS} (h : OwnWs w base ps) (hB : base' ≤ base) : OwnWs w base' ps := ⟨fun p hp => (h.1 p hp).more hB, h.2⟩
theorem OwnWs.nil : OwnWs w base [] := ⟨fun p hp => (by cases hp), List.Pairwise.nil⟩
theorem OwnWs.snoc {ps : List WinS} {p : WinS} {mid : Nat} (h : OwnWs w base ps) (hlt : ∀ q ∈ ps, ∀ i, wb q = some i → i < mid) (hp : Tr.OwnN w mid p.tA p.tree.length p.tc p.tree) (hm : base ≤ mid) : OwnWs w base (ps ++ [p]) :=
  ⟨fun q hq => by
    rcases List.mem_append.1 hq with hq | hq
    · exact h.1 q hq
    · rw [List.mem_singleton] at hq; subst hq; exact hp.more hm, List.pairwise_append.2 ⟨h.2, List.pairwise_singleton _ _, fun a ha b hb i hi hi' => by
      rw [List.mem_singleton] at hb; subst hb
      have h1 := hlt a ha i hi
      have h2 := (hp.blk i hi').1
      omega⟩⟩
theorem OwnEs.rd {ps : List SessS} (h : OwnEs w base ps) : RdEs w w.heap.size ps := fun p hp => (h.1 p hp).rd
theorem OwnEs.below {ps : List SessS} (h : OwnEs w base ps) (hB : w.heap.size ≤ B) (hb : Below B w w') : OwnEs w' base ps := ⟨fun p hp => (h.1 p hp).below hB hb, h.2⟩
theorem OwnEs.more {ps : List SessS} (h : OwnEs w base ps) (hB : base' ≤ base) : OwnEs w base' ps := ⟨fun p hp => (h.1 p hp).more hB, h.2⟩
theorem OwnEs.nil : OwnEs w base [] := ⟨fun p hp => (by cases hp), List.Pairwise.nil⟩
theorem OwnEs.snoc {ps : List SessS} {p : SessS} {mid : Nat} (h : OwnEs w base ps) (hlt : ∀ q ∈ ps, ∀ i, eb q = some i → i < mid) (hp : OwnI w mid p.wA p.wins.length p.wc p.wins) (hm : base ≤ mid) : OwnEs w base (ps ++ [p]) :=
  ⟨fun q hq => by
    rcases List.mem_append.1 hq with hq | hq
    · exact h.1 q hq
    · rw [List.mem_singleton] at hq; subst hq; exact hp.more hm, List.pairwise_append.2 ⟨h.2, List.pairwise_singleton _ _, fun a ha b hb i hi hi' => by
      rw [List.mem_singleton] at hb; subst hb
      have h1 := hlt a ha i hi
      have h2 := (hp.blk i hi').1
      omega⟩⟩
theorem OwnSt.rd {s : StS} (h : OwnSt w base s) : RdSt w w.heap.size s := ⟨own_rdK (pane_len _) (by omega) h.p, h.pt.rd, own_rdK (win_len _) (by omega) h.wr, h.wt.rd, own_rdK (sess_len _) (by omega) h.e, h.et.rd⟩
theorem OwnSt.below {s : StS} (h : OwnSt w base s) (hB : w.heap.size ≤ B) (hb : Below B w w') : OwnSt w' base s := ⟨own_belowK h.p hB hb, h.pt.below hB hb, own_belowK h.wr hB hb, h.wt.below hB hb, own_belowK h.e hB hb, h.et.below hB hb⟩
theorem OwnSt.more {s : StS} (h : OwnSt w base s) (hB : base' ≤ base) : OwnSt w base' s := ⟨own_moreK h.p hB, h.pt.more hB, own_moreK h.wr hB, h.wt.more hB, own_moreK h.e hB, h.et.more hB⟩
end
end Go.Proofs.YtgnpgkkjcloghaaGreatDoor.St
namespace Go.Proofs.YtgnpgkkjcloghaaGreatDoor.St
open Go.RowKit Go.Proofs.YtgnpgkkjcloghaaGreatDoor.Bytes Go.Proofs.YtgnpgkkjcloghaaGreatDoor.Rows_ Go.Proofs.YtgnpgkkjcloghaaGreatDoor.RowK Go.Proofs.YtgnpgkkjcloghaaGreatDoor.Gr Go.Proofs.YtgnpgkkjcloghaaGreatDoor.DOk Go.Proofs.YtgnpgkkjcloghaaGreatDoor.Opq Go.Proofs.YtgnpgkkjcloghaaGreatDoor.Sc
set_option linter.unusedVariables false
theorem size_lawsWin : (Tryz.prog.info? 80).map (·.size) = some 5 := by kernel_rfl
theorem lm_lawsWin {ρ : Operand → Value} {d : Option Tmp} {x : Operand} {ty : TypeId} {pos : String} {af : Array Edge} {g : Option (Nat × Bool)} (w : World) (hp : isPtr (ρ x) = true) (h : (seg w (blkOf (ρ x)) (offOf (ρ x)) 5).size = 5) :
    (execOp ρ ⟨d, .load 80 x, ty, pos, af, g⟩).run Tryz.prog w = .ok (.value (.agg (seg w (blkOf (ρ x)) (offOf (ρ x)) 5))) w := exec_loadM Tryz.underlying80 rfl size_lawsWin w hp h
theorem size_implWin : (Tryz.prog.info? 90).map (·.size) = some 5 := by kernel_rfl
theorem lm_implWin {ρ : Operand → Value} {d : Option Tmp} {x : Operand} {ty : TypeId} {pos : String} {af : Array Edge} {g : Option (Nat × Bool)} (w : World) (hp : isPtr (ρ x) = true) (h : (seg w (blkOf (ρ x)) (offOf (ρ x)) 5).size = 5) :
    (execOp ρ ⟨d, .load 90 x, ty, pos, af, g⟩).run Tryz.prog w = .ok (.value (.agg (seg w (blkOf (ρ x)) (offOf (ρ x)) 5))) w := exec_loadM Tryz.underlying90 rfl size_implWin w hp h
theorem lr_implWin {ρ : Operand → Value} {d : Option Tmp} {x : Operand} {ty : TypeId} {pos : String} {af : Array Edge} {g : Option (Nat × Bool)} (w : World) (hp : isHead (ρ x) = true) (h : (rowOf w (blkOf (ρ x))).size = 5) :
    (execOp ρ ⟨d, .load 90 x, ty, pos, af, g⟩).run Tryz.prog w = .ok (.value (.agg (rowOf w (blkOf (ρ x))))) w := exec_loadR Tryz.underlying90 rfl size_implWin w hp h
theorem sm_Win {ρ : Operand → Value} {d : Option Tmp} {x y : Operand} {ty : TypeId} {pos : String} {af : Array Edge} {g : Option (Nat × Bool)} (w : World) (hp : isPtr (ρ x) = true) (ha : aggN 5 (ρ y) = true) (hz : Room w (blkOf (ρ x)) (offOf (ρ x)) 5) (h1 : One (ρ y).cells) :
    (execOp ρ ⟨d, .store 90 x y, ty, pos, af, g⟩).run Tryz.prog w = .ok .skip (w.setRow (blkOf (ρ x)) (put (rowOf w (blkOf (ρ x))) (offOf (ρ x)) (ρ y).cells)) := exec_storeM size_implWin w hp ha hz h1
theorem sr_Win {ρ : Operand → Value} {d : Option Tmp} {x y : Operand} {ty : TypeId} {pos : String} {af : Array Edge} {g : Option (Nat × Bool)} (w : World) (hp : isHead (ρ x) = true) (ha : aggN 5 (ρ y) = true) (hz : RowZ w (blkOf (ρ x)) 5) (h1 : One (ρ y).cells) :
    (execOp ρ ⟨d, .store 90 x y, ty, pos, af, g⟩).run Tryz.prog w = .ok .skip (w.setRow (blkOf (ρ x)) (ρ y).cells) := exec_storeR size_implWin w hp ha hz h1
theorem size_lawsSess : (Tryz.prog.info? 83).map (·.size) = some 3 := by kernel_rfl
theorem lm_lawsSess {ρ : Operand → Value} {d : Option Tmp} {x : Operand} {ty : TypeId} {pos : String} {af : Array Edge} {g : Option (Nat × Bool)} (w : World) (hp : isPtr (ρ x) = true) (h : (seg w (blkOf (ρ x)) (offOf (ρ x)) 3).size = 3) :
    (execOp ρ ⟨d, .load 83 x, ty, pos, af, g⟩).run Tryz.prog w = .ok (.value (.agg (seg w (blkOf (ρ x)) (offOf (ρ x)) 3))) w := exec_loadM Tryz.underlying83 rfl size_lawsSess w hp h
theorem size_implSess : (Tryz.prog.info? 97).map (·.size) = some 3 := by kernel_rfl
theorem lm_implSess {ρ : Operand → Value} {d : Option Tmp} {x : Operand} {ty : TypeId} {pos : String} {af : Array Edge} {g : Option (Nat × Bool)} (w : World) (hp : isPtr (ρ x) = true) (h : (seg w (blkOf (ρ x)) (offOf (ρ x)) 3).size = 3) :
    (execOp ρ ⟨d, .load 97 x, ty, pos, af, g⟩).run Tryz.prog w = .ok (.value (.agg (seg w (blkOf (ρ x)) (offOf (ρ x)) 3))) w := exec_loadM Tryz.underlying97 rfl size_implSess w hp h
theorem lr_implSess {ρ : Operand → Value} {d : Option Tmp} {x : Operand} {ty : TypeId} {pos : String} {af : Array Edge} {g : Option (Nat × Bool)} (w : World) (hp : isHead (ρ x) = true) (h : (rowOf w (blkOf (ρ x))).size = 3) :
    (execOp ρ ⟨d, .load 97 x, ty, pos, af, g⟩).run Tryz.prog w = .ok (.value (.agg (rowOf w (blkOf (ρ x))))) w := exec_loadR Tryz.underlying97 rfl size_implSess w hp h
theorem sm_Sess {ρ : Operand → Value} {d : Option Tmp} {x y : Operand} {ty : TypeId} {pos : String} {af : Array Edge} {g : Option (Nat × Bool)} (w : World) (hp : isPtr (ρ x) = true) (ha : aggN 3 (ρ y) = true) (hz : Room w (blkOf (ρ x)) (offOf (ρ x)) 3) (h1 : One (ρ y).cells) :
    (execOp ρ ⟨d, .store 97 x y, ty, pos, af, g⟩).run Tryz.prog w = .ok .skip (w.setRow (blkOf (ρ x)) (put (rowOf w (blkOf (ρ x))) (offOf (ρ x)) (ρ y).cells)) := exec_storeM size_implSess w hp ha hz h1
theorem sr_Sess {ρ : Operand → Value} {d : Option Tmp} {x y : Operand} {ty : TypeId} {pos : String} {af : Array Edge} {g : Option (Nat × Bool)} (w : World) (hp : isHead (ρ x) = true) (ha : aggN 3 (ρ y) = true) (hz : RowZ w (blkOf (ρ x)) 3) (h1 : One (ρ y).cells) :
    (execOp ρ ⟨d, .store 97 x y, ty, pos, af, g⟩).run Tryz.prog w = .ok .skip (w.setRow (blkOf (ρ x)) (ρ y).cells) := exec_storeR size_implSess w hp ha hz h1
theorem size_lawsState : (Tryz.prog.info? 26).map (·.size) = some 7 := by kernel_rfl
theorem lr_lawsState {ρ : Operand → Value} {d : Option Tmp} {x : Operand} {ty : TypeId} {pos : String} {af : Array Edge} {g : Option (Nat × Bool)} (w : World) (hp : isHead (ρ x) = true) (h : (rowOf w (blkOf (ρ x))).size = 7) :
    (execOp ρ ⟨d, .load 26 x, ty, pos, af, g⟩).run Tryz.prog w = .ok (.value (.agg (rowOf w (blkOf (ρ x))))) w := exec_loadR Tryz.underlying26 rfl size_lawsState w hp h
theorem size_implState : (Tryz.prog.info? 33).map (·.size) = some 7 := by kernel_rfl
theorem lr_implState {ρ : Operand → Value} {d : Option Tmp} {x : Operand} {ty : TypeId} {pos : String} {af : Array Edge} {g : Option (Nat × Bool)} (w : World) (hp : isHead (ρ x) = true) (h : (rowOf w (blkOf (ρ x))).size = 7) :
    (execOp ρ ⟨d, .load 33 x, ty, pos, af, g⟩).run Tryz.prog w = .ok (.value (.agg (rowOf w (blkOf (ρ x))))) w := exec_loadR Tryz.underlying33 rfl size_implState w hp h
theorem sr_State {ρ : Operand → Value} {d : Option Tmp} {x y : Operand} {ty : TypeId} {pos : String} {af : Array Edge} {g : Option (Nat × Bool)} (w : World) (hp : isHead (ρ x) = true) (ha : aggN 7 (ρ y) = true) (hz : RowZ w (blkOf (ρ x)) 7) (h1 : One (ρ y).cells) :
    (execOp ρ ⟨d, .store 33 x y, ty, pos, af, g⟩).run Tryz.prog w = .ok .skip (w.setRow (blkOf (ρ x)) (ρ y).cells) := exec_storeR size_implState w hp ha hz h1
theorem one_win (s : WinS) : One (winA s) := by unfold Sc.One winA winL; simp [Value.oneCell']
theorem one_sess (s : SessS) : One (sessA s) := by unfold Sc.One sessA sessL; simp [Value.oneCell']
theorem one_st (s : StS) : One (stA s) := by unfold Sc.One stA stL; simp [Value.oneCell']
theorem win_at0 (s : WinS) : (winA s)[0]? = some (.int .i64 s.id) := rfl
theorem win_at1 (s : WinS) : (winA s)[1]? = some (.string s.name) := rfl
theorem win_at2 (s : WinS) : (winA s)[2]? = some (.slice s.tA s.tree.length s.tc) := rfl
theorem win_at3 (s : WinS) : (winA s)[3]? = some (.int .i64 s.active) := rfl
theorem win_at4 (s : WinS) : (winA s)[4]? = some (.bool s.zoom) := rfl
theorem sess_at0 (s : SessS) : (sessA s)[0]? = some (.string s.name) := rfl
theorem sess_at1 (s : SessS) : (sessA s)[1]? = some (.slice s.wA s.wins.length s.wc) := rfl
theorem sess_at2 (s : SessS) : (sessA s)[2]? = some (.int .i64 s.active) := rfl
theorem st_at0 (s : StS) : (stA s)[0]? = some (.int .i64 s.w) := rfl
theorem st_at1 (s : StS) : (stA s)[1]? = some (.int .i64 s.h) := rfl
theorem st_at2 (s : StS) : (stA s)[2]? = some (.int .i64 s.lim) := rfl
theorem st_at3 (s : StS) : (stA s)[3]? = some (.int .i64 s.next) := rfl
theorem st_at4 (s : StS) : (stA s)[4]? = some (.slice s.pA s.panes.length s.pc) := rfl
theorem st_at5 (s : StS) : (stA s)[5]? = some (.slice s.wA s.wins.length s.wc) := rfl
theorem st_at6 (s : StS) : (stA s)[6]? = some (.slice s.eA s.sess.length s.ec) := rfl
end Go.Proofs.YtgnpgkkjcloghaaGreatDoor.St
